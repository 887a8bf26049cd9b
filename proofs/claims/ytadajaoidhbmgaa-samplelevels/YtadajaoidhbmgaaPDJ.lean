/- Several texts in one. -/
import Derived.Test.YtadajaoidhbmgaaPC
import Derived.Test.YtadajaoidhbmgaaW1J
/-
  Pixels: the walks of pixel (the bytes of one pixel) and of whole (bytes as a number). What the dump lacks is left out.
-/
namespace Go.Proofs.Ytadajaoidhbmgaa
open Go.RowKit

theorem siz_three {f : Nat} (h1 : 1 ≤ f) (h7 : f ≤ 7) : siz f = 1 ∨ siz f = 2 ∨ siz f = 4 := by
  rcases (by omega : f = 1 ∨ f = 2 ∨ f = 3 ∨ f = 4 ∨ f = 5 ∨ f = 6 ∨ f = 7) with rfl | rfl | rfl | rfl | rfl | rfl | rfl <;> decide

theorem sl_eq {b o o' n n' c c' : Nat} (h1 : o = o') (h2 : n = n') (h3 : c = c') : Ending.returned (.slice (some ⟨b, o, none⟩) n c) = .returned (.slice (some ⟨b, o', none⟩) n' c') := by subst h1 h2 h3; rfl

theorem took_all (xs : List Int) : (took xs 0 0 (xs.length : Int)).1 = xs := by
  rw [took_full (by omega) (by simp)]
  simp
theorem ext_grownP {w w1 w2 : World} {rb : Nat} (h : Ext w w1) (hg : w1.grownBy w2 (some rb)) (hb : w.heap.size ≤ rb) : Ext w w2 := below_grown h hg h.size hb

set_option maxHeartbeats 1000000 in
theorem whole_any (ao : Option Addr) (cap : Nat) (xs : List Int) (w : World) (hr : Row .u8 w (.slice ao xs.length cap) xs) (hB : Byt xs) (hl : xs.length = 1 ∨ xs.length = 2 ∨ xs.length = 4) :
    Calls Try.prog 58 #[.slice ao xs.length cap] w fun e w' => e = .returned (.int .u32 (numOf xs)) ∧ Ext w w' := by
  have hb := numOf_le xs hB xs.length (Nat.le_refl _)
  have HT := hide (took_all xs)
  go_enter Try.func58, Try.ntmps58
  go_wp2_with fail
  refine (read_any _ xs w hr (by omega) hB).mono ?_
  rintro e w1 ⟨rb, sv, rfl, hrb, hrd, hx⟩
  have D := hide (And.intro hrb (And.intro hrd (show Ext w w1 from hx)))
  clear hrb hrd hx hr
  rcases hl with h | h | h
  · rw [h] at HT hb ⊢
    have hd : ((1 : Nat) : Int) = 1 := rfl
    go_wp2_with fail
    refine (u8_any (unhide D).2.1).mono ?_
    rintro e w2 ⟨rfl, _, hg⟩
    rw [show (took xs 0 0 1).1 = xs from unhide HT]
    have X := hide (ext_grownP (unhide D).2.2 hg (unhide D).1)
    clear hg
    go_wp2
    go_ret
    exact ⟨rfl, unhide X⟩
  · rw [h] at HT hb ⊢
    have hd : ((2 : Nat) : Int) = 2 := rfl
    go_wp2_with fail
    refine (u16_any (unhide D).2.1).mono ?_
    rintro e w2 ⟨rfl, _, hg⟩
    rw [show (took xs 0 0 2).1 = xs from unhide HT]
    have X := hide (ext_grownP (unhide D).2.2 hg (unhide D).1)
    clear hg
    go_wp2
    go_ret
    exact ⟨rfl, unhide X⟩
  · rw [h] at HT hb ⊢
    have hd : ((4 : Nat) : Int) = 4 := rfl
    go_wp2_with fail
    refine (u32_any (unhide D).2.1).mono ?_
    rintro e w2 ⟨rfl, _, hg⟩
    rw [show (took xs 0 0 4).1 = xs from unhide HT]
    have X := hide (ext_grownP (unhide D).2.2 hg (unhide D).1)
    clear hg
    go_wp2
    go_ret
    exact ⟨rfl, unhide X⟩
end Go.Proofs.Ytadajaoidhbmgaa

/-
  Pixels: the walk of number: a colour's channels as one number. What the dump lacks is left out.
-/
namespace Go.Proofs.Ytadajaoidhbmgaa
open Go.RowKit

/-- The number that the first k channels make. -/
def packK (L : Nat → Nat) (c : Nat → Int) : Nat → Int
  | 0 => 0
  | k + 1 => if 0 < L (4 * k) then bits .or .u32 (packK L c k) (bitsI (c (L (4 * k + 2))) (L (4 * k)) * 2 ^ L (4 * k + 1) % 4294967296) else packK L c k
/-- The numbers of a layout's channels are within what they may be. -/
def LOK (L : Nat → Nat) : Prop := ∀ k, k < 4 → L (4 * k) ≤ 16 ∧ L (4 * k + 1) ≤ 31 ∧ L (4 * k + 2) ≤ 3 ∧ L (4 * k + 3) ≤ 3

theorem chans_range (F S : Nat) (O : Bool) (L : Nat → Nat) (w : World) : (w.alloc (.cells (layA F S O L) 75)).rangeAt w.heap.size 3 [.int .i64 ((L 0 : Nat) : Int), .int .i64 ((L 1 : Nat) : Int), .int .i64 ((L 2 : Nat) : Int), .int .i64 ((L 3 : Nat) : Int), .int .i64 ((L 4 : Nat) : Int), .int .i64 ((L 5 : Nat) : Int), .int .i64 ((L 6 : Nat) : Int), .int .i64 ((L 7 : Nat) : Int), .int .i64 ((L 8 : Nat) : Int), .int .i64 ((L 9 : Nat) : Int), .int .i64 ((L 10 : Nat) : Int), .int .i64 ((L 11 : Nat) : Int), .int .i64 ((L 12 : Nat) : Int), .int .i64 ((L 13 : Nat) : Int), .int .i64 ((L 14 : Nat) : Int), .int .i64 ((L 15 : Nat) : Int)] := by
  intro j v hv
  refine (Blk.at rfl).cell ?_
  have hj : j < 16 := by simpa using (List.getElem?_eq_some_iff.1 hv).1
  have e : (layA F S O L).toList.drop 3 = [.int .i64 ((L 0 : Nat) : Int), .int .i64 ((L 1 : Nat) : Int), .int .i64 ((L 2 : Nat) : Int), .int .i64 ((L 3 : Nat) : Int), .int .i64 ((L 4 : Nat) : Int), .int .i64 ((L 5 : Nat) : Int), .int .i64 ((L 6 : Nat) : Int), .int .i64 ((L 7 : Nat) : Int), .int .i64 ((L 8 : Nat) : Int), .int .i64 ((L 9 : Nat) : Int), .int .i64 ((L 10 : Nat) : Int), .int .i64 ((L 11 : Nat) : Int), .int .i64 ((L 12 : Nat) : Int), .int .i64 ((L 13 : Nat) : Int), .int .i64 ((L 14 : Nat) : Int), .int .i64 ((L 15 : Nat) : Int)] := rfl
  rw [← e, List.getElem?_drop] at hv
  simpa using hv
theorem range_alloc {w : World} {b o : Nat} {cs : List Value} (h : w.rangeAt b o cs) (x : Obj) : (w.alloc x).rangeAt b o cs := by
  intro j v hv
  have := h j v hv
  rw [World.cell?_of_block (w := w) (heap_alloc_old w x (World.block_lt_of_cell? w _ this))]
  exact this
theorem size58 : (Try.prog.info? 73).map (·.size) = some 16 := by kernel_rfl
theorem index58_0 (L : Nat → Nat) (w : World) : (Instr.index 73 (.agg #[.int .i64 ((L 0 : Nat) : Int), .int .i64 ((L 1 : Nat) : Int), .int .i64 ((L 2 : Nat) : Int), .int .i64 ((L 3 : Nat) : Int), .int .i64 ((L 4 : Nat) : Int), .int .i64 ((L 5 : Nat) : Int), .int .i64 ((L 6 : Nat) : Int), .int .i64 ((L 7 : Nat) : Int), .int .i64 ((L 8 : Nat) : Int), .int .i64 ((L 9 : Nat) : Int), .int .i64 ((L 10 : Nat) : Int), .int .i64 ((L 11 : Nat) : Int), .int .i64 ((L 12 : Nat) : Int), .int .i64 ((L 13 : Nat) : Int), .int .i64 ((L 14 : Nat) : Int), .int .i64 ((L 15 : Nat) : Int)]) (.int .i64 0)).run Try.prog w = .ok (.agg #[.int .i64 ((L 0 : Nat) : Int), .int .i64 ((L 1 : Nat) : Int), .int .i64 ((L 2 : Nat) : Int), .int .i64 ((L 3 : Nat) : Int)]) w := by kernel_rfl
theorem index58_1 (L : Nat → Nat) (w : World) : (Instr.index 73 (.agg #[.int .i64 ((L 0 : Nat) : Int), .int .i64 ((L 1 : Nat) : Int), .int .i64 ((L 2 : Nat) : Int), .int .i64 ((L 3 : Nat) : Int), .int .i64 ((L 4 : Nat) : Int), .int .i64 ((L 5 : Nat) : Int), .int .i64 ((L 6 : Nat) : Int), .int .i64 ((L 7 : Nat) : Int), .int .i64 ((L 8 : Nat) : Int), .int .i64 ((L 9 : Nat) : Int), .int .i64 ((L 10 : Nat) : Int), .int .i64 ((L 11 : Nat) : Int), .int .i64 ((L 12 : Nat) : Int), .int .i64 ((L 13 : Nat) : Int), .int .i64 ((L 14 : Nat) : Int), .int .i64 ((L 15 : Nat) : Int)]) (.int .i64 1)).run Try.prog w = .ok (.agg #[.int .i64 ((L 4 : Nat) : Int), .int .i64 ((L 5 : Nat) : Int), .int .i64 ((L 6 : Nat) : Int), .int .i64 ((L 7 : Nat) : Int)]) w := by kernel_rfl
theorem index58_2 (L : Nat → Nat) (w : World) : (Instr.index 73 (.agg #[.int .i64 ((L 0 : Nat) : Int), .int .i64 ((L 1 : Nat) : Int), .int .i64 ((L 2 : Nat) : Int), .int .i64 ((L 3 : Nat) : Int), .int .i64 ((L 4 : Nat) : Int), .int .i64 ((L 5 : Nat) : Int), .int .i64 ((L 6 : Nat) : Int), .int .i64 ((L 7 : Nat) : Int), .int .i64 ((L 8 : Nat) : Int), .int .i64 ((L 9 : Nat) : Int), .int .i64 ((L 10 : Nat) : Int), .int .i64 ((L 11 : Nat) : Int), .int .i64 ((L 12 : Nat) : Int), .int .i64 ((L 13 : Nat) : Int), .int .i64 ((L 14 : Nat) : Int), .int .i64 ((L 15 : Nat) : Int)]) (.int .i64 2)).run Try.prog w = .ok (.agg #[.int .i64 ((L 8 : Nat) : Int), .int .i64 ((L 9 : Nat) : Int), .int .i64 ((L 10 : Nat) : Int), .int .i64 ((L 11 : Nat) : Int)]) w := by kernel_rfl
theorem index58_3 (L : Nat → Nat) (w : World) : (Instr.index 73 (.agg #[.int .i64 ((L 0 : Nat) : Int), .int .i64 ((L 1 : Nat) : Int), .int .i64 ((L 2 : Nat) : Int), .int .i64 ((L 3 : Nat) : Int), .int .i64 ((L 4 : Nat) : Int), .int .i64 ((L 5 : Nat) : Int), .int .i64 ((L 6 : Nat) : Int), .int .i64 ((L 7 : Nat) : Int), .int .i64 ((L 8 : Nat) : Int), .int .i64 ((L 9 : Nat) : Int), .int .i64 ((L 10 : Nat) : Int), .int .i64 ((L 11 : Nat) : Int), .int .i64 ((L 12 : Nat) : Int), .int .i64 ((L 13 : Nat) : Int), .int .i64 ((L 14 : Nat) : Int), .int .i64 ((L 15 : Nat) : Int)]) (.int .i64 3)).run Try.prog w = .ok (.agg #[.int .i64 ((L 12 : Nat) : Int), .int .i64 ((L 13 : Nat) : Int), .int .i64 ((L 14 : Nat) : Int), .int .i64 ((L 15 : Nat) : Int)]) w := by kernel_rfl
theorem Blk.vec {w : World} {b : Nat} {a : Nat → Int} {t : TypeId} (h : Blk w b #[.int .i32 (a 0), .int .i32 (a 1), .int .i32 (a 2), .int .i32 (a 3)] t) (k : Nat) (hk : k < 4) : w.cell? ⟨b, k, none⟩ = some (.int .i32 (a k)) := by
  refine h.cell ?_
  rcases (by omega : k = 0 ∨ k = 1 ∨ k = 2 ∨ k = 3) with rfl | rfl | rfl | rfl <;> rfl

end Go.Proofs.Ytadajaoidhbmgaa

/-
  Pixels: the walk of colour: the colour of a pixel's bytes.
-/
namespace Go.Proofs.Ytadajaoidhbmgaa
open Go.RowKit

/-- A colour ahead of its channels. -/
def col0 (O : Bool) : Nat → Int := fun i => if O = true ∧ i = 3 then 65536 else 0
/-- c, but n at the places from p, below q. -/
def colS (c : Nat → Int) (p q : Nat) (n : Int) : Nat → Int := fun i => if p ≤ i ∧ i < q then n else c i
/-- The number that channel k of the bytes' number x stands for. -/
def chanN (L : Nat → Nat) (x : Int) (k : Nat) : Int := numI (x / 2 ^ L (4 * k + 1) % 2 ^ L (4 * k)) (L (4 * k))
/-- The colour behind the first k channels. -/
def colK (O : Bool) (L : Nat → Nat) (x : Int) : Nat → Nat → Int
  | 0 => col0 O
  | k + 1 => if L (4 * k) = 0 then colK O L x k else colS (colK O L x k) (L (4 * k + 2)) (L (4 * k + 3) + 1) (chanN L x k)
/-- The places go up. -/
def LUp (L : Nat → Nat) : Prop := ∀ k, k < 4 → L (4 * k + 2) ≤ L (4 * k + 3)

theorem and_full (x : Int) (k : Nat) (h0 : 0 ≤ x) (h1 : x < 4294967296) (hk : k ≤ 16) : bits .and .u32 x (fullI k) = x % 2 ^ k := by
  obtain ⟨X, rfl⟩ := Int.eq_ofNat_of_zero_le h0
  have b : 2 ^ k ≤ 2 ^ 16 := Nat.pow_le_pow_right (by decide) hk
  have p : 0 < 2 ^ k := Nat.pow_pos (by decide)
  have e : fullI k = ((2 ^ k - 1 : Nat) : Int) := by
    unfold fullI
    have : (2 : Int) ^ k = ((2 ^ k : Nat) : Int) := by simp
    omega
  rw [e, u32_and_nat X (2 ^ k - 1) (by omega) (by omega), Nat.and_two_pow_sub_one_eq_mod]
  simp
theorem mod_full (x : Int) (k : Nat) : 0 ≤ x % 2 ^ k ∧ x % 2 ^ k ≤ fullI k := by
  have p : (0 : Int) < 2 ^ k := Int.pow_pos (by decide)
  have h1 := Int.emod_nonneg x (show (2 : Int) ^ k ≠ 0 by omega)
  have h2 := Int.emod_lt_of_pos x p
  unfold fullI
  omega
theorem shr_bound (x : Int) (k : Nat) (h0 : 0 ≤ x) (h1 : x < 4294967296) : 0 ≤ x / 2 ^ k ∧ x / 2 ^ k < 4294967296 :=
  ⟨Int.ediv_nonneg h0 (Int.pow_nonneg (by decide)), Int.lt_of_le_of_lt (Int.ediv_le_self _ h0) h1⟩

theorem colS_none (c : Nat → Int) (p : Nat) (n : Int) : colS c p p n = c := by
  funext i
  unfold colS
  rw [if_neg (by omega)]
theorem colS_set (c : Nat → Int) (p q : Nat) (n : Int) (hp : p ≤ q) (hq : q < 4) : (#[.int .i32 (colS c p q n 0), .int .i32 (colS c p q n 1), .int .i32 (colS c p q n 2), .int .i32 (colS c p q n 3)] : Array Value).setIfInBounds q (.int .i32 n) = #[.int .i32 (colS c p (q + 1) n 0), .int .i32 (colS c p (q + 1) n 1), .int .i32 (colS c p (q + 1) n 2), .int .i32 (colS c p (q + 1) n 3)] := by
  rcases (by omega : q = 0 ∨ q = 1 ∨ q = 2 ∨ q = 3) with rfl | rfl | rfl | rfl <;> simp [colS, hp] <;> omega
theorem ext_set {w w1 : World} {b i : Nat} {v : Value} (h : Ext w w1) (hb : w.heap.size ≤ b) : Ext w (w1.setCell ⟨b, i, none⟩ v) :=
  below_grown h (grownBy_set w1 b i v) h.size hb
theorem Blk.vec4 {w : World} {b : Nat} {a : Nat → Int} {t : TypeId} (h : Blk w b #[.int .i32 (a 0), .int .i32 (a 1), .int .i32 (a 2), .int .i32 (a 3)] t) : w.cell? ⟨b, 0, none⟩ = some (.int .i32 (a 0)) ∧ w.cell? ⟨b, 1, none⟩ = some (.int .i32 (a 1)) ∧ w.cell? ⟨b, 2, none⟩ = some (.int .i32 (a 2)) ∧ w.cell? ⟨b, 3, none⟩ = some (.int .i32 (a 3)) :=
  ⟨h.vec 0 (by omega), h.vec 1 (by omega), h.vec 2 (by omega), h.vec 3 (by omega)⟩
theorem Blk.range {w : World} {b : Nat} {cs : Array Value} {t : TypeId} (h : Blk w b cs t) (o : Nat) (l : List Value) (e : (cs.toList.drop o).take l.length = l) : w.rangeAt b o l := by
  intro j v hv
  refine h.cell ?_
  have hj : j < l.length := (List.getElem?_eq_some_iff.1 hv).1
  rw [← e, List.getElem?_take_of_lt hj, List.getElem?_drop] at hv
  simpa using hv
theorem vec_one (c : Nat → Int) : (#[.int .i32 (c 0), .int .i32 (c 1), .int .i32 (c 2), .int .i32 (c 3)] : Array Value).all (·.oneCell') = true := by simp [Value.oneCell']
theorem size35 : (Try.prog.info? 30).map (·.size) = some 4 := by kernel_rfl

set_option maxHeartbeats 2000000 in
theorem colour_lay (F S : Nat) (O : Bool) (L : Nat → Nat) (ao : Option Addr) (cap : Nat) (xs : List Int) (w : World) (hL : LOK L) (hU : LUp L) (hr : Row .u8 w (.slice ao xs.length cap) xs) (hB : Byt xs) (hl : xs.length = 1 ∨ xs.length = 2 ∨ xs.length = 4) :
    Calls Try.prog 48 #[.agg (layA F S O L), .slice ao xs.length cap] w fun e w' => e = .returned (.agg #[.int .i32 (colK O L (numOf xs) 4 0), .int .i32 (colK O L (numOf xs) 4 1), .int .i32 (colK O L (numOf xs) 4 2), .int .i32 (colK O L (numOf xs) 4 3)]) ∧ Ext w w' := by
  have HN := hide (numOf_le xs hB 4 (by omega))
  have HL := hide hL
  have HU := hide hU
  have c2 : ∀ x y, (((w.alloc (.cells (layA F S O L) 75)).alloc x).alloc y).cell? ⟨w.heap.size, 2, none⟩ = some (.bool O) := fun x y => (((Blk.at rfl).alloc _).alloc _).cell rfl
  go_enter Try.func48, Try.ntmps48
  cases O with
  | false =>
    go_wp2_with fail
    refine (whole_any ao cap xs _ (hr.ext ((((Ext.refl w).alloc _).alloc _).alloc _)) hB hl).mono ?_
    rintro e w1 ⟨rfl, hx⟩
    have D0 := hide (And.intro ((((Blk.at rfl).alloc _).alloc _).ext hx) (And.intro (((Blk.at (b := w.heap.size + 1) (by simp)).alloc _).ext hx) (And.intro ((Blk.at (b := w.heap.size + 1 + 1) (by simp)).ext hx) (((((Ext.refl w).alloc _).alloc _).alloc _).trans hx))))
    have R := hide ((unhide D0).1.range 3 [.int .i64 ((L 0 : Nat) : Int), .int .i64 ((L 1 : Nat) : Int), .int .i64 ((L 2 : Nat) : Int), .int .i64 ((L 3 : Nat) : Int), .int .i64 ((L 4 : Nat) : Int), .int .i64 ((L 5 : Nat) : Int), .int .i64 ((L 6 : Nat) : Int), .int .i64 ((L 7 : Nat) : Int), .int .i64 ((L 8 : Nat) : Int), .int .i64 ((L 9 : Nat) : Int), .int .i64 ((L 10 : Nat) : Int), .int .i64 ((L 11 : Nat) : Int), .int .i64 ((L 12 : Nat) : Int), .int .i64 ((L 13 : Nat) : Int), .int .i64 ((L 14 : Nat) : Int), .int .i64 ((L 15 : Nat) : Int)] rfl)
    clear hx hr c2 hL hU
    obtain ⟨x, hx⟩ : ∃ x, x = numOf xs := ⟨_, rfl⟩
    have HX := hide hx
    rw [← hx] at HN
    rw [← hx]
    clear hx
    have hx0 := (unhide HN).1
    have hx1 : x < 4294967296 := by have := (unhide HN).2; omega
    go_wp2_with (refine wpList_load_mid rfl 73 (.tmp 16) rfl w.heap.size 3 rfl [.int .i64 ((L 0 : Nat) : Int), .int .i64 ((L 1 : Nat) : Int), .int .i64 ((L 2 : Nat) : Int), .int .i64 ((L 3 : Nat) : Int), .int .i64 ((L 4 : Nat) : Int), .int .i64 ((L 5 : Nat) : Int), .int .i64 ((L 6 : Nat) : Int), .int .i64 ((L 7 : Nat) : Int), .int .i64 ((L 8 : Nat) : Int), .int .i64 ((L 9 : Nat) : Int), .int .i64 ((L 10 : Nat) : Int), .int .i64 ((L 11 : Nat) : Int), .int .i64 ((L 12 : Nat) : Int), .int .i64 ((L 13 : Nat) : Int), .int .i64 ((L 14 : Nat) : Int), .int .i64 ((L 15 : Nat) : Int)] _ (unhide R) Try.underlying73 rfl size58 ?_)
    go_loopw [18] (fun i wr => ∃ k : Nat, k ≤ 4 ∧ i = .int .i64 k ∧ Blk wr (w.heap.size + 1) #[.int .i32 0, .int .i32 0, .int .i32 0, .int .i32 0] 30 ∧ Blk wr (w.heap.size + 1 + 1) #[.int .i32 (colK false L x k 0), .int .i32 (colK false L x k 1), .int .i32 (colK false L x k 2), .int .i32 (colK false L x k 3)] 30 ∧ Ext w wr) (fun i _ => 4 - (intOf i).toNat)
    case atStart => exact ⟨0, by omega, rfl, (unhide D0).2.1, (unhide D0).2.2.1, (unhide D0).2.2.2⟩
    case round =>
      obtain ⟨k, hk, rfl, hb0, hb1, hxx⟩ := hrel
      have D := hide (And.intro hb0 (And.intro hb1 hxx))
      clear hb0 hb1 hxx D0 R
      by_cases h4 : k = 4
      · subst h4
        go_wp2_with (first
          | refine wpList_load_row rfl 30 (.tmp 5) rfl (w.heap.size + 1 + 1) rfl 30 #[.int .i32 (colK false L x 4 0), .int .i32 (colK false L x 4 1), .int .i32 (colK false L x 4 2), .int .i32 (colK false L x 4 3)] (0, 0) _ (unhide D).2.1 Try.underlying30 rfl size35 ?_
          | refine wpList_store_row rfl 30 (.tmp 4) (.tmp 47) rfl (w.heap.size + 1) #[.int .i32 (colK false L x 4 0), .int .i32 (colK false L x 4 1), .int .i32 (colK false L x 4 2), .int .i32 (colK false L x 4 3)] rfl rfl 30 _ (unhide D).1 size35 rfl (vec_one _) ?_)
        refine bodyPost_ret (v := .agg #[.int .i32 (colK false L x 4 0), .int .i32 (colK false L x 4 1), .int .i32 (colK false L x 4 2), .int .i32 (colK false L x 4 3)]) (results_cell_row Try.results48 _ _ (w.heap.size + 1) 30 _ (0, 0) _ rfl (unhide D).1.row Try.underlying30 rfl size35) rfl ⟨by rw [unhide HX], ?_⟩
        exact ext_row (unhide D).2.2 (by omega)
      · rcases (by omega : k = 0 ∨ k = 1 ∨ k = 2 ∨ k = 3) with rfl | rfl | rfl | rfl
        · have ht := unhide HL 0 (by omega)
          have hu := unhide HU 0 (by omega)
          simp only [Nat.reduceMul, Nat.reduceAdd] at ht hu
          have E1 : Hid (¬ L 0 = 0 → colK false L x 1 = colS (colK false L x 0) (L 2) (L 3 + 1) (chanN L x 0)) := fun h => if_neg h
          have E2 : Hid (L 0 = 0 → colK false L x 1 = colK false L x 0) := fun h => if_pos h
          have D1 := hide (And.intro ((unhide D).1.alloc (.cells #[.int .i64 ((L 0 : Nat) : Int), .int .i64 ((L 1 : Nat) : Int), .int .i64 ((L 2 : Nat) : Int), .int .i64 ((L 3 : Nat) : Int)] 72)) (And.intro ((unhide D).2.1.alloc (.cells #[.int .i64 ((L 0 : Nat) : Int), .int .i64 ((L 1 : Nat) : Int), .int .i64 ((L 2 : Nat) : Int), .int .i64 ((L 3 : Nat) : Int)] 72)) (And.intro ((unhide D).2.2.alloc (.cells #[.int .i64 ((L 0 : Nat) : Int), .int .i64 ((L 1 : Nat) : Int), .int .i64 ((L 2 : Nat) : Int), .int .i64 ((L 3 : Nat) : Int)] 72)) (Blk.new wr #[.int .i64 ((L 0 : Nat) : Int), .int .i64 ((L 1 : Nat) : Int), .int .i64 ((L 2 : Nat) : Int), .int .i64 ((L 3 : Nat) : Int)] 72))))
          have hlt := (unhide D).2.1.lt
          have hix := index58_0 L
          have hs4 : ((L 1 : Nat) : Int) < 32 := by omega
          have hsb := shr_bound x (L 1) hx0 hx1
          have hand := and_full (x / 2 ^ L 1) (L 0) hsb.1 hsb.2 (by omega)
          have hm := mod_full (x / 2 ^ L 1) (L 0)
          have hf := full_nonneg (k := L 0) (by omega)
          have HC : Hid (numI (x / 2 ^ L 1 % 2 ^ L 0) (L 0) = chanN L x 0) := rfl
          clear D
          generalize colK false L x 0 = c at *
          generalize x / 2 ^ L 1 % 2 ^ L 0 = y at *
          by_cases h0 : L 0 = 0
          · have h0b : (((L 0 : Nat) : Int) == 0) = true := by simp; omega
            have H0 := hide h0
            clear h0 hand hm hf hsb HC E1
            go_wp2
            go_roundw
            case rel => exact ⟨1, by omega, rfl, (unhide D1).1, by rw [unhide E2 (unhide H0)]; exact (unhide D1).2.1, (unhide D1).2.2.1⟩
            case measure => simp [intOf]
          · have h0b : (((L 0 : Nat) : Int) == 0) = false := by simp; omega
            go_wp2
            go_quiet (first | (go_at_call 60; refine Calls.quiet_of_same (full_any (L 0) _ (by omega))) | (go_at_call 59; refine Calls.quiet_of_same (numberOf_any y (L 0) _ (by omega) (by omega) hm.1 hm.2)))
            rw [unhide HC]
            generalize chanN L x 0 = n at *
            go_wp2
            go_loopw [10] (fun i wr2 => ∃ q : Nat, L 2 ≤ q ∧ q ≤ L 3 + 1 ∧ i = .int .i64 q ∧ Blk wr2 (w.heap.size + 1) #[.int .i32 0, .int .i32 0, .int .i32 0, .int .i32 0] 30 ∧ Blk wr2 (w.heap.size + 1 + 1) #[.int .i32 (colS c (L 2) q n 0), .int .i32 (colS c (L 2) q n 1), .int .i32 (colS c (L 2) q n 2), .int .i32 (colS c (L 2) q n 3)] 30 ∧ Ext w wr2 ∧ Blk wr2 wr.heap.size #[.int .i64 ((L 0 : Nat) : Int), .int .i64 ((L 1 : Nat) : Int), .int .i64 ((L 2 : Nat) : Int), .int .i64 ((L 3 : Nat) : Int)] 72) (fun i _ => 5 - (intOf i).toNat)
            case atStart => exact ⟨L 2, by omega, by omega, rfl, (unhide D1).1.drewN _, by rw [colS_none]; exact (unhide D1).2.1.drewN _, (unhide D1).2.2.1.drewN _, (unhide D1).2.2.2.drewN _⟩
            case round =>
              obtain ⟨q, hq0, hq1, rfl, hb0, hb1, hxx, hch⟩ := hrel
              have hch3 := hch.cell (i := 3) rfl
              have hq4 : (q : Int) < 4 ∨ (q : Int) = 4 := by omega
              by_cases hql : q ≤ L 3
              · have hq3 : q < 4 := by omega
                have hcell := hb1.vec q hq3
                have hfr := hb1.free q
                have D2 := hide (And.intro hb0 (And.intro hb1 (And.intro hxx hch)))
                clear hb0 hb1 hxx hch D1
                go_wp2
                go_roundw
                case rel =>
                  refine ⟨q + 1, by omega, by omega, by go_num, (unhide D2).1.other q _ (by omega), ?_, ext_set (unhide D2).2.2.1 (by omega), (unhide D2).2.2.2.other q _ (by omega)⟩
                  have := (unhide D2).2.1.set q (.int .i32 n)
                  rw [colS_set c (L 2) q n (by omega) hq3] at this
                  exact this
                case measure => simp [intOf]; omega
              · have hqe : q = L 3 + 1 := by omega
                have D2 := hide (And.intro hb0 (And.intro hb1 hxx))
                clear hb0 hb1 hxx hch D1
                go_wp2
                go_roundw
                case rel => exact ⟨1, by omega, rfl, (unhide D2).1, by rw [unhide E1 h0, ← hqe]; exact (unhide D2).2.1, (unhide D2).2.2⟩
                case measure => simp [intOf]
        · have ht := unhide HL 1 (by omega)
          have hu := unhide HU 1 (by omega)
          simp only [Nat.reduceMul, Nat.reduceAdd] at ht hu
          have E1 : Hid (¬ L 4 = 0 → colK false L x 2 = colS (colK false L x 1) (L 6) (L 7 + 1) (chanN L x 1)) := fun h => if_neg h
          have E2 : Hid (L 4 = 0 → colK false L x 2 = colK false L x 1) := fun h => if_pos h
          have D1 := hide (And.intro ((unhide D).1.alloc (.cells #[.int .i64 ((L 4 : Nat) : Int), .int .i64 ((L 5 : Nat) : Int), .int .i64 ((L 6 : Nat) : Int), .int .i64 ((L 7 : Nat) : Int)] 72)) (And.intro ((unhide D).2.1.alloc (.cells #[.int .i64 ((L 4 : Nat) : Int), .int .i64 ((L 5 : Nat) : Int), .int .i64 ((L 6 : Nat) : Int), .int .i64 ((L 7 : Nat) : Int)] 72)) (And.intro ((unhide D).2.2.alloc (.cells #[.int .i64 ((L 4 : Nat) : Int), .int .i64 ((L 5 : Nat) : Int), .int .i64 ((L 6 : Nat) : Int), .int .i64 ((L 7 : Nat) : Int)] 72)) (Blk.new wr #[.int .i64 ((L 4 : Nat) : Int), .int .i64 ((L 5 : Nat) : Int), .int .i64 ((L 6 : Nat) : Int), .int .i64 ((L 7 : Nat) : Int)] 72))))
          have hlt := (unhide D).2.1.lt
          have hix := index58_1 L
          have hs4 : ((L 5 : Nat) : Int) < 32 := by omega
          have hsb := shr_bound x (L 5) hx0 hx1
          have hand := and_full (x / 2 ^ L 5) (L 4) hsb.1 hsb.2 (by omega)
          have hm := mod_full (x / 2 ^ L 5) (L 4)
          have hf := full_nonneg (k := L 4) (by omega)
          have HC : Hid (numI (x / 2 ^ L 5 % 2 ^ L 4) (L 4) = chanN L x 1) := rfl
          clear D
          generalize colK false L x 1 = c at *
          generalize x / 2 ^ L 5 % 2 ^ L 4 = y at *
          by_cases h0 : L 4 = 0
          · have h0b : (((L 4 : Nat) : Int) == 0) = true := by simp; omega
            have H0 := hide h0
            clear h0 hand hm hf hsb HC E1
            go_wp2
            go_roundw
            case rel => exact ⟨2, by omega, rfl, (unhide D1).1, by rw [unhide E2 (unhide H0)]; exact (unhide D1).2.1, (unhide D1).2.2.1⟩
            case measure => simp [intOf]
          · have h0b : (((L 4 : Nat) : Int) == 0) = false := by simp; omega
            go_wp2
            go_quiet (first | (go_at_call 60; refine Calls.quiet_of_same (full_any (L 4) _ (by omega))) | (go_at_call 59; refine Calls.quiet_of_same (numberOf_any y (L 4) _ (by omega) (by omega) hm.1 hm.2)))
            rw [unhide HC]
            generalize chanN L x 1 = n at *
            go_wp2
            go_loopw [10] (fun i wr2 => ∃ q : Nat, L 6 ≤ q ∧ q ≤ L 7 + 1 ∧ i = .int .i64 q ∧ Blk wr2 (w.heap.size + 1) #[.int .i32 0, .int .i32 0, .int .i32 0, .int .i32 0] 30 ∧ Blk wr2 (w.heap.size + 1 + 1) #[.int .i32 (colS c (L 6) q n 0), .int .i32 (colS c (L 6) q n 1), .int .i32 (colS c (L 6) q n 2), .int .i32 (colS c (L 6) q n 3)] 30 ∧ Ext w wr2 ∧ Blk wr2 wr.heap.size #[.int .i64 ((L 4 : Nat) : Int), .int .i64 ((L 5 : Nat) : Int), .int .i64 ((L 6 : Nat) : Int), .int .i64 ((L 7 : Nat) : Int)] 72) (fun i _ => 5 - (intOf i).toNat)
            case atStart => exact ⟨L 6, by omega, by omega, rfl, (unhide D1).1.drewN _, by rw [colS_none]; exact (unhide D1).2.1.drewN _, (unhide D1).2.2.1.drewN _, (unhide D1).2.2.2.drewN _⟩
            case round =>
              obtain ⟨q, hq0, hq1, rfl, hb0, hb1, hxx, hch⟩ := hrel
              have hch3 := hch.cell (i := 3) rfl
              have hq4 : (q : Int) < 4 ∨ (q : Int) = 4 := by omega
              by_cases hql : q ≤ L 7
              · have hq3 : q < 4 := by omega
                have hcell := hb1.vec q hq3
                have hfr := hb1.free q
                have D2 := hide (And.intro hb0 (And.intro hb1 (And.intro hxx hch)))
                clear hb0 hb1 hxx hch D1
                go_wp2
                go_roundw
                case rel =>
                  refine ⟨q + 1, by omega, by omega, by go_num, (unhide D2).1.other q _ (by omega), ?_, ext_set (unhide D2).2.2.1 (by omega), (unhide D2).2.2.2.other q _ (by omega)⟩
                  have := (unhide D2).2.1.set q (.int .i32 n)
                  rw [colS_set c (L 6) q n (by omega) hq3] at this
                  exact this
                case measure => simp [intOf]; omega
              · have hqe : q = L 7 + 1 := by omega
                have D2 := hide (And.intro hb0 (And.intro hb1 hxx))
                clear hb0 hb1 hxx hch D1
                go_wp2
                go_roundw
                case rel => exact ⟨2, by omega, rfl, (unhide D2).1, by rw [unhide E1 h0, ← hqe]; exact (unhide D2).2.1, (unhide D2).2.2⟩
                case measure => simp [intOf]
        · have ht := unhide HL 2 (by omega)
          have hu := unhide HU 2 (by omega)
          simp only [Nat.reduceMul, Nat.reduceAdd] at ht hu
          have E1 : Hid (¬ L 8 = 0 → colK false L x 3 = colS (colK false L x 2) (L 10) (L 11 + 1) (chanN L x 2)) := fun h => if_neg h
          have E2 : Hid (L 8 = 0 → colK false L x 3 = colK false L x 2) := fun h => if_pos h
          have D1 := hide (And.intro ((unhide D).1.alloc (.cells #[.int .i64 ((L 8 : Nat) : Int), .int .i64 ((L 9 : Nat) : Int), .int .i64 ((L 10 : Nat) : Int), .int .i64 ((L 11 : Nat) : Int)] 72)) (And.intro ((unhide D).2.1.alloc (.cells #[.int .i64 ((L 8 : Nat) : Int), .int .i64 ((L 9 : Nat) : Int), .int .i64 ((L 10 : Nat) : Int), .int .i64 ((L 11 : Nat) : Int)] 72)) (And.intro ((unhide D).2.2.alloc (.cells #[.int .i64 ((L 8 : Nat) : Int), .int .i64 ((L 9 : Nat) : Int), .int .i64 ((L 10 : Nat) : Int), .int .i64 ((L 11 : Nat) : Int)] 72)) (Blk.new wr #[.int .i64 ((L 8 : Nat) : Int), .int .i64 ((L 9 : Nat) : Int), .int .i64 ((L 10 : Nat) : Int), .int .i64 ((L 11 : Nat) : Int)] 72))))
          have hlt := (unhide D).2.1.lt
          have hix := index58_2 L
          have hs4 : ((L 9 : Nat) : Int) < 32 := by omega
          have hsb := shr_bound x (L 9) hx0 hx1
          have hand := and_full (x / 2 ^ L 9) (L 8) hsb.1 hsb.2 (by omega)
          have hm := mod_full (x / 2 ^ L 9) (L 8)
          have hf := full_nonneg (k := L 8) (by omega)
          have HC : Hid (numI (x / 2 ^ L 9 % 2 ^ L 8) (L 8) = chanN L x 2) := rfl
          clear D
          generalize colK false L x 2 = c at *
          generalize x / 2 ^ L 9 % 2 ^ L 8 = y at *
          by_cases h0 : L 8 = 0
          · have h0b : (((L 8 : Nat) : Int) == 0) = true := by simp; omega
            have H0 := hide h0
            clear h0 hand hm hf hsb HC E1
            go_wp2
            go_roundw
            case rel => exact ⟨3, by omega, rfl, (unhide D1).1, by rw [unhide E2 (unhide H0)]; exact (unhide D1).2.1, (unhide D1).2.2.1⟩
            case measure => simp [intOf]
          · have h0b : (((L 8 : Nat) : Int) == 0) = false := by simp; omega
            go_wp2
            go_quiet (first | (go_at_call 60; refine Calls.quiet_of_same (full_any (L 8) _ (by omega))) | (go_at_call 59; refine Calls.quiet_of_same (numberOf_any y (L 8) _ (by omega) (by omega) hm.1 hm.2)))
            rw [unhide HC]
            generalize chanN L x 2 = n at *
            go_wp2
            go_loopw [10] (fun i wr2 => ∃ q : Nat, L 10 ≤ q ∧ q ≤ L 11 + 1 ∧ i = .int .i64 q ∧ Blk wr2 (w.heap.size + 1) #[.int .i32 0, .int .i32 0, .int .i32 0, .int .i32 0] 30 ∧ Blk wr2 (w.heap.size + 1 + 1) #[.int .i32 (colS c (L 10) q n 0), .int .i32 (colS c (L 10) q n 1), .int .i32 (colS c (L 10) q n 2), .int .i32 (colS c (L 10) q n 3)] 30 ∧ Ext w wr2 ∧ Blk wr2 wr.heap.size #[.int .i64 ((L 8 : Nat) : Int), .int .i64 ((L 9 : Nat) : Int), .int .i64 ((L 10 : Nat) : Int), .int .i64 ((L 11 : Nat) : Int)] 72) (fun i _ => 5 - (intOf i).toNat)
            case atStart => exact ⟨L 10, by omega, by omega, rfl, (unhide D1).1.drewN _, by rw [colS_none]; exact (unhide D1).2.1.drewN _, (unhide D1).2.2.1.drewN _, (unhide D1).2.2.2.drewN _⟩
            case round =>
              obtain ⟨q, hq0, hq1, rfl, hb0, hb1, hxx, hch⟩ := hrel
              have hch3 := hch.cell (i := 3) rfl
              have hq4 : (q : Int) < 4 ∨ (q : Int) = 4 := by omega
              by_cases hql : q ≤ L 11
              · have hq3 : q < 4 := by omega
                have hcell := hb1.vec q hq3
                have hfr := hb1.free q
                have D2 := hide (And.intro hb0 (And.intro hb1 (And.intro hxx hch)))
                clear hb0 hb1 hxx hch D1
                go_wp2
                go_roundw
                case rel =>
                  refine ⟨q + 1, by omega, by omega, by go_num, (unhide D2).1.other q _ (by omega), ?_, ext_set (unhide D2).2.2.1 (by omega), (unhide D2).2.2.2.other q _ (by omega)⟩
                  have := (unhide D2).2.1.set q (.int .i32 n)
                  rw [colS_set c (L 10) q n (by omega) hq3] at this
                  exact this
                case measure => simp [intOf]; omega
              · have hqe : q = L 11 + 1 := by omega
                have D2 := hide (And.intro hb0 (And.intro hb1 hxx))
                clear hb0 hb1 hxx hch D1
                go_wp2
                go_roundw
                case rel => exact ⟨3, by omega, rfl, (unhide D2).1, by rw [unhide E1 h0, ← hqe]; exact (unhide D2).2.1, (unhide D2).2.2⟩
                case measure => simp [intOf]
        · have ht := unhide HL 3 (by omega)
          have hu := unhide HU 3 (by omega)
          simp only [Nat.reduceMul, Nat.reduceAdd] at ht hu
          have E1 : Hid (¬ L 12 = 0 → colK false L x 4 = colS (colK false L x 3) (L 14) (L 15 + 1) (chanN L x 3)) := fun h => if_neg h
          have E2 : Hid (L 12 = 0 → colK false L x 4 = colK false L x 3) := fun h => if_pos h
          have D1 := hide (And.intro ((unhide D).1.alloc (.cells #[.int .i64 ((L 12 : Nat) : Int), .int .i64 ((L 13 : Nat) : Int), .int .i64 ((L 14 : Nat) : Int), .int .i64 ((L 15 : Nat) : Int)] 72)) (And.intro ((unhide D).2.1.alloc (.cells #[.int .i64 ((L 12 : Nat) : Int), .int .i64 ((L 13 : Nat) : Int), .int .i64 ((L 14 : Nat) : Int), .int .i64 ((L 15 : Nat) : Int)] 72)) (And.intro ((unhide D).2.2.alloc (.cells #[.int .i64 ((L 12 : Nat) : Int), .int .i64 ((L 13 : Nat) : Int), .int .i64 ((L 14 : Nat) : Int), .int .i64 ((L 15 : Nat) : Int)] 72)) (Blk.new wr #[.int .i64 ((L 12 : Nat) : Int), .int .i64 ((L 13 : Nat) : Int), .int .i64 ((L 14 : Nat) : Int), .int .i64 ((L 15 : Nat) : Int)] 72))))
          have hlt := (unhide D).2.1.lt
          have hix := index58_3 L
          have hs4 : ((L 13 : Nat) : Int) < 32 := by omega
          have hsb := shr_bound x (L 13) hx0 hx1
          have hand := and_full (x / 2 ^ L 13) (L 12) hsb.1 hsb.2 (by omega)
          have hm := mod_full (x / 2 ^ L 13) (L 12)
          have hf := full_nonneg (k := L 12) (by omega)
          have HC : Hid (numI (x / 2 ^ L 13 % 2 ^ L 12) (L 12) = chanN L x 3) := rfl
          clear D
          generalize colK false L x 3 = c at *
          generalize x / 2 ^ L 13 % 2 ^ L 12 = y at *
          by_cases h0 : L 12 = 0
          · have h0b : (((L 12 : Nat) : Int) == 0) = true := by simp; omega
            have H0 := hide h0
            clear h0 hand hm hf hsb HC E1
            go_wp2
            go_roundw
            case rel => exact ⟨4, by omega, rfl, (unhide D1).1, by rw [unhide E2 (unhide H0)]; exact (unhide D1).2.1, (unhide D1).2.2.1⟩
            case measure => simp [intOf]
          · have h0b : (((L 12 : Nat) : Int) == 0) = false := by simp; omega
            go_wp2
            go_quiet (first | (go_at_call 60; refine Calls.quiet_of_same (full_any (L 12) _ (by omega))) | (go_at_call 59; refine Calls.quiet_of_same (numberOf_any y (L 12) _ (by omega) (by omega) hm.1 hm.2)))
            rw [unhide HC]
            generalize chanN L x 3 = n at *
            go_wp2
            go_loopw [10] (fun i wr2 => ∃ q : Nat, L 14 ≤ q ∧ q ≤ L 15 + 1 ∧ i = .int .i64 q ∧ Blk wr2 (w.heap.size + 1) #[.int .i32 0, .int .i32 0, .int .i32 0, .int .i32 0] 30 ∧ Blk wr2 (w.heap.size + 1 + 1) #[.int .i32 (colS c (L 14) q n 0), .int .i32 (colS c (L 14) q n 1), .int .i32 (colS c (L 14) q n 2), .int .i32 (colS c (L 14) q n 3)] 30 ∧ Ext w wr2 ∧ Blk wr2 wr.heap.size #[.int .i64 ((L 12 : Nat) : Int), .int .i64 ((L 13 : Nat) : Int), .int .i64 ((L 14 : Nat) : Int), .int .i64 ((L 15 : Nat) : Int)] 72) (fun i _ => 5 - (intOf i).toNat)
            case atStart => exact ⟨L 14, by omega, by omega, rfl, (unhide D1).1.drewN _, by rw [colS_none]; exact (unhide D1).2.1.drewN _, (unhide D1).2.2.1.drewN _, (unhide D1).2.2.2.drewN _⟩
            case round =>
              obtain ⟨q, hq0, hq1, rfl, hb0, hb1, hxx, hch⟩ := hrel
              have hch3 := hch.cell (i := 3) rfl
              have hq4 : (q : Int) < 4 ∨ (q : Int) = 4 := by omega
              by_cases hql : q ≤ L 15
              · have hq3 : q < 4 := by omega
                have hcell := hb1.vec q hq3
                have hfr := hb1.free q
                have D2 := hide (And.intro hb0 (And.intro hb1 (And.intro hxx hch)))
                clear hb0 hb1 hxx hch D1
                go_wp2
                go_roundw
                case rel =>
                  refine ⟨q + 1, by omega, by omega, by go_num, (unhide D2).1.other q _ (by omega), ?_, ext_set (unhide D2).2.2.1 (by omega), (unhide D2).2.2.2.other q _ (by omega)⟩
                  have := (unhide D2).2.1.set q (.int .i32 n)
                  rw [colS_set c (L 14) q n (by omega) hq3] at this
                  exact this
                case measure => simp [intOf]; omega
              · have hqe : q = L 15 + 1 := by omega
                have D2 := hide (And.intro hb0 (And.intro hb1 hxx))
                clear hb0 hb1 hxx hch D1
                go_wp2
                go_roundw
                case rel => exact ⟨4, by omega, rfl, (unhide D2).1, by rw [unhide E1 h0, ← hqe]; exact (unhide D2).2.1, (unhide D2).2.2⟩
                case measure => simp [intOf]
  | true =>
    go_wp2_with fail
    refine (whole_any ao cap xs _ (hr.ext ((((Ext.refl w).alloc _).alloc _).alloc _)) hB hl).mono ?_
    rintro e w1 ⟨rfl, hx⟩
    have D0 := hide (And.intro ((((Blk.at rfl).alloc _).alloc _).ext hx) (And.intro (((Blk.at (b := w.heap.size + 1) (by simp)).alloc _).ext hx) (And.intro ((Blk.at (b := w.heap.size + 1 + 1) (by simp)).ext hx) (((((Ext.refl w).alloc _).alloc _).alloc _).trans hx))))
    have R := hide ((unhide D0).1.range 3 [.int .i64 ((L 0 : Nat) : Int), .int .i64 ((L 1 : Nat) : Int), .int .i64 ((L 2 : Nat) : Int), .int .i64 ((L 3 : Nat) : Int), .int .i64 ((L 4 : Nat) : Int), .int .i64 ((L 5 : Nat) : Int), .int .i64 ((L 6 : Nat) : Int), .int .i64 ((L 7 : Nat) : Int), .int .i64 ((L 8 : Nat) : Int), .int .i64 ((L 9 : Nat) : Int), .int .i64 ((L 10 : Nat) : Int), .int .i64 ((L 11 : Nat) : Int), .int .i64 ((L 12 : Nat) : Int), .int .i64 ((L 13 : Nat) : Int), .int .i64 ((L 14 : Nat) : Int), .int .i64 ((L 15 : Nat) : Int)] rfl)
    clear hx hr c2 hL hU
    obtain ⟨x, hx⟩ : ∃ x, x = numOf xs := ⟨_, rfl⟩
    have HX := hide hx
    rw [← hx] at HN
    rw [← hx]
    clear hx
    have hx0 := (unhide HN).1
    have hx1 : x < 4294967296 := by have := (unhide HN).2; omega
    go_wp2_with (refine wpList_load_mid rfl 73 (.tmp 16) rfl w.heap.size 3 rfl [.int .i64 ((L 0 : Nat) : Int), .int .i64 ((L 1 : Nat) : Int), .int .i64 ((L 2 : Nat) : Int), .int .i64 ((L 3 : Nat) : Int), .int .i64 ((L 4 : Nat) : Int), .int .i64 ((L 5 : Nat) : Int), .int .i64 ((L 6 : Nat) : Int), .int .i64 ((L 7 : Nat) : Int), .int .i64 ((L 8 : Nat) : Int), .int .i64 ((L 9 : Nat) : Int), .int .i64 ((L 10 : Nat) : Int), .int .i64 ((L 11 : Nat) : Int), .int .i64 ((L 12 : Nat) : Int), .int .i64 ((L 13 : Nat) : Int), .int .i64 ((L 14 : Nat) : Int), .int .i64 ((L 15 : Nat) : Int)] _ (unhide R) Try.underlying73 rfl size58 ?_)
    go_loopw [18] (fun i wr => ∃ k : Nat, k ≤ 4 ∧ i = .int .i64 k ∧ Blk wr (w.heap.size + 1) #[.int .i32 0, .int .i32 0, .int .i32 0, .int .i32 0] 30 ∧ Blk wr (w.heap.size + 1 + 1) #[.int .i32 (colK true L x k 0), .int .i32 (colK true L x k 1), .int .i32 (colK true L x k 2), .int .i32 (colK true L x k 3)] 30 ∧ Ext w wr) (fun i _ => 4 - (intOf i).toNat)
    case atStart => exact ⟨0, by omega, rfl, (unhide D0).2.1, (unhide D0).2.2.1, (unhide D0).2.2.2⟩
    case round =>
      obtain ⟨k, hk, rfl, hb0, hb1, hxx⟩ := hrel
      have D := hide (And.intro hb0 (And.intro hb1 hxx))
      clear hb0 hb1 hxx D0 R
      by_cases h4 : k = 4
      · subst h4
        go_wp2_with (first
          | refine wpList_load_row rfl 30 (.tmp 5) rfl (w.heap.size + 1 + 1) rfl 30 #[.int .i32 (colK true L x 4 0), .int .i32 (colK true L x 4 1), .int .i32 (colK true L x 4 2), .int .i32 (colK true L x 4 3)] (0, 0) _ (unhide D).2.1 Try.underlying30 rfl size35 ?_
          | refine wpList_store_row rfl 30 (.tmp 4) (.tmp 47) rfl (w.heap.size + 1) #[.int .i32 (colK true L x 4 0), .int .i32 (colK true L x 4 1), .int .i32 (colK true L x 4 2), .int .i32 (colK true L x 4 3)] rfl rfl 30 _ (unhide D).1 size35 rfl (vec_one _) ?_)
        refine bodyPost_ret (v := .agg #[.int .i32 (colK true L x 4 0), .int .i32 (colK true L x 4 1), .int .i32 (colK true L x 4 2), .int .i32 (colK true L x 4 3)]) (results_cell_row Try.results48 _ _ (w.heap.size + 1) 30 _ (0, 0) _ rfl (unhide D).1.row Try.underlying30 rfl size35) rfl ⟨by rw [unhide HX], ?_⟩
        exact ext_row (unhide D).2.2 (by omega)
      · rcases (by omega : k = 0 ∨ k = 1 ∨ k = 2 ∨ k = 3) with rfl | rfl | rfl | rfl
        · have ht := unhide HL 0 (by omega)
          have hu := unhide HU 0 (by omega)
          simp only [Nat.reduceMul, Nat.reduceAdd] at ht hu
          have E1 : Hid (¬ L 0 = 0 → colK true L x 1 = colS (colK true L x 0) (L 2) (L 3 + 1) (chanN L x 0)) := fun h => if_neg h
          have E2 : Hid (L 0 = 0 → colK true L x 1 = colK true L x 0) := fun h => if_pos h
          have D1 := hide (And.intro ((unhide D).1.alloc (.cells #[.int .i64 ((L 0 : Nat) : Int), .int .i64 ((L 1 : Nat) : Int), .int .i64 ((L 2 : Nat) : Int), .int .i64 ((L 3 : Nat) : Int)] 72)) (And.intro ((unhide D).2.1.alloc (.cells #[.int .i64 ((L 0 : Nat) : Int), .int .i64 ((L 1 : Nat) : Int), .int .i64 ((L 2 : Nat) : Int), .int .i64 ((L 3 : Nat) : Int)] 72)) (And.intro ((unhide D).2.2.alloc (.cells #[.int .i64 ((L 0 : Nat) : Int), .int .i64 ((L 1 : Nat) : Int), .int .i64 ((L 2 : Nat) : Int), .int .i64 ((L 3 : Nat) : Int)] 72)) (Blk.new wr #[.int .i64 ((L 0 : Nat) : Int), .int .i64 ((L 1 : Nat) : Int), .int .i64 ((L 2 : Nat) : Int), .int .i64 ((L 3 : Nat) : Int)] 72))))
          have hlt := (unhide D).2.1.lt
          have hix := index58_0 L
          have hs4 : ((L 1 : Nat) : Int) < 32 := by omega
          have hsb := shr_bound x (L 1) hx0 hx1
          have hand := and_full (x / 2 ^ L 1) (L 0) hsb.1 hsb.2 (by omega)
          have hm := mod_full (x / 2 ^ L 1) (L 0)
          have hf := full_nonneg (k := L 0) (by omega)
          have HC : Hid (numI (x / 2 ^ L 1 % 2 ^ L 0) (L 0) = chanN L x 0) := rfl
          clear D
          generalize colK true L x 0 = c at *
          generalize x / 2 ^ L 1 % 2 ^ L 0 = y at *
          by_cases h0 : L 0 = 0
          · have h0b : (((L 0 : Nat) : Int) == 0) = true := by simp; omega
            have H0 := hide h0
            clear h0 hand hm hf hsb HC E1
            go_wp2
            go_roundw
            case rel => exact ⟨1, by omega, rfl, (unhide D1).1, by rw [unhide E2 (unhide H0)]; exact (unhide D1).2.1, (unhide D1).2.2.1⟩
            case measure => simp [intOf]
          · have h0b : (((L 0 : Nat) : Int) == 0) = false := by simp; omega
            go_wp2
            go_quiet (first | (go_at_call 60; refine Calls.quiet_of_same (full_any (L 0) _ (by omega))) | (go_at_call 59; refine Calls.quiet_of_same (numberOf_any y (L 0) _ (by omega) (by omega) hm.1 hm.2)))
            rw [unhide HC]
            generalize chanN L x 0 = n at *
            go_wp2
            go_loopw [10] (fun i wr2 => ∃ q : Nat, L 2 ≤ q ∧ q ≤ L 3 + 1 ∧ i = .int .i64 q ∧ Blk wr2 (w.heap.size + 1) #[.int .i32 0, .int .i32 0, .int .i32 0, .int .i32 0] 30 ∧ Blk wr2 (w.heap.size + 1 + 1) #[.int .i32 (colS c (L 2) q n 0), .int .i32 (colS c (L 2) q n 1), .int .i32 (colS c (L 2) q n 2), .int .i32 (colS c (L 2) q n 3)] 30 ∧ Ext w wr2 ∧ Blk wr2 wr.heap.size #[.int .i64 ((L 0 : Nat) : Int), .int .i64 ((L 1 : Nat) : Int), .int .i64 ((L 2 : Nat) : Int), .int .i64 ((L 3 : Nat) : Int)] 72) (fun i _ => 5 - (intOf i).toNat)
            case atStart => exact ⟨L 2, by omega, by omega, rfl, (unhide D1).1.drewN _, by rw [colS_none]; exact (unhide D1).2.1.drewN _, (unhide D1).2.2.1.drewN _, (unhide D1).2.2.2.drewN _⟩
            case round =>
              obtain ⟨q, hq0, hq1, rfl, hb0, hb1, hxx, hch⟩ := hrel
              have hch3 := hch.cell (i := 3) rfl
              have hq4 : (q : Int) < 4 ∨ (q : Int) = 4 := by omega
              by_cases hql : q ≤ L 3
              · have hq3 : q < 4 := by omega
                have hcell := hb1.vec q hq3
                have hfr := hb1.free q
                have D2 := hide (And.intro hb0 (And.intro hb1 (And.intro hxx hch)))
                clear hb0 hb1 hxx hch D1
                go_wp2
                go_roundw
                case rel =>
                  refine ⟨q + 1, by omega, by omega, by go_num, (unhide D2).1.other q _ (by omega), ?_, ext_set (unhide D2).2.2.1 (by omega), (unhide D2).2.2.2.other q _ (by omega)⟩
                  have := (unhide D2).2.1.set q (.int .i32 n)
                  rw [colS_set c (L 2) q n (by omega) hq3] at this
                  exact this
                case measure => simp [intOf]; omega
              · have hqe : q = L 3 + 1 := by omega
                have D2 := hide (And.intro hb0 (And.intro hb1 hxx))
                clear hb0 hb1 hxx hch D1
                go_wp2
                go_roundw
                case rel => exact ⟨1, by omega, rfl, (unhide D2).1, by rw [unhide E1 h0, ← hqe]; exact (unhide D2).2.1, (unhide D2).2.2⟩
                case measure => simp [intOf]
        · have ht := unhide HL 1 (by omega)
          have hu := unhide HU 1 (by omega)
          simp only [Nat.reduceMul, Nat.reduceAdd] at ht hu
          have E1 : Hid (¬ L 4 = 0 → colK true L x 2 = colS (colK true L x 1) (L 6) (L 7 + 1) (chanN L x 1)) := fun h => if_neg h
          have E2 : Hid (L 4 = 0 → colK true L x 2 = colK true L x 1) := fun h => if_pos h
          have D1 := hide (And.intro ((unhide D).1.alloc (.cells #[.int .i64 ((L 4 : Nat) : Int), .int .i64 ((L 5 : Nat) : Int), .int .i64 ((L 6 : Nat) : Int), .int .i64 ((L 7 : Nat) : Int)] 72)) (And.intro ((unhide D).2.1.alloc (.cells #[.int .i64 ((L 4 : Nat) : Int), .int .i64 ((L 5 : Nat) : Int), .int .i64 ((L 6 : Nat) : Int), .int .i64 ((L 7 : Nat) : Int)] 72)) (And.intro ((unhide D).2.2.alloc (.cells #[.int .i64 ((L 4 : Nat) : Int), .int .i64 ((L 5 : Nat) : Int), .int .i64 ((L 6 : Nat) : Int), .int .i64 ((L 7 : Nat) : Int)] 72)) (Blk.new wr #[.int .i64 ((L 4 : Nat) : Int), .int .i64 ((L 5 : Nat) : Int), .int .i64 ((L 6 : Nat) : Int), .int .i64 ((L 7 : Nat) : Int)] 72))))
          have hlt := (unhide D).2.1.lt
          have hix := index58_1 L
          have hs4 : ((L 5 : Nat) : Int) < 32 := by omega
          have hsb := shr_bound x (L 5) hx0 hx1
          have hand := and_full (x / 2 ^ L 5) (L 4) hsb.1 hsb.2 (by omega)
          have hm := mod_full (x / 2 ^ L 5) (L 4)
          have hf := full_nonneg (k := L 4) (by omega)
          have HC : Hid (numI (x / 2 ^ L 5 % 2 ^ L 4) (L 4) = chanN L x 1) := rfl
          clear D
          generalize colK true L x 1 = c at *
          generalize x / 2 ^ L 5 % 2 ^ L 4 = y at *
          by_cases h0 : L 4 = 0
          · have h0b : (((L 4 : Nat) : Int) == 0) = true := by simp; omega
            have H0 := hide h0
            clear h0 hand hm hf hsb HC E1
            go_wp2
            go_roundw
            case rel => exact ⟨2, by omega, rfl, (unhide D1).1, by rw [unhide E2 (unhide H0)]; exact (unhide D1).2.1, (unhide D1).2.2.1⟩
            case measure => simp [intOf]
          · have h0b : (((L 4 : Nat) : Int) == 0) = false := by simp; omega
            go_wp2
            go_quiet (first | (go_at_call 60; refine Calls.quiet_of_same (full_any (L 4) _ (by omega))) | (go_at_call 59; refine Calls.quiet_of_same (numberOf_any y (L 4) _ (by omega) (by omega) hm.1 hm.2)))
            rw [unhide HC]
            generalize chanN L x 1 = n at *
            go_wp2
            go_loopw [10] (fun i wr2 => ∃ q : Nat, L 6 ≤ q ∧ q ≤ L 7 + 1 ∧ i = .int .i64 q ∧ Blk wr2 (w.heap.size + 1) #[.int .i32 0, .int .i32 0, .int .i32 0, .int .i32 0] 30 ∧ Blk wr2 (w.heap.size + 1 + 1) #[.int .i32 (colS c (L 6) q n 0), .int .i32 (colS c (L 6) q n 1), .int .i32 (colS c (L 6) q n 2), .int .i32 (colS c (L 6) q n 3)] 30 ∧ Ext w wr2 ∧ Blk wr2 wr.heap.size #[.int .i64 ((L 4 : Nat) : Int), .int .i64 ((L 5 : Nat) : Int), .int .i64 ((L 6 : Nat) : Int), .int .i64 ((L 7 : Nat) : Int)] 72) (fun i _ => 5 - (intOf i).toNat)
            case atStart => exact ⟨L 6, by omega, by omega, rfl, (unhide D1).1.drewN _, by rw [colS_none]; exact (unhide D1).2.1.drewN _, (unhide D1).2.2.1.drewN _, (unhide D1).2.2.2.drewN _⟩
            case round =>
              obtain ⟨q, hq0, hq1, rfl, hb0, hb1, hxx, hch⟩ := hrel
              have hch3 := hch.cell (i := 3) rfl
              have hq4 : (q : Int) < 4 ∨ (q : Int) = 4 := by omega
              by_cases hql : q ≤ L 7
              · have hq3 : q < 4 := by omega
                have hcell := hb1.vec q hq3
                have hfr := hb1.free q
                have D2 := hide (And.intro hb0 (And.intro hb1 (And.intro hxx hch)))
                clear hb0 hb1 hxx hch D1
                go_wp2
                go_roundw
                case rel =>
                  refine ⟨q + 1, by omega, by omega, by go_num, (unhide D2).1.other q _ (by omega), ?_, ext_set (unhide D2).2.2.1 (by omega), (unhide D2).2.2.2.other q _ (by omega)⟩
                  have := (unhide D2).2.1.set q (.int .i32 n)
                  rw [colS_set c (L 6) q n (by omega) hq3] at this
                  exact this
                case measure => simp [intOf]; omega
              · have hqe : q = L 7 + 1 := by omega
                have D2 := hide (And.intro hb0 (And.intro hb1 hxx))
                clear hb0 hb1 hxx hch D1
                go_wp2
                go_roundw
                case rel => exact ⟨2, by omega, rfl, (unhide D2).1, by rw [unhide E1 h0, ← hqe]; exact (unhide D2).2.1, (unhide D2).2.2⟩
                case measure => simp [intOf]
        · have ht := unhide HL 2 (by omega)
          have hu := unhide HU 2 (by omega)
          simp only [Nat.reduceMul, Nat.reduceAdd] at ht hu
          have E1 : Hid (¬ L 8 = 0 → colK true L x 3 = colS (colK true L x 2) (L 10) (L 11 + 1) (chanN L x 2)) := fun h => if_neg h
          have E2 : Hid (L 8 = 0 → colK true L x 3 = colK true L x 2) := fun h => if_pos h
          have D1 := hide (And.intro ((unhide D).1.alloc (.cells #[.int .i64 ((L 8 : Nat) : Int), .int .i64 ((L 9 : Nat) : Int), .int .i64 ((L 10 : Nat) : Int), .int .i64 ((L 11 : Nat) : Int)] 72)) (And.intro ((unhide D).2.1.alloc (.cells #[.int .i64 ((L 8 : Nat) : Int), .int .i64 ((L 9 : Nat) : Int), .int .i64 ((L 10 : Nat) : Int), .int .i64 ((L 11 : Nat) : Int)] 72)) (And.intro ((unhide D).2.2.alloc (.cells #[.int .i64 ((L 8 : Nat) : Int), .int .i64 ((L 9 : Nat) : Int), .int .i64 ((L 10 : Nat) : Int), .int .i64 ((L 11 : Nat) : Int)] 72)) (Blk.new wr #[.int .i64 ((L 8 : Nat) : Int), .int .i64 ((L 9 : Nat) : Int), .int .i64 ((L 10 : Nat) : Int), .int .i64 ((L 11 : Nat) : Int)] 72))))
          have hlt := (unhide D).2.1.lt
          have hix := index58_2 L
          have hs4 : ((L 9 : Nat) : Int) < 32 := by omega
          have hsb := shr_bound x (L 9) hx0 hx1
          have hand := and_full (x / 2 ^ L 9) (L 8) hsb.1 hsb.2 (by omega)
          have hm := mod_full (x / 2 ^ L 9) (L 8)
          have hf := full_nonneg (k := L 8) (by omega)
          have HC : Hid (numI (x / 2 ^ L 9 % 2 ^ L 8) (L 8) = chanN L x 2) := rfl
          clear D
          generalize colK true L x 2 = c at *
          generalize x / 2 ^ L 9 % 2 ^ L 8 = y at *
          by_cases h0 : L 8 = 0
          · have h0b : (((L 8 : Nat) : Int) == 0) = true := by simp; omega
            have H0 := hide h0
            clear h0 hand hm hf hsb HC E1
            go_wp2
            go_roundw
            case rel => exact ⟨3, by omega, rfl, (unhide D1).1, by rw [unhide E2 (unhide H0)]; exact (unhide D1).2.1, (unhide D1).2.2.1⟩
            case measure => simp [intOf]
          · have h0b : (((L 8 : Nat) : Int) == 0) = false := by simp; omega
            go_wp2
            go_quiet (first | (go_at_call 60; refine Calls.quiet_of_same (full_any (L 8) _ (by omega))) | (go_at_call 59; refine Calls.quiet_of_same (numberOf_any y (L 8) _ (by omega) (by omega) hm.1 hm.2)))
            rw [unhide HC]
            generalize chanN L x 2 = n at *
            go_wp2
            go_loopw [10] (fun i wr2 => ∃ q : Nat, L 10 ≤ q ∧ q ≤ L 11 + 1 ∧ i = .int .i64 q ∧ Blk wr2 (w.heap.size + 1) #[.int .i32 0, .int .i32 0, .int .i32 0, .int .i32 0] 30 ∧ Blk wr2 (w.heap.size + 1 + 1) #[.int .i32 (colS c (L 10) q n 0), .int .i32 (colS c (L 10) q n 1), .int .i32 (colS c (L 10) q n 2), .int .i32 (colS c (L 10) q n 3)] 30 ∧ Ext w wr2 ∧ Blk wr2 wr.heap.size #[.int .i64 ((L 8 : Nat) : Int), .int .i64 ((L 9 : Nat) : Int), .int .i64 ((L 10 : Nat) : Int), .int .i64 ((L 11 : Nat) : Int)] 72) (fun i _ => 5 - (intOf i).toNat)
            case atStart => exact ⟨L 10, by omega, by omega, rfl, (unhide D1).1.drewN _, by rw [colS_none]; exact (unhide D1).2.1.drewN _, (unhide D1).2.2.1.drewN _, (unhide D1).2.2.2.drewN _⟩
            case round =>
              obtain ⟨q, hq0, hq1, rfl, hb0, hb1, hxx, hch⟩ := hrel
              have hch3 := hch.cell (i := 3) rfl
              have hq4 : (q : Int) < 4 ∨ (q : Int) = 4 := by omega
              by_cases hql : q ≤ L 11
              · have hq3 : q < 4 := by omega
                have hcell := hb1.vec q hq3
                have hfr := hb1.free q
                have D2 := hide (And.intro hb0 (And.intro hb1 (And.intro hxx hch)))
                clear hb0 hb1 hxx hch D1
                go_wp2
                go_roundw
                case rel =>
                  refine ⟨q + 1, by omega, by omega, by go_num, (unhide D2).1.other q _ (by omega), ?_, ext_set (unhide D2).2.2.1 (by omega), (unhide D2).2.2.2.other q _ (by omega)⟩
                  have := (unhide D2).2.1.set q (.int .i32 n)
                  rw [colS_set c (L 10) q n (by omega) hq3] at this
                  exact this
                case measure => simp [intOf]; omega
              · have hqe : q = L 11 + 1 := by omega
                have D2 := hide (And.intro hb0 (And.intro hb1 hxx))
                clear hb0 hb1 hxx hch D1
                go_wp2
                go_roundw
                case rel => exact ⟨3, by omega, rfl, (unhide D2).1, by rw [unhide E1 h0, ← hqe]; exact (unhide D2).2.1, (unhide D2).2.2⟩
                case measure => simp [intOf]
        · have ht := unhide HL 3 (by omega)
          have hu := unhide HU 3 (by omega)
          simp only [Nat.reduceMul, Nat.reduceAdd] at ht hu
          have E1 : Hid (¬ L 12 = 0 → colK true L x 4 = colS (colK true L x 3) (L 14) (L 15 + 1) (chanN L x 3)) := fun h => if_neg h
          have E2 : Hid (L 12 = 0 → colK true L x 4 = colK true L x 3) := fun h => if_pos h
          have D1 := hide (And.intro ((unhide D).1.alloc (.cells #[.int .i64 ((L 12 : Nat) : Int), .int .i64 ((L 13 : Nat) : Int), .int .i64 ((L 14 : Nat) : Int), .int .i64 ((L 15 : Nat) : Int)] 72)) (And.intro ((unhide D).2.1.alloc (.cells #[.int .i64 ((L 12 : Nat) : Int), .int .i64 ((L 13 : Nat) : Int), .int .i64 ((L 14 : Nat) : Int), .int .i64 ((L 15 : Nat) : Int)] 72)) (And.intro ((unhide D).2.2.alloc (.cells #[.int .i64 ((L 12 : Nat) : Int), .int .i64 ((L 13 : Nat) : Int), .int .i64 ((L 14 : Nat) : Int), .int .i64 ((L 15 : Nat) : Int)] 72)) (Blk.new wr #[.int .i64 ((L 12 : Nat) : Int), .int .i64 ((L 13 : Nat) : Int), .int .i64 ((L 14 : Nat) : Int), .int .i64 ((L 15 : Nat) : Int)] 72))))
          have hlt := (unhide D).2.1.lt
          have hix := index58_3 L
          have hs4 : ((L 13 : Nat) : Int) < 32 := by omega
          have hsb := shr_bound x (L 13) hx0 hx1
          have hand := and_full (x / 2 ^ L 13) (L 12) hsb.1 hsb.2 (by omega)
          have hm := mod_full (x / 2 ^ L 13) (L 12)
          have hf := full_nonneg (k := L 12) (by omega)
          have HC : Hid (numI (x / 2 ^ L 13 % 2 ^ L 12) (L 12) = chanN L x 3) := rfl
          clear D
          generalize colK true L x 3 = c at *
          generalize x / 2 ^ L 13 % 2 ^ L 12 = y at *
          by_cases h0 : L 12 = 0
          · have h0b : (((L 12 : Nat) : Int) == 0) = true := by simp; omega
            have H0 := hide h0
            clear h0 hand hm hf hsb HC E1
            go_wp2
            go_roundw
            case rel => exact ⟨4, by omega, rfl, (unhide D1).1, by rw [unhide E2 (unhide H0)]; exact (unhide D1).2.1, (unhide D1).2.2.1⟩
            case measure => simp [intOf]
          · have h0b : (((L 12 : Nat) : Int) == 0) = false := by simp; omega
            go_wp2
            go_quiet (first | (go_at_call 60; refine Calls.quiet_of_same (full_any (L 12) _ (by omega))) | (go_at_call 59; refine Calls.quiet_of_same (numberOf_any y (L 12) _ (by omega) (by omega) hm.1 hm.2)))
            rw [unhide HC]
            generalize chanN L x 3 = n at *
            go_wp2
            go_loopw [10] (fun i wr2 => ∃ q : Nat, L 14 ≤ q ∧ q ≤ L 15 + 1 ∧ i = .int .i64 q ∧ Blk wr2 (w.heap.size + 1) #[.int .i32 0, .int .i32 0, .int .i32 0, .int .i32 0] 30 ∧ Blk wr2 (w.heap.size + 1 + 1) #[.int .i32 (colS c (L 14) q n 0), .int .i32 (colS c (L 14) q n 1), .int .i32 (colS c (L 14) q n 2), .int .i32 (colS c (L 14) q n 3)] 30 ∧ Ext w wr2 ∧ Blk wr2 wr.heap.size #[.int .i64 ((L 12 : Nat) : Int), .int .i64 ((L 13 : Nat) : Int), .int .i64 ((L 14 : Nat) : Int), .int .i64 ((L 15 : Nat) : Int)] 72) (fun i _ => 5 - (intOf i).toNat)
            case atStart => exact ⟨L 14, by omega, by omega, rfl, (unhide D1).1.drewN _, by rw [colS_none]; exact (unhide D1).2.1.drewN _, (unhide D1).2.2.1.drewN _, (unhide D1).2.2.2.drewN _⟩
            case round =>
              obtain ⟨q, hq0, hq1, rfl, hb0, hb1, hxx, hch⟩ := hrel
              have hch3 := hch.cell (i := 3) rfl
              have hq4 : (q : Int) < 4 ∨ (q : Int) = 4 := by omega
              by_cases hql : q ≤ L 15
              · have hq3 : q < 4 := by omega
                have hcell := hb1.vec q hq3
                have hfr := hb1.free q
                have D2 := hide (And.intro hb0 (And.intro hb1 (And.intro hxx hch)))
                clear hb0 hb1 hxx hch D1
                go_wp2
                go_roundw
                case rel =>
                  refine ⟨q + 1, by omega, by omega, by go_num, (unhide D2).1.other q _ (by omega), ?_, ext_set (unhide D2).2.2.1 (by omega), (unhide D2).2.2.2.other q _ (by omega)⟩
                  have := (unhide D2).2.1.set q (.int .i32 n)
                  rw [colS_set c (L 14) q n (by omega) hq3] at this
                  exact this
                case measure => simp [intOf]; omega
              · have hqe : q = L 15 + 1 := by omega
                have D2 := hide (And.intro hb0 (And.intro hb1 hxx))
                clear hb0 hb1 hxx hch D1
                go_wp2
                go_roundw
                case rel => exact ⟨4, by omega, rfl, (unhide D2).1, by rw [unhide E1 h0, ← hqe]; exact (unhide D2).2.1, (unhide D2).2.2⟩
                case measure => simp [intOf]
end Go.Proofs.Ytadajaoidhbmgaa

/-
  Pixels: the numbers of the seven formats, what stands in their bytes, and rows of vectors in memory. Plain facts, and number and colour at a format. What the dump lacks is left out.
-/
namespace Go.Proofs.Ytadajaoidhbmgaa
open Go.RowKit

theorem seven {f : Nat} (h1 : 1 ≤ f) (h7 : f ≤ 7) : f = 1 ∨ f = 2 ∨ f = 3 ∨ f = 4 ∨ f = 5 ∨ f = 6 ∨ f = 7 := by omega
theorem chs_ok {f : Nat} (h1 : 1 ≤ f) (h7 : f ≤ 7) : LOK (chs f) := by
  intro k hk
  rcases seven h1 h7 with rfl | rfl | rfl | rfl | rfl | rfl | rfl <;> rcases (by omega : k = 0 ∨ k = 1 ∨ k = 2 ∨ k = 3) with rfl | rfl | rfl | rfl <;> decide
theorem chs_up {f : Nat} (h1 : 1 ≤ f) (h7 : f ≤ 7) : LUp (chs f) := by
  intro k hk
  rcases seven h1 h7 with rfl | rfl | rfl | rfl | rfl | rfl | rfl <;> rcases (by omega : k = 0 ∨ k = 1 ∨ k = 2 ∨ k = 3) with rfl | rfl | rfl | rfl <;> decide

theorem or_hi (i : Nat) {x y : Int} (hx : 0 ≤ x) (hy : 0 ≤ y) (hy2 : y < 2 ^ i) (hd : x % 2 ^ i = 0) (hb : x + y < 4294967296) : bits .or .u32 x y = x + y := by
  obtain ⟨X, rfl⟩ := Int.eq_ofNat_of_zero_le hx
  obtain ⟨Y, rfl⟩ := Int.eq_ofNat_of_zero_le hy
  have e : (2 : Int) ^ i = ((2 ^ i : Nat) : Int) := by simp
  rw [e] at hy2 hd
  have hY : Y < 2 ^ i := by omega
  have hX : X % 2 ^ i = 0 := by exact_mod_cast hd
  rw [u32_or_nat X Y (by omega) (by omega)]
  obtain ⟨q, hq⟩ := Nat.dvd_of_mod_eq_zero hX
  rw [hq, ← Nat.two_pow_add_eq_or_of_lt hY]
  simp
theorem or_lo (i : Nat) {x y : Int} (hx : 0 ≤ x) (hy : 0 ≤ y) (hx2 : x < 2 ^ i) (hd : y % 2 ^ i = 0) (hb : x + y < 4294967296) : bits .or .u32 x y = x + y := by
  obtain ⟨X, rfl⟩ := Int.eq_ofNat_of_zero_le hx
  obtain ⟨Y, rfl⟩ := Int.eq_ofNat_of_zero_le hy
  have e : (2 : Int) ^ i = ((2 ^ i : Nat) : Int) := by simp
  rw [e] at hx2 hd
  have hX : X < 2 ^ i := by omega
  have hY : Y % 2 ^ i = 0 := by exact_mod_cast hd
  rw [u32_or_nat X Y (by omega) (by omega)]
  obtain ⟨q, hq⟩ := Nat.dvd_of_mod_eq_zero hY
  rw [hq, Nat.or_comm, ← Nat.two_pow_add_eq_or_of_lt hX]
  push_cast
  omega

/-- A colour's channels as one number. -/
def packN (f : Nat) (c : Nat → Int) : Int := packK (chs f) c 4

theorem b8 (x : Int) : 0 ≤ bitsI x 8 ∧ bitsI x 8 ≤ 255 := bits_bound x (by decide)
theorem b6 (x : Int) : 0 ≤ bitsI x 6 ∧ bitsI x 6 ≤ 63 := bits_bound x (by decide)
theorem b5 (x : Int) : 0 ≤ bitsI x 5 ∧ bitsI x 5 ≤ 31 := bits_bound x (by decide)
theorem b4 (x : Int) : 0 ≤ bitsI x 4 ∧ bitsI x 4 ≤ 15 := bits_bound x (by decide)
theorem b1 (x : Int) : 0 ≤ bitsI x 1 ∧ bitsI x 1 ≤ 1 := bits_bound x (by decide)

theorem pack_step (L : Nat → Nat) (c : Nat → Int) (k : Nat) (b s p : Nat) (h : (L (4 * k), L (4 * k + 1), L (4 * k + 2)) = (b, s, p)) (hb : 0 < b) :
    packK L c (k + 1) = bits .or .u32 (packK L c k) (bitsI (c p) b * 2 ^ s % 4294967296) := by
  obtain ⟨rfl, rfl, rfl⟩ : L (4 * k) = b ∧ L (4 * k + 1) = s ∧ L (4 * k + 2) = p := by simpa using h
  exact if_pos hb
theorem pack_skip (L : Nat → Nat) (c : Nat → Int) (k : Nat) (h : L (4 * k) = 0) : packK L c (k + 1) = packK L c k := if_neg (by omega)

theorem pack1 (c : Nat → Int) : packN 1 c = bitsI (c 0) 8 + 256 * bitsI (c 1) 8 + 65536 * bitsI (c 2) 8 + 16777216 * bitsI (c 3) 8 := by
  have e0 : packK (chs 1) c 0 = 0 := rfl
  have h0 := b8 (c 0)
  have e1 : packK (chs 1) c 1 = bitsI (c 0) 8 := by
    rw [pack_step _ c 0 8 0 0 rfl (by decide), e0, or_lo 0 (by omega) (by omega) (by omega) (by omega) (by omega)]
    omega
  have h1 := b8 (c 1)
  have e2 : packK (chs 1) c 2 = bitsI (c 0) 8 + 256 * bitsI (c 1) 8 := by
    rw [pack_step _ c 1 8 8 1 rfl (by decide), e1, or_lo 8 (by omega) (by omega) (by omega) (by omega) (by omega)]
    omega
  have h2 := b8 (c 2)
  have e3 : packK (chs 1) c 3 = bitsI (c 0) 8 + 256 * bitsI (c 1) 8 + 65536 * bitsI (c 2) 8 := by
    rw [pack_step _ c 2 8 16 2 rfl (by decide), e2, or_lo 16 (by omega) (by omega) (by omega) (by omega) (by omega)]
    omega
  have h3 := b8 (c 3)
  have e4 : packK (chs 1) c 4 = bitsI (c 0) 8 + 256 * bitsI (c 1) 8 + 65536 * bitsI (c 2) 8 + 16777216 * bitsI (c 3) 8 := by
    rw [pack_step _ c 3 8 24 3 rfl (by decide), e3, or_lo 24 (by omega) (by omega) (by omega) (by omega) (by omega)]
    omega
  exact e4
theorem pack2 (c : Nat → Int) : packN 2 c = 2048 * bitsI (c 0) 5 + 32 * bitsI (c 1) 6 + bitsI (c 2) 5 := by
  have e0 : packK (chs 2) c 0 = 0 := rfl
  have h0 := b5 (c 0)
  have e1 : packK (chs 2) c 1 = 2048 * bitsI (c 0) 5 := by
    rw [pack_step _ c 0 5 11 0 rfl (by decide), e0, or_lo 0 (by omega) (by omega) (by omega) (by omega) (by omega)]
    omega
  have h1 := b6 (c 1)
  have e2 : packK (chs 2) c 2 = 2048 * bitsI (c 0) 5 + 32 * bitsI (c 1) 6 := by
    rw [pack_step _ c 1 6 5 1 rfl (by decide), e1, or_hi 11 (by omega) (by omega) (by omega) (by omega) (by omega)]
    omega
  have h2 := b5 (c 2)
  have e3 : packK (chs 2) c 3 = 2048 * bitsI (c 0) 5 + 32 * bitsI (c 1) 6 + bitsI (c 2) 5 := by
    rw [pack_step _ c 2 5 0 2 rfl (by decide), e2, or_hi 5 (by omega) (by omega) (by omega) (by omega) (by omega)]
    omega
  have e4 : packK (chs 2) c 4 = 2048 * bitsI (c 0) 5 + 32 * bitsI (c 1) 6 + bitsI (c 2) 5 := by rw [pack_skip _ c 3 rfl, e3]
  exact e4
theorem pack3 (c : Nat → Int) : packN 3 c = 4096 * bitsI (c 0) 4 + 256 * bitsI (c 1) 4 + 16 * bitsI (c 2) 4 + bitsI (c 3) 4 := by
  have e0 : packK (chs 3) c 0 = 0 := rfl
  have h0 := b4 (c 0)
  have e1 : packK (chs 3) c 1 = 4096 * bitsI (c 0) 4 := by
    rw [pack_step _ c 0 4 12 0 rfl (by decide), e0, or_lo 0 (by omega) (by omega) (by omega) (by omega) (by omega)]
    omega
  have h1 := b4 (c 1)
  have e2 : packK (chs 3) c 2 = 4096 * bitsI (c 0) 4 + 256 * bitsI (c 1) 4 := by
    rw [pack_step _ c 1 4 8 1 rfl (by decide), e1, or_hi 12 (by omega) (by omega) (by omega) (by omega) (by omega)]
    omega
  have h2 := b4 (c 2)
  have e3 : packK (chs 3) c 3 = 4096 * bitsI (c 0) 4 + 256 * bitsI (c 1) 4 + 16 * bitsI (c 2) 4 := by
    rw [pack_step _ c 2 4 4 2 rfl (by decide), e2, or_hi 8 (by omega) (by omega) (by omega) (by omega) (by omega)]
    omega
  have h3 := b4 (c 3)
  have e4 : packK (chs 3) c 4 = 4096 * bitsI (c 0) 4 + 256 * bitsI (c 1) 4 + 16 * bitsI (c 2) 4 + bitsI (c 3) 4 := by
    rw [pack_step _ c 3 4 0 3 rfl (by decide), e3, or_hi 4 (by omega) (by omega) (by omega) (by omega) (by omega)]
    omega
  exact e4
theorem pack4 (c : Nat → Int) : packN 4 c = 2048 * bitsI (c 0) 5 + 64 * bitsI (c 1) 5 + 2 * bitsI (c 2) 5 + bitsI (c 3) 1 := by
  have e0 : packK (chs 4) c 0 = 0 := rfl
  have h0 := b5 (c 0)
  have e1 : packK (chs 4) c 1 = 2048 * bitsI (c 0) 5 := by
    rw [pack_step _ c 0 5 11 0 rfl (by decide), e0, or_lo 0 (by omega) (by omega) (by omega) (by omega) (by omega)]
    omega
  have h1 := b5 (c 1)
  have e2 : packK (chs 4) c 2 = 2048 * bitsI (c 0) 5 + 64 * bitsI (c 1) 5 := by
    rw [pack_step _ c 1 5 6 1 rfl (by decide), e1, or_hi 11 (by omega) (by omega) (by omega) (by omega) (by omega)]
    omega
  have h2 := b5 (c 2)
  have e3 : packK (chs 4) c 3 = 2048 * bitsI (c 0) 5 + 64 * bitsI (c 1) 5 + 2 * bitsI (c 2) 5 := by
    rw [pack_step _ c 2 5 1 2 rfl (by decide), e2, or_hi 6 (by omega) (by omega) (by omega) (by omega) (by omega)]
    omega
  have h3 := b1 (c 3)
  have e4 : packK (chs 4) c 4 = 2048 * bitsI (c 0) 5 + 64 * bitsI (c 1) 5 + 2 * bitsI (c 2) 5 + bitsI (c 3) 1 := by
    rw [pack_step _ c 3 1 0 3 rfl (by decide), e3, or_hi 1 (by omega) (by omega) (by omega) (by omega) (by omega)]
    omega
  exact e4
theorem pack5 (c : Nat → Int) : packN 5 c = bitsI (c 0) 8 := by
  have e0 : packK (chs 5) c 0 = 0 := rfl
  have h0 := b8 (c 0)
  have e1 : packK (chs 5) c 1 = bitsI (c 0) 8 := by
    rw [pack_step _ c 0 8 0 0 rfl (by decide), e0, or_lo 0 (by omega) (by omega) (by omega) (by omega) (by omega)]
    omega
  have e2 : packK (chs 5) c 2 = bitsI (c 0) 8 := by rw [pack_skip _ c 1 rfl, e1]
  have e3 : packK (chs 5) c 3 = bitsI (c 0) 8 := by rw [pack_skip _ c 2 rfl, e2]
  have e4 : packK (chs 5) c 4 = bitsI (c 0) 8 := by rw [pack_skip _ c 3 rfl, e3]
  exact e4
theorem pack6 (c : Nat → Int) : packN 6 c = bitsI (c 3) 8 := by
  have e0 : packK (chs 6) c 0 = 0 := rfl
  have h0 := b8 (c 3)
  have e1 : packK (chs 6) c 1 = bitsI (c 3) 8 := by
    rw [pack_step _ c 0 8 0 3 rfl (by decide), e0, or_lo 0 (by omega) (by omega) (by omega) (by omega) (by omega)]
    omega
  have e2 : packK (chs 6) c 2 = bitsI (c 3) 8 := by rw [pack_skip _ c 1 rfl, e1]
  have e3 : packK (chs 6) c 3 = bitsI (c 3) 8 := by rw [pack_skip _ c 2 rfl, e2]
  have e4 : packK (chs 6) c 4 = bitsI (c 3) 8 := by rw [pack_skip _ c 3 rfl, e3]
  exact e4
theorem pack7 (c : Nat → Int) : packN 7 c = bitsI (c 0) 8 + 256 * bitsI (c 3) 8 := by
  have e0 : packK (chs 7) c 0 = 0 := rfl
  have h0 := b8 (c 0)
  have e1 : packK (chs 7) c 1 = bitsI (c 0) 8 := by
    rw [pack_step _ c 0 8 0 0 rfl (by decide), e0, or_lo 0 (by omega) (by omega) (by omega) (by omega) (by omega)]
    omega
  have h1 := b8 (c 3)
  have e2 : packK (chs 7) c 2 = bitsI (c 0) 8 + 256 * bitsI (c 3) 8 := by
    rw [pack_step _ c 1 8 8 3 rfl (by decide), e1, or_lo 8 (by omega) (by omega) (by omega) (by omega) (by omega)]
    omega
  have e3 : packK (chs 7) c 3 = bitsI (c 0) 8 + 256 * bitsI (c 3) 8 := by rw [pack_skip _ c 2 rfl, e2]
  have e4 : packK (chs 7) c 4 = bitsI (c 0) 8 + 256 * bitsI (c 3) 8 := by rw [pack_skip _ c 3 rfl, e3]
  exact e4

theorem pack_bound (f : Nat) (c : Nat → Int) (h1 : 1 ≤ f) (h7 : f ≤ 7) : 0 ≤ packN f c ∧ packN f c < 4294967296 := by
  have a0 := b8 (c 0)
  have a1 := b8 (c 1)
  have a2 := b8 (c 2)
  have a3 := b8 (c 3)
  have d0 := b5 (c 0)
  have d1 := b5 (c 1)
  have d2 := b5 (c 2)
  have d3 := b1 (c 3)
  have e1 := b6 (c 1)
  have g0 := b4 (c 0)
  have g1 := b4 (c 1)
  have g2 := b4 (c 2)
  have g3 := b4 (c 3)
  rcases seven h1 h7 with rfl | rfl | rfl | rfl | rfl | rfl | rfl
  · rw [pack1]; omega
  · rw [pack2]; omega
  · rw [pack3]; omega
  · rw [pack4]; omega
  · rw [pack5]; omega
  · rw [pack6]; omega
  · rw [pack7]; omega

/-- The colour of the bytes whose number is x. -/
def colN (f : Nat) (x : Int) : Nat → Int := colK (opq f) (chs f) x 4

theorem colour_any (f : Nat) (ao : Option Addr) (cap : Nat) (xs : List Int) (w : World) (h1 : 1 ≤ f) (h7 : f ≤ 7) (hr : Row .u8 w (.slice ao xs.length cap) xs) (hB : Byt xs) (hl : xs.length = siz f) :
    Calls Try.prog 48 #[.agg (layF f), .slice ao xs.length cap] w fun e w' => e = .returned (.agg #[.int .i32 (colN f (numOf xs) 0), .int .i32 (colN f (numOf xs) 1), .int .i32 (colN f (numOf xs) 2), .int .i32 (colN f (numOf xs) 3)]) ∧ Ext w w' :=
  colour_lay f (siz f) (opq f) (chs f) ao cap xs w (chs_ok h1 h7) (chs_up h1 h7) hr hB (by rw [hl]; exact siz_three h1 h7)
end Go.Proofs.Ytadajaoidhbmgaa
