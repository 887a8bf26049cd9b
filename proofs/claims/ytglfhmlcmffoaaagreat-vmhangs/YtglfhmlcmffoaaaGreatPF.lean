/-
  Pixels: the walk of colour: the colour of a pixel's bytes.
-/
import Derived.Test.YtglfhmlcmffoaaaGreatLemJ
import Derived.Test.YtglfhmlcmffoaaaGreatW1J
namespace Go.Proofs.YtglfhmlcmffoaaaGreat
open Go.RowKit

/-- A colour ahead of its channels. -/
def col0 (O : Bool) : Nat → Int := fun i => if O = true ∧ i = 3 then 65536 else 0
/-- c, but n at the places from p, below q. -/
def colS (c : Nat → Int) (p q : Nat) (n : Int) : Nat → Int := fun i => if p ≤ i ∧ i < q then n else c i
/-- The number that channel k of the bytes' number x stands for. -/
def chanN (L : Nat → Nat) (x : Int) (k : Nat) : Int := numI (x / 2 ^ L (4 * k + 1) % 2 ^ L (4 * k)) (L (4 * k))
/-- The colour behind the first k channels. -/
def colK (O : Bool) (L : Nat → Nat) (x : Int) : Nat → Nat → Int
  | 0 => col0 O
  | k + 1 => if L (4 * k) = 0 then colK O L x k else colS (colK O L x k) (L (4 * k + 2)) (L (4 * k + 3) + 1) (chanN L x k)
/-- The places go up. -/
def LUp (L : Nat → Nat) : Prop := ∀ k, k < 4 → L (4 * k + 2) ≤ L (4 * k + 3)

theorem and_full (x : Int) (k : Nat) (h0 : 0 ≤ x) (h1 : x < 4294967296) (hk : k ≤ 16) : bits .and .u32 x (fullI k) = x % 2 ^ k := by
  obtain ⟨X, rfl⟩ := Int.eq_ofNat_of_zero_le h0
  have b : 2 ^ k ≤ 2 ^ 16 := Nat.pow_le_pow_right (by decide) hk
  have p : 0 < 2 ^ k := Nat.pow_pos (by decide)
  have e : fullI k = ((2 ^ k - 1 : Nat) : Int) := by
    unfold fullI
    have : (2 : Int) ^ k = ((2 ^ k : Nat) : Int) := by simp
    omega
  rw [e, u32_and_nat X (2 ^ k - 1) (by omega) (by omega), Nat.and_two_pow_sub_one_eq_mod]
  simp
theorem mod_full (x : Int) (k : Nat) : 0 ≤ x % 2 ^ k ∧ x % 2 ^ k ≤ fullI k := by
  have p : (0 : Int) < 2 ^ k := Int.pow_pos (by decide)
  have h1 := Int.emod_nonneg x (show (2 : Int) ^ k ≠ 0 by omega)
  have h2 := Int.emod_lt_of_pos x p
  unfold fullI
  omega
theorem shr_bound (x : Int) (k : Nat) (h0 : 0 ≤ x) (h1 : x < 4294967296) : 0 ≤ x / 2 ^ k ∧ x / 2 ^ k < 4294967296 :=
  ⟨Int.ediv_nonneg h0 (Int.pow_nonneg (by decide)), Int.lt_of_le_of_lt (Int.ediv_le_self _ h0) h1⟩

theorem colS_none (c : Nat → Int) (p : Nat) (n : Int) : colS c p p n = c := by
  funext i
  unfold colS
  rw [if_neg (by omega)]
theorem colS_set (c : Nat → Int) (p q : Nat) (n : Int) (hp : p ≤ q) (hq : q < 4) : (#[.int .i32 (colS c p q n 0), .int .i32 (colS c p q n 1), .int .i32 (colS c p q n 2), .int .i32 (colS c p q n 3)] : Array Value).setIfInBounds q (.int .i32 n) = #[.int .i32 (colS c p (q + 1) n 0), .int .i32 (colS c p (q + 1) n 1), .int .i32 (colS c p (q + 1) n 2), .int .i32 (colS c p (q + 1) n 3)] := by
  rcases (by omega : q = 0 ∨ q = 1 ∨ q = 2 ∨ q = 3) with rfl | rfl | rfl | rfl <;> simp [colS, hp] <;> omega
theorem Blk.range {w : World} {b : Nat} {cs : Array Value} {t : TypeId} (h : Blk w b cs t) (o : Nat) (l : List Value) (e : (cs.toList.drop o).take l.length = l) : w.rangeAt b o l := by
  intro j v hv
  refine h.cell ?_
  have hj : j < l.length := (List.getElem?_eq_some_iff.1 hv).1
  rw [← e, List.getElem?_take_of_lt hj, List.getElem?_drop] at hv
  simpa using hv
theorem vec_one (c : Nat → Int) : (#[.int .i32 (c 0), .int .i32 (c 1), .int .i32 (c 2), .int .i32 (c 3)] : Array Value).all (·.oneCell') = true := by simp [Value.oneCell']
theorem size35 : (Tryz.prog.info? 28).map (·.size) = some 4 := by kernel_rfl

set_option maxHeartbeats 2000000 in
theorem colour_lay (F S : Nat) (O : Bool) (L : Nat → Nat) (ao : Option Addr) (cap : Nat) (xs : List Int) (w : World) (hL : LOK L) (hU : LUp L) (hr : Row .u8 w (.slice ao xs.length cap) xs) (hB : Byt xs) (hl : xs.length = 1 ∨ xs.length = 2 ∨ xs.length = 4) :
    Calls Tryz.prog 215 #[.agg (layA F S O L), .slice ao xs.length cap] w fun e w' => e = .returned (.agg #[.int .i32 (colK O L (numOf xs) 4 0), .int .i32 (colK O L (numOf xs) 4 1), .int .i32 (colK O L (numOf xs) 4 2), .int .i32 (colK O L (numOf xs) 4 3)]) ∧ Ext w w' := by
  have HN := hide (numOf_le xs hB 4 (by omega))
  have HL := hide hL
  have HU := hide hU
  have c2 : ∀ x y, (((w.alloc (.cells (layA F S O L) 180)).alloc x).alloc y).cell? ⟨w.heap.size, 2, none⟩ = some (.bool O) := fun x y => (((Blk.at rfl).alloc _).alloc _).cell rfl
  go_enter Tryz.func215, Tryz.ntmps215
  cases O with
  | false =>
    go_wp2_with fail
    refine (whole_any ao cap xs _ (hr.ext ((((Ext.refl w).alloc _).alloc _).alloc _)) hB hl).mono ?_
    rintro e w1 ⟨rfl, hx⟩
    have D0 := hide (And.intro ((((Blk.at rfl).alloc _).alloc _).ext hx) (And.intro (((Blk.at (b := w.heap.size + 1) (by simp)).alloc _).ext hx) (And.intro ((Blk.at (b := w.heap.size + 1 + 1) (by simp)).ext hx) (((((Ext.refl w).alloc _).alloc _).alloc _).trans hx))))
    have R := hide ((unhide D0).1.range 3 [.int .i64 ((L 0 : Nat) : Int), .int .i64 ((L 1 : Nat) : Int), .int .i64 ((L 2 : Nat) : Int), .int .i64 ((L 3 : Nat) : Int), .int .i64 ((L 4 : Nat) : Int), .int .i64 ((L 5 : Nat) : Int), .int .i64 ((L 6 : Nat) : Int), .int .i64 ((L 7 : Nat) : Int), .int .i64 ((L 8 : Nat) : Int), .int .i64 ((L 9 : Nat) : Int), .int .i64 ((L 10 : Nat) : Int), .int .i64 ((L 11 : Nat) : Int), .int .i64 ((L 12 : Nat) : Int), .int .i64 ((L 13 : Nat) : Int), .int .i64 ((L 14 : Nat) : Int), .int .i64 ((L 15 : Nat) : Int)] rfl)
    clear hx hr c2 hL hU
    obtain ⟨x, hx⟩ : ∃ x, x = numOf xs := ⟨_, rfl⟩
    have HX := hide hx
    rw [← hx] at HN
    rw [← hx]
    clear hx
    have hx0 := (unhide HN).1
    have hx1 : x < 4294967296 := by have := (unhide HN).2; omega
    go_wp2_with (refine wpList_load_mid rfl 178 (.tmp 16) rfl w.heap.size 3 rfl [.int .i64 ((L 0 : Nat) : Int), .int .i64 ((L 1 : Nat) : Int), .int .i64 ((L 2 : Nat) : Int), .int .i64 ((L 3 : Nat) : Int), .int .i64 ((L 4 : Nat) : Int), .int .i64 ((L 5 : Nat) : Int), .int .i64 ((L 6 : Nat) : Int), .int .i64 ((L 7 : Nat) : Int), .int .i64 ((L 8 : Nat) : Int), .int .i64 ((L 9 : Nat) : Int), .int .i64 ((L 10 : Nat) : Int), .int .i64 ((L 11 : Nat) : Int), .int .i64 ((L 12 : Nat) : Int), .int .i64 ((L 13 : Nat) : Int), .int .i64 ((L 14 : Nat) : Int), .int .i64 ((L 15 : Nat) : Int)] _ (unhide R) Tryz.underlying178 rfl size58 ?_)
    go_loopw [18] (fun i wr => ∃ k : Nat, k ≤ 4 ∧ i = .int .i64 k ∧ Blk wr (w.heap.size + 1) #[.int .i32 0, .int .i32 0, .int .i32 0, .int .i32 0] 28 ∧ Blk wr (w.heap.size + 1 + 1) #[.int .i32 (colK false L x k 0), .int .i32 (colK false L x k 1), .int .i32 (colK false L x k 2), .int .i32 (colK false L x k 3)] 28 ∧ Ext w wr) (fun i _ => 4 - (intOf i).toNat)
    case atStart => exact ⟨0, by omega, rfl, (unhide D0).2.1, (unhide D0).2.2.1, (unhide D0).2.2.2⟩
    case round =>
      obtain ⟨k, hk, rfl, hb0, hb1, hxx⟩ := hrel
      have D := hide (And.intro hb0 (And.intro hb1 hxx))
      clear hb0 hb1 hxx D0 R
      by_cases h4 : k = 4
      · subst h4
        go_wp2_with (first
          | refine wpList_load_row rfl 28 (.tmp 5) rfl (w.heap.size + 1 + 1) rfl 28 #[.int .i32 (colK false L x 4 0), .int .i32 (colK false L x 4 1), .int .i32 (colK false L x 4 2), .int .i32 (colK false L x 4 3)] (0, 0) _ (unhide D).2.1 Tryz.underlying28 rfl size35 ?_
          | refine wpList_store_row rfl 28 (.tmp 4) (.tmp 47) rfl (w.heap.size + 1) #[.int .i32 (colK false L x 4 0), .int .i32 (colK false L x 4 1), .int .i32 (colK false L x 4 2), .int .i32 (colK false L x 4 3)] rfl rfl 28 _ (unhide D).1 size35 rfl (vec_one _) ?_)
        refine bodyPost_ret (v := .agg #[.int .i32 (colK false L x 4 0), .int .i32 (colK false L x 4 1), .int .i32 (colK false L x 4 2), .int .i32 (colK false L x 4 3)]) (results_cell_row Tryz.results215 _ _ (w.heap.size + 1) 28 _ (0, 0) _ rfl (unhide D).1.row Tryz.underlying28 rfl size35) rfl ⟨by rw [unhide HX], ?_⟩
        exact ext_row (unhide D).2.2 (by omega)
      · rcases (by omega : k = 0 ∨ k = 1 ∨ k = 2 ∨ k = 3) with rfl | rfl | rfl | rfl
        · have ht := unhide HL 0 (by omega)
          have hu := unhide HU 0 (by omega)
          simp only [Nat.reduceMul, Nat.reduceAdd] at ht hu
          have E1 : Hid (¬ L 0 = 0 → colK false L x 1 = colS (colK false L x 0) (L 2) (L 3 + 1) (chanN L x 0)) := fun h => if_neg h
          have E2 : Hid (L 0 = 0 → colK false L x 1 = colK false L x 0) := fun h => if_pos h
          have D1 := hide (And.intro ((unhide D).1.alloc (.cells #[.int .i64 ((L 0 : Nat) : Int), .int .i64 ((L 1 : Nat) : Int), .int .i64 ((L 2 : Nat) : Int), .int .i64 ((L 3 : Nat) : Int)] 177)) (And.intro ((unhide D).2.1.alloc (.cells #[.int .i64 ((L 0 : Nat) : Int), .int .i64 ((L 1 : Nat) : Int), .int .i64 ((L 2 : Nat) : Int), .int .i64 ((L 3 : Nat) : Int)] 177)) (And.intro ((unhide D).2.2.alloc (.cells #[.int .i64 ((L 0 : Nat) : Int), .int .i64 ((L 1 : Nat) : Int), .int .i64 ((L 2 : Nat) : Int), .int .i64 ((L 3 : Nat) : Int)] 177)) (Blk.new wr #[.int .i64 ((L 0 : Nat) : Int), .int .i64 ((L 1 : Nat) : Int), .int .i64 ((L 2 : Nat) : Int), .int .i64 ((L 3 : Nat) : Int)] 177))))
          have hlt := (unhide D).2.1.lt
          have hix := index58_0 L
          have hs4 : ((L 1 : Nat) : Int) < 32 := by omega
          have hsb := shr_bound x (L 1) hx0 hx1
          have hand := and_full (x / 2 ^ L 1) (L 0) hsb.1 hsb.2 (by omega)
          have hm := mod_full (x / 2 ^ L 1) (L 0)
          have hf := full_nonneg (k := L 0) (by omega)
          have HC : Hid (numI (x / 2 ^ L 1 % 2 ^ L 0) (L 0) = chanN L x 0) := rfl
          clear D
          generalize colK false L x 0 = c at *
          generalize x / 2 ^ L 1 % 2 ^ L 0 = y at *
          by_cases h0 : L 0 = 0
          · have h0b : (((L 0 : Nat) : Int) == 0) = true := by simp; omega
            have H0 := hide h0
            clear h0 hand hm hf hsb HC E1
            go_wp2
            go_roundw
            case rel => exact ⟨1, by omega, rfl, (unhide D1).1, by rw [unhide E2 (unhide H0)]; exact (unhide D1).2.1, (unhide D1).2.2.1⟩
            case measure => simp [intOf]
          · have h0b : (((L 0 : Nat) : Int) == 0) = false := by simp; omega
            go_wp2
            go_quiet (first | (go_at_call 223; refine Calls.quiet_of_same (full_any (L 0) _ (by omega))) | (go_at_call 222; refine Calls.quiet_of_same (numberOf_any y (L 0) _ (by omega) (by omega) hm.1 hm.2)))
            rw [unhide HC]
            generalize chanN L x 0 = n at *
            go_wp2
            go_loopw [10] (fun i wr2 => ∃ q : Nat, L 2 ≤ q ∧ q ≤ L 3 + 1 ∧ i = .int .i64 q ∧ Blk wr2 (w.heap.size + 1) #[.int .i32 0, .int .i32 0, .int .i32 0, .int .i32 0] 28 ∧ Blk wr2 (w.heap.size + 1 + 1) #[.int .i32 (colS c (L 2) q n 0), .int .i32 (colS c (L 2) q n 1), .int .i32 (colS c (L 2) q n 2), .int .i32 (colS c (L 2) q n 3)] 28 ∧ Ext w wr2 ∧ Blk wr2 wr.heap.size #[.int .i64 ((L 0 : Nat) : Int), .int .i64 ((L 1 : Nat) : Int), .int .i64 ((L 2 : Nat) : Int), .int .i64 ((L 3 : Nat) : Int)] 177) (fun i _ => 5 - (intOf i).toNat)
            case atStart => exact ⟨L 2, by omega, by omega, rfl, (unhide D1).1.drewN _, by rw [colS_none]; exact (unhide D1).2.1.drewN _, (unhide D1).2.2.1.drewN _, (unhide D1).2.2.2.drewN _⟩
            case round =>
              obtain ⟨q, hq0, hq1, rfl, hb0, hb1, hxx, hch⟩ := hrel
              have hch3 := hch.cell (i := 3) rfl
              have hq4 : (q : Int) < 4 ∨ (q : Int) = 4 := by omega
              by_cases hql : q ≤ L 3
              · have hq3 : q < 4 := by omega
                have hcell := hb1.vec q hq3
                have hfr := hb1.free q
                have D2 := hide (And.intro hb0 (And.intro hb1 (And.intro hxx hch)))
                clear hb0 hb1 hxx hch D1
                go_wp2
                go_roundw
                case rel =>
                  refine ⟨q + 1, by omega, by omega, by go_num, (unhide D2).1.other q _ (by omega), ?_, ext_set (unhide D2).2.2.1 (by omega), (unhide D2).2.2.2.other q _ (by omega)⟩
                  have := (unhide D2).2.1.set q (.int .i32 n)
                  rw [colS_set c (L 2) q n (by omega) hq3] at this
                  exact this
                case measure => simp [intOf]; omega
              · have hqe : q = L 3 + 1 := by omega
                have D2 := hide (And.intro hb0 (And.intro hb1 hxx))
                clear hb0 hb1 hxx hch D1
                go_wp2
                go_roundw
                case rel => exact ⟨1, by omega, rfl, (unhide D2).1, by rw [unhide E1 h0, ← hqe]; exact (unhide D2).2.1, (unhide D2).2.2⟩
                case measure => simp [intOf]
        · have ht := unhide HL 1 (by omega)
          have hu := unhide HU 1 (by omega)
          simp only [Nat.reduceMul, Nat.reduceAdd] at ht hu
          have E1 : Hid (¬ L 4 = 0 → colK false L x 2 = colS (colK false L x 1) (L 6) (L 7 + 1) (chanN L x 1)) := fun h => if_neg h
          have E2 : Hid (L 4 = 0 → colK false L x 2 = colK false L x 1) := fun h => if_pos h
          have D1 := hide (And.intro ((unhide D).1.alloc (.cells #[.int .i64 ((L 4 : Nat) : Int), .int .i64 ((L 5 : Nat) : Int), .int .i64 ((L 6 : Nat) : Int), .int .i64 ((L 7 : Nat) : Int)] 177)) (And.intro ((unhide D).2.1.alloc (.cells #[.int .i64 ((L 4 : Nat) : Int), .int .i64 ((L 5 : Nat) : Int), .int .i64 ((L 6 : Nat) : Int), .int .i64 ((L 7 : Nat) : Int)] 177)) (And.intro ((unhide D).2.2.alloc (.cells #[.int .i64 ((L 4 : Nat) : Int), .int .i64 ((L 5 : Nat) : Int), .int .i64 ((L 6 : Nat) : Int), .int .i64 ((L 7 : Nat) : Int)] 177)) (Blk.new wr #[.int .i64 ((L 4 : Nat) : Int), .int .i64 ((L 5 : Nat) : Int), .int .i64 ((L 6 : Nat) : Int), .int .i64 ((L 7 : Nat) : Int)] 177))))
          have hlt := (unhide D).2.1.lt
          have hix := index58_1 L
          have hs4 : ((L 5 : Nat) : Int) < 32 := by omega
          have hsb := shr_bound x (L 5) hx0 hx1
          have hand := and_full (x / 2 ^ L 5) (L 4) hsb.1 hsb.2 (by omega)
          have hm := mod_full (x / 2 ^ L 5) (L 4)
          have hf := full_nonneg (k := L 4) (by omega)
          have HC : Hid (numI (x / 2 ^ L 5 % 2 ^ L 4) (L 4) = chanN L x 1) := rfl
          clear D
          generalize colK false L x 1 = c at *
          generalize x / 2 ^ L 5 % 2 ^ L 4 = y at *
          by_cases h0 : L 4 = 0
          · have h0b : (((L 4 : Nat) : Int) == 0) = true := by simp; omega
            have H0 := hide h0
            clear h0 hand hm hf hsb HC E1
            go_wp2
            go_roundw
            case rel => exact ⟨2, by omega, rfl, (unhide D1).1, by rw [unhide E2 (unhide H0)]; exact (unhide D1).2.1, (unhide D1).2.2.1⟩
            case measure => simp [intOf]
          · have h0b : (((L 4 : Nat) : Int) == 0) = false := by simp; omega
            go_wp2
            go_quiet (first | (go_at_call 223; refine Calls.quiet_of_same (full_any (L 4) _ (by omega))) | (go_at_call 222; refine Calls.quiet_of_same (numberOf_any y (L 4) _ (by omega) (by omega) hm.1 hm.2)))
            rw [unhide HC]
            generalize chanN L x 1 = n at *
            go_wp2
            go_loopw [10] (fun i wr2 => ∃ q : Nat, L 6 ≤ q ∧ q ≤ L 7 + 1 ∧ i = .int .i64 q ∧ Blk wr2 (w.heap.size + 1) #[.int .i32 0, .int .i32 0, .int .i32 0, .int .i32 0] 28 ∧ Blk wr2 (w.heap.size + 1 + 1) #[.int .i32 (colS c (L 6) q n 0), .int .i32 (colS c (L 6) q n 1), .int .i32 (colS c (L 6) q n 2), .int .i32 (colS c (L 6) q n 3)] 28 ∧ Ext w wr2 ∧ Blk wr2 wr.heap.size #[.int .i64 ((L 4 : Nat) : Int), .int .i64 ((L 5 : Nat) : Int), .int .i64 ((L 6 : Nat) : Int), .int .i64 ((L 7 : Nat) : Int)] 177) (fun i _ => 5 - (intOf i).toNat)
            case atStart => exact ⟨L 6, by omega, by omega, rfl, (unhide D1).1.drewN _, by rw [colS_none]; exact (unhide D1).2.1.drewN _, (unhide D1).2.2.1.drewN _, (unhide D1).2.2.2.drewN _⟩
            case round =>
              obtain ⟨q, hq0, hq1, rfl, hb0, hb1, hxx, hch⟩ := hrel
              have hch3 := hch.cell (i := 3) rfl
              have hq4 : (q : Int) < 4 ∨ (q : Int) = 4 := by omega
              by_cases hql : q ≤ L 7
              · have hq3 : q < 4 := by omega
                have hcell := hb1.vec q hq3
                have hfr := hb1.free q
                have D2 := hide (And.intro hb0 (And.intro hb1 (And.intro hxx hch)))
                clear hb0 hb1 hxx hch D1
                go_wp2
                go_roundw
                case rel =>
                  refine ⟨q + 1, by omega, by omega, by go_num, (unhide D2).1.other q _ (by omega), ?_, ext_set (unhide D2).2.2.1 (by omega), (unhide D2).2.2.2.other q _ (by omega)⟩
                  have := (unhide D2).2.1.set q (.int .i32 n)
                  rw [colS_set c (L 6) q n (by omega) hq3] at this
                  exact this
                case measure => simp [intOf]; omega
              · have hqe : q = L 7 + 1 := by omega
                have D2 := hide (And.intro hb0 (And.intro hb1 hxx))
                clear hb0 hb1 hxx hch D1
                go_wp2
                go_roundw
                case rel => exact ⟨2, by omega, rfl, (unhide D2).1, by rw [unhide E1 h0, ← hqe]; exact (unhide D2).2.1, (unhide D2).2.2⟩
                case measure => simp [intOf]
        · have ht := unhide HL 2 (by omega)
          have hu := unhide HU 2 (by omega)
          simp only [Nat.reduceMul, Nat.reduceAdd] at ht hu
          have E1 : Hid (¬ L 8 = 0 → colK false L x 3 = colS (colK false L x 2) (L 10) (L 11 + 1) (chanN L x 2)) := fun h => if_neg h
          have E2 : Hid (L 8 = 0 → colK false L x 3 = colK false L x 2) := fun h => if_pos h
          have D1 := hide (And.intro ((unhide D).1.alloc (.cells #[.int .i64 ((L 8 : Nat) : Int), .int .i64 ((L 9 : Nat) : Int), .int .i64 ((L 10 : Nat) : Int), .int .i64 ((L 11 : Nat) : Int)] 177)) (And.intro ((unhide D).2.1.alloc (.cells #[.int .i64 ((L 8 : Nat) : Int), .int .i64 ((L 9 : Nat) : Int), .int .i64 ((L 10 : Nat) : Int), .int .i64 ((L 11 : Nat) : Int)] 177)) (And.intro ((unhide D).2.2.alloc (.cells #[.int .i64 ((L 8 : Nat) : Int), .int .i64 ((L 9 : Nat) : Int), .int .i64 ((L 10 : Nat) : Int), .int .i64 ((L 11 : Nat) : Int)] 177)) (Blk.new wr #[.int .i64 ((L 8 : Nat) : Int), .int .i64 ((L 9 : Nat) : Int), .int .i64 ((L 10 : Nat) : Int), .int .i64 ((L 11 : Nat) : Int)] 177))))
          have hlt := (unhide D).2.1.lt
          have hix := index58_2 L
          have hs4 : ((L 9 : Nat) : Int) < 32 := by omega
          have hsb := shr_bound x (L 9) hx0 hx1
          have hand := and_full (x / 2 ^ L 9) (L 8) hsb.1 hsb.2 (by omega)
          have hm := mod_full (x / 2 ^ L 9) (L 8)
          have hf := full_nonneg (k := L 8) (by omega)
          have HC : Hid (numI (x / 2 ^ L 9 % 2 ^ L 8) (L 8) = chanN L x 2) := rfl
          clear D
          generalize colK false L x 2 = c at *
          generalize x / 2 ^ L 9 % 2 ^ L 8 = y at *
          by_cases h0 : L 8 = 0
          · have h0b : (((L 8 : Nat) : Int) == 0) = true := by simp; omega
            have H0 := hide h0
            clear h0 hand hm hf hsb HC E1
            go_wp2
            go_roundw
            case rel => exact ⟨3, by omega, rfl, (unhide D1).1, by rw [unhide E2 (unhide H0)]; exact (unhide D1).2.1, (unhide D1).2.2.1⟩
            case measure => simp [intOf]
          · have h0b : (((L 8 : Nat) : Int) == 0) = false := by simp; omega
            go_wp2
            go_quiet (first | (go_at_call 223; refine Calls.quiet_of_same (full_any (L 8) _ (by omega))) | (go_at_call 222; refine Calls.quiet_of_same (numberOf_any y (L 8) _ (by omega) (by omega) hm.1 hm.2)))
            rw [unhide HC]
            generalize chanN L x 2 = n at *
            go_wp2
            go_loopw [10] (fun i wr2 => ∃ q : Nat, L 10 ≤ q ∧ q ≤ L 11 + 1 ∧ i = .int .i64 q ∧ Blk wr2 (w.heap.size + 1) #[.int .i32 0, .int .i32 0, .int .i32 0, .int .i32 0] 28 ∧ Blk wr2 (w.heap.size + 1 + 1) #[.int .i32 (colS c (L 10) q n 0), .int .i32 (colS c (L 10) q n 1), .int .i32 (colS c (L 10) q n 2), .int .i32 (colS c (L 10) q n 3)] 28 ∧ Ext w wr2 ∧ Blk wr2 wr.heap.size #[.int .i64 ((L 8 : Nat) : Int), .int .i64 ((L 9 : Nat) : Int), .int .i64 ((L 10 : Nat) : Int), .int .i64 ((L 11 : Nat) : Int)] 177) (fun i _ => 5 - (intOf i).toNat)
            case atStart => exact ⟨L 10, by omega, by omega, rfl, (unhide D1).1.drewN _, by rw [colS_none]; exact (unhide D1).2.1.drewN _, (unhide D1).2.2.1.drewN _, (unhide D1).2.2.2.drewN _⟩
            case round =>
              obtain ⟨q, hq0, hq1, rfl, hb0, hb1, hxx, hch⟩ := hrel
              have hch3 := hch.cell (i := 3) rfl
              have hq4 : (q : Int) < 4 ∨ (q : Int) = 4 := by omega
              by_cases hql : q ≤ L 11
              · have hq3 : q < 4 := by omega
                have hcell := hb1.vec q hq3
                have hfr := hb1.free q
                have D2 := hide (And.intro hb0 (And.intro hb1 (And.intro hxx hch)))
                clear hb0 hb1 hxx hch D1
                go_wp2
                go_roundw
                case rel =>
                  refine ⟨q + 1, by omega, by omega, by go_num, (unhide D2).1.other q _ (by omega), ?_, ext_set (unhide D2).2.2.1 (by omega), (unhide D2).2.2.2.other q _ (by omega)⟩
                  have := (unhide D2).2.1.set q (.int .i32 n)
                  rw [colS_set c (L 10) q n (by omega) hq3] at this
                  exact this
                case measure => simp [intOf]; omega
              · have hqe : q = L 11 + 1 := by omega
                have D2 := hide (And.intro hb0 (And.intro hb1 hxx))
                clear hb0 hb1 hxx hch D1
                go_wp2
                go_roundw
                case rel => exact ⟨3, by omega, rfl, (unhide D2).1, by rw [unhide E1 h0, ← hqe]; exact (unhide D2).2.1, (unhide D2).2.2⟩
                case measure => simp [intOf]
        · have ht := unhide HL 3 (by omega)
          have hu := unhide HU 3 (by omega)
          simp only [Nat.reduceMul, Nat.reduceAdd] at ht hu
          have E1 : Hid (¬ L 12 = 0 → colK false L x 4 = colS (colK false L x 3) (L 14) (L 15 + 1) (chanN L x 3)) := fun h => if_neg h
          have E2 : Hid (L 12 = 0 → colK false L x 4 = colK false L x 3) := fun h => if_pos h
          have D1 := hide (And.intro ((unhide D).1.alloc (.cells #[.int .i64 ((L 12 : Nat) : Int), .int .i64 ((L 13 : Nat) : Int), .int .i64 ((L 14 : Nat) : Int), .int .i64 ((L 15 : Nat) : Int)] 177)) (And.intro ((unhide D).2.1.alloc (.cells #[.int .i64 ((L 12 : Nat) : Int), .int .i64 ((L 13 : Nat) : Int), .int .i64 ((L 14 : Nat) : Int), .int .i64 ((L 15 : Nat) : Int)] 177)) (And.intro ((unhide D).2.2.alloc (.cells #[.int .i64 ((L 12 : Nat) : Int), .int .i64 ((L 13 : Nat) : Int), .int .i64 ((L 14 : Nat) : Int), .int .i64 ((L 15 : Nat) : Int)] 177)) (Blk.new wr #[.int .i64 ((L 12 : Nat) : Int), .int .i64 ((L 13 : Nat) : Int), .int .i64 ((L 14 : Nat) : Int), .int .i64 ((L 15 : Nat) : Int)] 177))))
          have hlt := (unhide D).2.1.lt
          have hix := index58_3 L
          have hs4 : ((L 13 : Nat) : Int) < 32 := by omega
          have hsb := shr_bound x (L 13) hx0 hx1
          have hand := and_full (x / 2 ^ L 13) (L 12) hsb.1 hsb.2 (by omega)
          have hm := mod_full (x / 2 ^ L 13) (L 12)
          have hf := full_nonneg (k := L 12) (by omega)
          have HC : Hid (numI (x / 2 ^ L 13 % 2 ^ L 12) (L 12) = chanN L x 3) := rfl
          clear D
          generalize colK false L x 3 = c at *
          generalize x / 2 ^ L 13 % 2 ^ L 12 = y at *
          by_cases h0 : L 12 = 0
          · have h0b : (((L 12 : Nat) : Int) == 0) = true := by simp; omega
            have H0 := hide h0
            clear h0 hand hm hf hsb HC E1
            go_wp2
            go_roundw
            case rel => exact ⟨4, by omega, rfl, (unhide D1).1, by rw [unhide E2 (unhide H0)]; exact (unhide D1).2.1, (unhide D1).2.2.1⟩
            case measure => simp [intOf]
          · have h0b : (((L 12 : Nat) : Int) == 0) = false := by simp; omega
            go_wp2
            go_quiet (first | (go_at_call 223; refine Calls.quiet_of_same (full_any (L 12) _ (by omega))) | (go_at_call 222; refine Calls.quiet_of_same (numberOf_any y (L 12) _ (by omega) (by omega) hm.1 hm.2)))
            rw [unhide HC]
            generalize chanN L x 3 = n at *
            go_wp2
            go_loopw [10] (fun i wr2 => ∃ q : Nat, L 14 ≤ q ∧ q ≤ L 15 + 1 ∧ i = .int .i64 q ∧ Blk wr2 (w.heap.size + 1) #[.int .i32 0, .int .i32 0, .int .i32 0, .int .i32 0] 28 ∧ Blk wr2 (w.heap.size + 1 + 1) #[.int .i32 (colS c (L 14) q n 0), .int .i32 (colS c (L 14) q n 1), .int .i32 (colS c (L 14) q n 2), .int .i32 (colS c (L 14) q n 3)] 28 ∧ Ext w wr2 ∧ Blk wr2 wr.heap.size #[.int .i64 ((L 12 : Nat) : Int), .int .i64 ((L 13 : Nat) : Int), .int .i64 ((L 14 : Nat) : Int), .int .i64 ((L 15 : Nat) : Int)] 177) (fun i _ => 5 - (intOf i).toNat)
            case atStart => exact ⟨L 14, by omega, by omega, rfl, (unhide D1).1.drewN _, by rw [colS_none]; exact (unhide D1).2.1.drewN _, (unhide D1).2.2.1.drewN _, (unhide D1).2.2.2.drewN _⟩
            case round =>
              obtain ⟨q, hq0, hq1, rfl, hb0, hb1, hxx, hch⟩ := hrel
              have hch3 := hch.cell (i := 3) rfl
              have hq4 : (q : Int) < 4 ∨ (q : Int) = 4 := by omega
              by_cases hql : q ≤ L 15
              · have hq3 : q < 4 := by omega
                have hcell := hb1.vec q hq3
                have hfr := hb1.free q
                have D2 := hide (And.intro hb0 (And.intro hb1 (And.intro hxx hch)))
                clear hb0 hb1 hxx hch D1
                go_wp2
                go_roundw
                case rel =>
                  refine ⟨q + 1, by omega, by omega, by go_num, (unhide D2).1.other q _ (by omega), ?_, ext_set (unhide D2).2.2.1 (by omega), (unhide D2).2.2.2.other q _ (by omega)⟩
                  have := (unhide D2).2.1.set q (.int .i32 n)
                  rw [colS_set c (L 14) q n (by omega) hq3] at this
                  exact this
                case measure => simp [intOf]; omega
              · have hqe : q = L 15 + 1 := by omega
                have D2 := hide (And.intro hb0 (And.intro hb1 hxx))
                clear hb0 hb1 hxx hch D1
                go_wp2
                go_roundw
                case rel => exact ⟨4, by omega, rfl, (unhide D2).1, by rw [unhide E1 h0, ← hqe]; exact (unhide D2).2.1, (unhide D2).2.2⟩
                case measure => simp [intOf]
  | true =>
    go_wp2_with fail
    refine (whole_any ao cap xs _ (hr.ext ((((Ext.refl w).alloc _).alloc _).alloc _)) hB hl).mono ?_
    rintro e w1 ⟨rfl, hx⟩
    have D0 := hide (And.intro ((((Blk.at rfl).alloc _).alloc _).ext hx) (And.intro (((Blk.at (b := w.heap.size + 1) (by simp)).alloc _).ext hx) (And.intro ((Blk.at (b := w.heap.size + 1 + 1) (by simp)).ext hx) (((((Ext.refl w).alloc _).alloc _).alloc _).trans hx))))
    have R := hide ((unhide D0).1.range 3 [.int .i64 ((L 0 : Nat) : Int), .int .i64 ((L 1 : Nat) : Int), .int .i64 ((L 2 : Nat) : Int), .int .i64 ((L 3 : Nat) : Int), .int .i64 ((L 4 : Nat) : Int), .int .i64 ((L 5 : Nat) : Int), .int .i64 ((L 6 : Nat) : Int), .int .i64 ((L 7 : Nat) : Int), .int .i64 ((L 8 : Nat) : Int), .int .i64 ((L 9 : Nat) : Int), .int .i64 ((L 10 : Nat) : Int), .int .i64 ((L 11 : Nat) : Int), .int .i64 ((L 12 : Nat) : Int), .int .i64 ((L 13 : Nat) : Int), .int .i64 ((L 14 : Nat) : Int), .int .i64 ((L 15 : Nat) : Int)] rfl)
    clear hx hr c2 hL hU
    obtain ⟨x, hx⟩ : ∃ x, x = numOf xs := ⟨_, rfl⟩
    have HX := hide hx
    rw [← hx] at HN
    rw [← hx]
    clear hx
    have hx0 := (unhide HN).1
    have hx1 : x < 4294967296 := by have := (unhide HN).2; omega
    go_wp2_with (refine wpList_load_mid rfl 178 (.tmp 16) rfl w.heap.size 3 rfl [.int .i64 ((L 0 : Nat) : Int), .int .i64 ((L 1 : Nat) : Int), .int .i64 ((L 2 : Nat) : Int), .int .i64 ((L 3 : Nat) : Int), .int .i64 ((L 4 : Nat) : Int), .int .i64 ((L 5 : Nat) : Int), .int .i64 ((L 6 : Nat) : Int), .int .i64 ((L 7 : Nat) : Int), .int .i64 ((L 8 : Nat) : Int), .int .i64 ((L 9 : Nat) : Int), .int .i64 ((L 10 : Nat) : Int), .int .i64 ((L 11 : Nat) : Int), .int .i64 ((L 12 : Nat) : Int), .int .i64 ((L 13 : Nat) : Int), .int .i64 ((L 14 : Nat) : Int), .int .i64 ((L 15 : Nat) : Int)] _ (unhide R) Tryz.underlying178 rfl size58 ?_)
    go_loopw [18] (fun i wr => ∃ k : Nat, k ≤ 4 ∧ i = .int .i64 k ∧ Blk wr (w.heap.size + 1) #[.int .i32 0, .int .i32 0, .int .i32 0, .int .i32 0] 28 ∧ Blk wr (w.heap.size + 1 + 1) #[.int .i32 (colK true L x k 0), .int .i32 (colK true L x k 1), .int .i32 (colK true L x k 2), .int .i32 (colK true L x k 3)] 28 ∧ Ext w wr) (fun i _ => 4 - (intOf i).toNat)
    case atStart => exact ⟨0, by omega, rfl, (unhide D0).2.1, (unhide D0).2.2.1, (unhide D0).2.2.2⟩
    case round =>
      obtain ⟨k, hk, rfl, hb0, hb1, hxx⟩ := hrel
      have D := hide (And.intro hb0 (And.intro hb1 hxx))
      clear hb0 hb1 hxx D0 R
      by_cases h4 : k = 4
      · subst h4
        go_wp2_with (first
          | refine wpList_load_row rfl 28 (.tmp 5) rfl (w.heap.size + 1 + 1) rfl 28 #[.int .i32 (colK true L x 4 0), .int .i32 (colK true L x 4 1), .int .i32 (colK true L x 4 2), .int .i32 (colK true L x 4 3)] (0, 0) _ (unhide D).2.1 Tryz.underlying28 rfl size35 ?_
          | refine wpList_store_row rfl 28 (.tmp 4) (.tmp 47) rfl (w.heap.size + 1) #[.int .i32 (colK true L x 4 0), .int .i32 (colK true L x 4 1), .int .i32 (colK true L x 4 2), .int .i32 (colK true L x 4 3)] rfl rfl 28 _ (unhide D).1 size35 rfl (vec_one _) ?_)
        refine bodyPost_ret (v := .agg #[.int .i32 (colK true L x 4 0), .int .i32 (colK true L x 4 1), .int .i32 (colK true L x 4 2), .int .i32 (colK true L x 4 3)]) (results_cell_row Tryz.results215 _ _ (w.heap.size + 1) 28 _ (0, 0) _ rfl (unhide D).1.row Tryz.underlying28 rfl size35) rfl ⟨by rw [unhide HX], ?_⟩
        exact ext_row (unhide D).2.2 (by omega)
      · rcases (by omega : k = 0 ∨ k = 1 ∨ k = 2 ∨ k = 3) with rfl | rfl | rfl | rfl
        · have ht := unhide HL 0 (by omega)
          have hu := unhide HU 0 (by omega)
          simp only [Nat.reduceMul, Nat.reduceAdd] at ht hu
          have E1 : Hid (¬ L 0 = 0 → colK true L x 1 = colS (colK true L x 0) (L 2) (L 3 + 1) (chanN L x 0)) := fun h => if_neg h
          have E2 : Hid (L 0 = 0 → colK true L x 1 = colK true L x 0) := fun h => if_pos h
          have D1 := hide (And.intro ((unhide D).1.alloc (.cells #[.int .i64 ((L 0 : Nat) : Int), .int .i64 ((L 1 : Nat) : Int), .int .i64 ((L 2 : Nat) : Int), .int .i64 ((L 3 : Nat) : Int)] 177)) (And.intro ((unhide D).2.1.alloc (.cells #[.int .i64 ((L 0 : Nat) : Int), .int .i64 ((L 1 : Nat) : Int), .int .i64 ((L 2 : Nat) : Int), .int .i64 ((L 3 : Nat) : Int)] 177)) (And.intro ((unhide D).2.2.alloc (.cells #[.int .i64 ((L 0 : Nat) : Int), .int .i64 ((L 1 : Nat) : Int), .int .i64 ((L 2 : Nat) : Int), .int .i64 ((L 3 : Nat) : Int)] 177)) (Blk.new wr #[.int .i64 ((L 0 : Nat) : Int), .int .i64 ((L 1 : Nat) : Int), .int .i64 ((L 2 : Nat) : Int), .int .i64 ((L 3 : Nat) : Int)] 177))))
          have hlt := (unhide D).2.1.lt
          have hix := index58_0 L
          have hs4 : ((L 1 : Nat) : Int) < 32 := by omega
          have hsb := shr_bound x (L 1) hx0 hx1
          have hand := and_full (x / 2 ^ L 1) (L 0) hsb.1 hsb.2 (by omega)
          have hm := mod_full (x / 2 ^ L 1) (L 0)
          have hf := full_nonneg (k := L 0) (by omega)
          have HC : Hid (numI (x / 2 ^ L 1 % 2 ^ L 0) (L 0) = chanN L x 0) := rfl
          clear D
          generalize colK true L x 0 = c at *
          generalize x / 2 ^ L 1 % 2 ^ L 0 = y at *
          by_cases h0 : L 0 = 0
          · have h0b : (((L 0 : Nat) : Int) == 0) = true := by simp; omega
            have H0 := hide h0
            clear h0 hand hm hf hsb HC E1
            go_wp2
            go_roundw
            case rel => exact ⟨1, by omega, rfl, (unhide D1).1, by rw [unhide E2 (unhide H0)]; exact (unhide D1).2.1, (unhide D1).2.2.1⟩
            case measure => simp [intOf]
          · have h0b : (((L 0 : Nat) : Int) == 0) = false := by simp; omega
            go_wp2
            go_quiet (first | (go_at_call 223; refine Calls.quiet_of_same (full_any (L 0) _ (by omega))) | (go_at_call 222; refine Calls.quiet_of_same (numberOf_any y (L 0) _ (by omega) (by omega) hm.1 hm.2)))
            rw [unhide HC]
            generalize chanN L x 0 = n at *
            go_wp2
            go_loopw [10] (fun i wr2 => ∃ q : Nat, L 2 ≤ q ∧ q ≤ L 3 + 1 ∧ i = .int .i64 q ∧ Blk wr2 (w.heap.size + 1) #[.int .i32 0, .int .i32 0, .int .i32 0, .int .i32 0] 28 ∧ Blk wr2 (w.heap.size + 1 + 1) #[.int .i32 (colS c (L 2) q n 0), .int .i32 (colS c (L 2) q n 1), .int .i32 (colS c (L 2) q n 2), .int .i32 (colS c (L 2) q n 3)] 28 ∧ Ext w wr2 ∧ Blk wr2 wr.heap.size #[.int .i64 ((L 0 : Nat) : Int), .int .i64 ((L 1 : Nat) : Int), .int .i64 ((L 2 : Nat) : Int), .int .i64 ((L 3 : Nat) : Int)] 177) (fun i _ => 5 - (intOf i).toNat)
            case atStart => exact ⟨L 2, by omega, by omega, rfl, (unhide D1).1.drewN _, by rw [colS_none]; exact (unhide D1).2.1.drewN _, (unhide D1).2.2.1.drewN _, (unhide D1).2.2.2.drewN _⟩
            case round =>
              obtain ⟨q, hq0, hq1, rfl, hb0, hb1, hxx, hch⟩ := hrel
              have hch3 := hch.cell (i := 3) rfl
              have hq4 : (q : Int) < 4 ∨ (q : Int) = 4 := by omega
              by_cases hql : q ≤ L 3
              · have hq3 : q < 4 := by omega
                have hcell := hb1.vec q hq3
                have hfr := hb1.free q
                have D2 := hide (And.intro hb0 (And.intro hb1 (And.intro hxx hch)))
                clear hb0 hb1 hxx hch D1
                go_wp2
                go_roundw
                case rel =>
                  refine ⟨q + 1, by omega, by omega, by go_num, (unhide D2).1.other q _ (by omega), ?_, ext_set (unhide D2).2.2.1 (by omega), (unhide D2).2.2.2.other q _ (by omega)⟩
                  have := (unhide D2).2.1.set q (.int .i32 n)
                  rw [colS_set c (L 2) q n (by omega) hq3] at this
                  exact this
                case measure => simp [intOf]; omega
              · have hqe : q = L 3 + 1 := by omega
                have D2 := hide (And.intro hb0 (And.intro hb1 hxx))
                clear hb0 hb1 hxx hch D1
                go_wp2
                go_roundw
                case rel => exact ⟨1, by omega, rfl, (unhide D2).1, by rw [unhide E1 h0, ← hqe]; exact (unhide D2).2.1, (unhide D2).2.2⟩
                case measure => simp [intOf]
        · have ht := unhide HL 1 (by omega)
          have hu := unhide HU 1 (by omega)
          simp only [Nat.reduceMul, Nat.reduceAdd] at ht hu
          have E1 : Hid (¬ L 4 = 0 → colK true L x 2 = colS (colK true L x 1) (L 6) (L 7 + 1) (chanN L x 1)) := fun h => if_neg h
          have E2 : Hid (L 4 = 0 → colK true L x 2 = colK true L x 1) := fun h => if_pos h
          have D1 := hide (And.intro ((unhide D).1.alloc (.cells #[.int .i64 ((L 4 : Nat) : Int), .int .i64 ((L 5 : Nat) : Int), .int .i64 ((L 6 : Nat) : Int), .int .i64 ((L 7 : Nat) : Int)] 177)) (And.intro ((unhide D).2.1.alloc (.cells #[.int .i64 ((L 4 : Nat) : Int), .int .i64 ((L 5 : Nat) : Int), .int .i64 ((L 6 : Nat) : Int), .int .i64 ((L 7 : Nat) : Int)] 177)) (And.intro ((unhide D).2.2.alloc (.cells #[.int .i64 ((L 4 : Nat) : Int), .int .i64 ((L 5 : Nat) : Int), .int .i64 ((L 6 : Nat) : Int), .int .i64 ((L 7 : Nat) : Int)] 177)) (Blk.new wr #[.int .i64 ((L 4 : Nat) : Int), .int .i64 ((L 5 : Nat) : Int), .int .i64 ((L 6 : Nat) : Int), .int .i64 ((L 7 : Nat) : Int)] 177))))
          have hlt := (unhide D).2.1.lt
          have hix := index58_1 L
          have hs4 : ((L 5 : Nat) : Int) < 32 := by omega
          have hsb := shr_bound x (L 5) hx0 hx1
          have hand := and_full (x / 2 ^ L 5) (L 4) hsb.1 hsb.2 (by omega)
          have hm := mod_full (x / 2 ^ L 5) (L 4)
          have hf := full_nonneg (k := L 4) (by omega)
          have HC : Hid (numI (x / 2 ^ L 5 % 2 ^ L 4) (L 4) = chanN L x 1) := rfl
          clear D
          generalize colK true L x 1 = c at *
          generalize x / 2 ^ L 5 % 2 ^ L 4 = y at *
          by_cases h0 : L 4 = 0
          · have h0b : (((L 4 : Nat) : Int) == 0) = true := by simp; omega
            have H0 := hide h0
            clear h0 hand hm hf hsb HC E1
            go_wp2
            go_roundw
            case rel => exact ⟨2, by omega, rfl, (unhide D1).1, by rw [unhide E2 (unhide H0)]; exact (unhide D1).2.1, (unhide D1).2.2.1⟩
            case measure => simp [intOf]
          · have h0b : (((L 4 : Nat) : Int) == 0) = false := by simp; omega
            go_wp2
            go_quiet (first | (go_at_call 223; refine Calls.quiet_of_same (full_any (L 4) _ (by omega))) | (go_at_call 222; refine Calls.quiet_of_same (numberOf_any y (L 4) _ (by omega) (by omega) hm.1 hm.2)))
            rw [unhide HC]
            generalize chanN L x 1 = n at *
            go_wp2
            go_loopw [10] (fun i wr2 => ∃ q : Nat, L 6 ≤ q ∧ q ≤ L 7 + 1 ∧ i = .int .i64 q ∧ Blk wr2 (w.heap.size + 1) #[.int .i32 0, .int .i32 0, .int .i32 0, .int .i32 0] 28 ∧ Blk wr2 (w.heap.size + 1 + 1) #[.int .i32 (colS c (L 6) q n 0), .int .i32 (colS c (L 6) q n 1), .int .i32 (colS c (L 6) q n 2), .int .i32 (colS c (L 6) q n 3)] 28 ∧ Ext w wr2 ∧ Blk wr2 wr.heap.size #[.int .i64 ((L 4 : Nat) : Int), .int .i64 ((L 5 : Nat) : Int), .int .i64 ((L 6 : Nat) : Int), .int .i64 ((L 7 : Nat) : Int)] 177) (fun i _ => 5 - (intOf i).toNat)
            case atStart => exact ⟨L 6, by omega, by omega, rfl, (unhide D1).1.drewN _, by rw [colS_none]; exact (unhide D1).2.1.drewN _, (unhide D1).2.2.1.drewN _, (unhide D1).2.2.2.drewN _⟩
            case round =>
              obtain ⟨q, hq0, hq1, rfl, hb0, hb1, hxx, hch⟩ := hrel
              have hch3 := hch.cell (i := 3) rfl
              have hq4 : (q : Int) < 4 ∨ (q : Int) = 4 := by omega
              by_cases hql : q ≤ L 7
              · have hq3 : q < 4 := by omega
                have hcell := hb1.vec q hq3
                have hfr := hb1.free q
                have D2 := hide (And.intro hb0 (And.intro hb1 (And.intro hxx hch)))
                clear hb0 hb1 hxx hch D1
                go_wp2
                go_roundw
                case rel =>
                  refine ⟨q + 1, by omega, by omega, by go_num, (unhide D2).1.other q _ (by omega), ?_, ext_set (unhide D2).2.2.1 (by omega), (unhide D2).2.2.2.other q _ (by omega)⟩
                  have := (unhide D2).2.1.set q (.int .i32 n)
                  rw [colS_set c (L 6) q n (by omega) hq3] at this
                  exact this
                case measure => simp [intOf]; omega
              · have hqe : q = L 7 + 1 := by omega
                have D2 := hide (And.intro hb0 (And.intro hb1 hxx))
                clear hb0 hb1 hxx hch D1
                go_wp2
                go_roundw
                case rel => exact ⟨2, by omega, rfl, (unhide D2).1, by rw [unhide E1 h0, ← hqe]; exact (unhide D2).2.1, (unhide D2).2.2⟩
                case measure => simp [intOf]
        · have ht := unhide HL 2 (by omega)
          have hu := unhide HU 2 (by omega)
          simp only [Nat.reduceMul, Nat.reduceAdd] at ht hu
          have E1 : Hid (¬ L 8 = 0 → colK true L x 3 = colS (colK true L x 2) (L 10) (L 11 + 1) (chanN L x 2)) := fun h => if_neg h
          have E2 : Hid (L 8 = 0 → colK true L x 3 = colK true L x 2) := fun h => if_pos h
          have D1 := hide (And.intro ((unhide D).1.alloc (.cells #[.int .i64 ((L 8 : Nat) : Int), .int .i64 ((L 9 : Nat) : Int), .int .i64 ((L 10 : Nat) : Int), .int .i64 ((L 11 : Nat) : Int)] 177)) (And.intro ((unhide D).2.1.alloc (.cells #[.int .i64 ((L 8 : Nat) : Int), .int .i64 ((L 9 : Nat) : Int), .int .i64 ((L 10 : Nat) : Int), .int .i64 ((L 11 : Nat) : Int)] 177)) (And.intro ((unhide D).2.2.alloc (.cells #[.int .i64 ((L 8 : Nat) : Int), .int .i64 ((L 9 : Nat) : Int), .int .i64 ((L 10 : Nat) : Int), .int .i64 ((L 11 : Nat) : Int)] 177)) (Blk.new wr #[.int .i64 ((L 8 : Nat) : Int), .int .i64 ((L 9 : Nat) : Int), .int .i64 ((L 10 : Nat) : Int), .int .i64 ((L 11 : Nat) : Int)] 177))))
          have hlt := (unhide D).2.1.lt
          have hix := index58_2 L
          have hs4 : ((L 9 : Nat) : Int) < 32 := by omega
          have hsb := shr_bound x (L 9) hx0 hx1
          have hand := and_full (x / 2 ^ L 9) (L 8) hsb.1 hsb.2 (by omega)
          have hm := mod_full (x / 2 ^ L 9) (L 8)
          have hf := full_nonneg (k := L 8) (by omega)
          have HC : Hid (numI (x / 2 ^ L 9 % 2 ^ L 8) (L 8) = chanN L x 2) := rfl
          clear D
          generalize colK true L x 2 = c at *
          generalize x / 2 ^ L 9 % 2 ^ L 8 = y at *
          by_cases h0 : L 8 = 0
          · have h0b : (((L 8 : Nat) : Int) == 0) = true := by simp; omega
            have H0 := hide h0
            clear h0 hand hm hf hsb HC E1
            go_wp2
            go_roundw
            case rel => exact ⟨3, by omega, rfl, (unhide D1).1, by rw [unhide E2 (unhide H0)]; exact (unhide D1).2.1, (unhide D1).2.2.1⟩
            case measure => simp [intOf]
          · have h0b : (((L 8 : Nat) : Int) == 0) = false := by simp; omega
            go_wp2
            go_quiet (first | (go_at_call 223; refine Calls.quiet_of_same (full_any (L 8) _ (by omega))) | (go_at_call 222; refine Calls.quiet_of_same (numberOf_any y (L 8) _ (by omega) (by omega) hm.1 hm.2)))
            rw [unhide HC]
            generalize chanN L x 2 = n at *
            go_wp2
            go_loopw [10] (fun i wr2 => ∃ q : Nat, L 10 ≤ q ∧ q ≤ L 11 + 1 ∧ i = .int .i64 q ∧ Blk wr2 (w.heap.size + 1) #[.int .i32 0, .int .i32 0, .int .i32 0, .int .i32 0] 28 ∧ Blk wr2 (w.heap.size + 1 + 1) #[.int .i32 (colS c (L 10) q n 0), .int .i32 (colS c (L 10) q n 1), .int .i32 (colS c (L 10) q n 2), .int .i32 (colS c (L 10) q n 3)] 28 ∧ Ext w wr2 ∧ Blk wr2 wr.heap.size #[.int .i64 ((L 8 : Nat) : Int), .int .i64 ((L 9 : Nat) : Int), .int .i64 ((L 10 : Nat) : Int), .int .i64 ((L 11 : Nat) : Int)] 177) (fun i _ => 5 - (intOf i).toNat)
            case atStart => exact ⟨L 10, by omega, by omega, rfl, (unhide D1).1.drewN _, by rw [colS_none]; exact (unhide D1).2.1.drewN _, (unhide D1).2.2.1.drewN _, (unhide D1).2.2.2.drewN _⟩
            case round =>
              obtain ⟨q, hq0, hq1, rfl, hb0, hb1, hxx, hch⟩ := hrel
              have hch3 := hch.cell (i := 3) rfl
              have hq4 : (q : Int) < 4 ∨ (q : Int) = 4 := by omega
              by_cases hql : q ≤ L 11
              · have hq3 : q < 4 := by omega
                have hcell := hb1.vec q hq3
                have hfr := hb1.free q
                have D2 := hide (And.intro hb0 (And.intro hb1 (And.intro hxx hch)))
                clear hb0 hb1 hxx hch D1
                go_wp2
                go_roundw
                case rel =>
                  refine ⟨q + 1, by omega, by omega, by go_num, (unhide D2).1.other q _ (by omega), ?_, ext_set (unhide D2).2.2.1 (by omega), (unhide D2).2.2.2.other q _ (by omega)⟩
                  have := (unhide D2).2.1.set q (.int .i32 n)
                  rw [colS_set c (L 10) q n (by omega) hq3] at this
                  exact this
                case measure => simp [intOf]; omega
              · have hqe : q = L 11 + 1 := by omega
                have D2 := hide (And.intro hb0 (And.intro hb1 hxx))
                clear hb0 hb1 hxx hch D1
                go_wp2
                go_roundw
                case rel => exact ⟨3, by omega, rfl, (unhide D2).1, by rw [unhide E1 h0, ← hqe]; exact (unhide D2).2.1, (unhide D2).2.2⟩
                case measure => simp [intOf]
        · have ht := unhide HL 3 (by omega)
          have hu := unhide HU 3 (by omega)
          simp only [Nat.reduceMul, Nat.reduceAdd] at ht hu
          have E1 : Hid (¬ L 12 = 0 → colK true L x 4 = colS (colK true L x 3) (L 14) (L 15 + 1) (chanN L x 3)) := fun h => if_neg h
          have E2 : Hid (L 12 = 0 → colK true L x 4 = colK true L x 3) := fun h => if_pos h
          have D1 := hide (And.intro ((unhide D).1.alloc (.cells #[.int .i64 ((L 12 : Nat) : Int), .int .i64 ((L 13 : Nat) : Int), .int .i64 ((L 14 : Nat) : Int), .int .i64 ((L 15 : Nat) : Int)] 177)) (And.intro ((unhide D).2.1.alloc (.cells #[.int .i64 ((L 12 : Nat) : Int), .int .i64 ((L 13 : Nat) : Int), .int .i64 ((L 14 : Nat) : Int), .int .i64 ((L 15 : Nat) : Int)] 177)) (And.intro ((unhide D).2.2.alloc (.cells #[.int .i64 ((L 12 : Nat) : Int), .int .i64 ((L 13 : Nat) : Int), .int .i64 ((L 14 : Nat) : Int), .int .i64 ((L 15 : Nat) : Int)] 177)) (Blk.new wr #[.int .i64 ((L 12 : Nat) : Int), .int .i64 ((L 13 : Nat) : Int), .int .i64 ((L 14 : Nat) : Int), .int .i64 ((L 15 : Nat) : Int)] 177))))
          have hlt := (unhide D).2.1.lt
          have hix := index58_3 L
          have hs4 : ((L 13 : Nat) : Int) < 32 := by omega
          have hsb := shr_bound x (L 13) hx0 hx1
          have hand := and_full (x / 2 ^ L 13) (L 12) hsb.1 hsb.2 (by omega)
          have hm := mod_full (x / 2 ^ L 13) (L 12)
          have hf := full_nonneg (k := L 12) (by omega)
          have HC : Hid (numI (x / 2 ^ L 13 % 2 ^ L 12) (L 12) = chanN L x 3) := rfl
          clear D
          generalize colK true L x 3 = c at *
          generalize x / 2 ^ L 13 % 2 ^ L 12 = y at *
          by_cases h0 : L 12 = 0
          · have h0b : (((L 12 : Nat) : Int) == 0) = true := by simp; omega
            have H0 := hide h0
            clear h0 hand hm hf hsb HC E1
            go_wp2
            go_roundw
            case rel => exact ⟨4, by omega, rfl, (unhide D1).1, by rw [unhide E2 (unhide H0)]; exact (unhide D1).2.1, (unhide D1).2.2.1⟩
            case measure => simp [intOf]
          · have h0b : (((L 12 : Nat) : Int) == 0) = false := by simp; omega
            go_wp2
            go_quiet (first | (go_at_call 223; refine Calls.quiet_of_same (full_any (L 12) _ (by omega))) | (go_at_call 222; refine Calls.quiet_of_same (numberOf_any y (L 12) _ (by omega) (by omega) hm.1 hm.2)))
            rw [unhide HC]
            generalize chanN L x 3 = n at *
            go_wp2
            go_loopw [10] (fun i wr2 => ∃ q : Nat, L 14 ≤ q ∧ q ≤ L 15 + 1 ∧ i = .int .i64 q ∧ Blk wr2 (w.heap.size + 1) #[.int .i32 0, .int .i32 0, .int .i32 0, .int .i32 0] 28 ∧ Blk wr2 (w.heap.size + 1 + 1) #[.int .i32 (colS c (L 14) q n 0), .int .i32 (colS c (L 14) q n 1), .int .i32 (colS c (L 14) q n 2), .int .i32 (colS c (L 14) q n 3)] 28 ∧ Ext w wr2 ∧ Blk wr2 wr.heap.size #[.int .i64 ((L 12 : Nat) : Int), .int .i64 ((L 13 : Nat) : Int), .int .i64 ((L 14 : Nat) : Int), .int .i64 ((L 15 : Nat) : Int)] 177) (fun i _ => 5 - (intOf i).toNat)
            case atStart => exact ⟨L 14, by omega, by omega, rfl, (unhide D1).1.drewN _, by rw [colS_none]; exact (unhide D1).2.1.drewN _, (unhide D1).2.2.1.drewN _, (unhide D1).2.2.2.drewN _⟩
            case round =>
              obtain ⟨q, hq0, hq1, rfl, hb0, hb1, hxx, hch⟩ := hrel
              have hch3 := hch.cell (i := 3) rfl
              have hq4 : (q : Int) < 4 ∨ (q : Int) = 4 := by omega
              by_cases hql : q ≤ L 15
              · have hq3 : q < 4 := by omega
                have hcell := hb1.vec q hq3
                have hfr := hb1.free q
                have D2 := hide (And.intro hb0 (And.intro hb1 (And.intro hxx hch)))
                clear hb0 hb1 hxx hch D1
                go_wp2
                go_roundw
                case rel =>
                  refine ⟨q + 1, by omega, by omega, by go_num, (unhide D2).1.other q _ (by omega), ?_, ext_set (unhide D2).2.2.1 (by omega), (unhide D2).2.2.2.other q _ (by omega)⟩
                  have := (unhide D2).2.1.set q (.int .i32 n)
                  rw [colS_set c (L 14) q n (by omega) hq3] at this
                  exact this
                case measure => simp [intOf]; omega
              · have hqe : q = L 15 + 1 := by omega
                have D2 := hide (And.intro hb0 (And.intro hb1 hxx))
                clear hb0 hb1 hxx hch D1
                go_wp2
                go_roundw
                case rel => exact ⟨4, by omega, rfl, (unhide D2).1, by rw [unhide E1 h0, ← hqe]; exact (unhide D2).2.1, (unhide D2).2.2⟩
                case measure => simp [intOf]
end Go.Proofs.YtglfhmlcmffoaaaGreat
