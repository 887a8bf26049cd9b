/-
  LexLong: how long a text can be, and how many tokens it can have; for all numbers.
-/
import Derived.Test.YtgoldmohmjjngaaXS
import Derived.Test.YtgoldmohmjjngaaFrH
namespace Go.Proofs.Ytgoldmohmjjngaa
open Go.ChangeShapes Go.WideShapes Go.ChangeAt Go.RowKit
set_option linter.unusedSimpArgs false
set_option linter.unusedVariables false

/-- A semicolon and a blank, n times. -/
def semis : Nat → Byts8
  | 0 => []
  | n + 1 => 59 :: 32 :: semis n
theorem semis_len (n : Nat) : (semis n).length = 2 * n := by
  induction n with
  | zero => rfl
  | succ n ih => simp [semis, ih]; omega
theorem semis_add (n : Nat) : semis n ++ [59, 32] = semis (n + 1) := by
  induction n with
  | zero => rfl
  | succ n ih => simp only [semis, List.cons_append, ih]
theorem semi_piece (l : Byts8) : pieceP (59 :: 32 :: l) = (4, 1) := by
  unfold pieceP
  rw [if_neg (by simp [begN, isBl]), if_neg (by rw [pre2_cons]; decide), if_neg (by rw [pre2_cons]; decide), if_neg (by simp [begN, isLt]), if_neg (by simp [begN, isDg, isPt])]
  rfl
theorem blank_piece (n : Nat) : pieceP (32 :: semis n) = (-1, 1) := by
  unfold pieceP
  rw [if_pos (by rfl)]
  cases n <;> rfl
theorem semi_step (n : Nat) (a ln : Int) (k : Nat) (h : k ≠ 2048) : lexA (semis (n + 1)) a ln k = if (lexA (semis n) (a + 1 + 1) ln (k + 1)).2.1 ≠ 0 then lexA (semis n) (a + 1 + 1) ln (k + 1) else (⟨4, [59], 0, a, ln⟩ :: (lexA (semis n) (a + 1 + 1) ln (k + 1)).1, 0, 0) := by
  have ht : tellP 4 [59] (32 :: semis n) k = (0, 0) := by
    unfold tellP
    rw [if_neg (by simp [spoilt]), if_neg h]
    rfl
  have hb : lexA (32 :: semis n) (a + 1) ln (k + 1) = lexA (semis n) (a + 1 + 1) ln (k + 1) := by
    rw [lexA_gap (by simp) (blank_piece n)]
    simp [cntL, Lib.countByte]
  have e := lexA_tok (l := 59 :: 32 :: semis n) (by simp) (semi_piece _) (by decide) a ln k (by simp [ht])
  rw [show semis (n + 1) = 59 :: 32 :: semis n from rfl, e]
  simp only [List.take_succ_cons, List.take_zero, List.drop_succ_cons, List.drop_zero, ht]
  rw [show ln + ((cntL [59] : Nat) : Int) = ln by simp [cntL, Lib.countByte], show a + ((1 : Nat) : Int) = a + 1 from rfl, hb]
theorem semi_few (n : Nat) : ∀ (a ln : Int) (k : Nat), k + n ≤ 2048 → (lexA (semis n) a ln k).2 = (0, 0) ∧ (lexA (semis n) a ln k).1.length = n := by
  induction n with
  | zero => intro a ln k _; rw [show semis 0 = [] from rfl, lexA_nil]; exact ⟨rfl, rfl⟩
  | succ n ih =>
    intro a ln k h
    have := ih (a + 1 + 1) ln (k + 1) (by omega)
    rw [semi_step n a ln k (by omega), if_neg (by rw [this.1]; simp)]
    exact ⟨rfl, by simp [this.2]⟩
theorem semi_many (n : Nat) : ∀ (a ln : Int) (k : Nat), k ≤ 2048 → 2048 < k + n → lexA (semis n) a ln k = ([], 3, a + 2 * ((2048 - k : Nat) : Int)) := by
  induction n with
  | zero => intro a ln k h1 h2; omega
  | succ n ih =>
    intro a ln k h1 h2
    by_cases hk : k = 2048
    · subst hk
      have ht : tellP 4 [59] (32 :: semis n) 2048 = (0, 3) := by
        unfold tellP
        rw [if_neg (by simp [spoilt]), if_pos rfl]
      have e := lexA_bad (l := 59 :: 32 :: semis n) (by simp) (semi_piece _) (by decide) a ln 2048 (by simp [ht])
      rw [show semis (n + 1) = 59 :: 32 :: semis n from rfl, e]
      simp [ht]
    · have := ih (a + 1 + 1) ln (k + 1) (by omega) (by omega)
      rw [semi_step n a ln k hk, if_pos (by rw [this]; simp), this]
      simp
      omega
theorem lex_few (n : Nat) (h : n ≤ 2048) : (lexP (semis n)).2 = (0, 0) ∧ (lexP (semis n)).1.length = n := by
  unfold lexP
  rw [if_neg (by rw [semis_len]; omega)]
  exact semi_few n 0 0 0 (by omega)
theorem lex_many (n : Nat) (h : 2048 < n) (h2 : n ≤ 4096) : lexP (semis n) = ([], 3, 4096) := by
  unfold lexP
  rw [if_neg (by rw [semis_len]; omega), semi_many n 0 0 0 (by omega) (by omega)]
  rfl
theorem lex_zeros (n : Nat) : lexP (List.replicate (n + 1) 0) = if 8192 < n + 1 then ([], 3, 0) else ([], 200, 0) := by
  unfold lexP
  rw [List.length_replicate]
  split
  · rfl
  · have hp : pieceP (List.replicate (n + 1) (0 : UInt8)) = (-2, 1) := by
      rw [List.replicate_succ]
      unfold pieceP
      cases n with
      | zero => rfl
      | succ n =>
        rw [List.replicate_succ, if_neg (by simp [begN, isBl]), if_neg (by rw [pre2_cons]; simp), if_neg (by rw [pre2_cons]; simp), if_neg (by simp [begN, isLt]), if_neg (by simp [begN, isDg, isPt])]
        rfl
    rw [lexA_bad (by simp) hp (by decide) 0 0 0 (by simp [tellP])]
    simp [tellP]

/-- A number of 0 to 3. -/
def m4 (n : Int) : Nat := (max n 0 % 4).toNat
theorem m4_lt (n : Int) : m4 n < 4 := by unfold m4; omega
theorem m4_eq (n : Int) : max n 0 % 4 = (m4 n : Int) := by unfold m4; omega
theorem m4_tmod (n : Int) : (max n 0).tmod 4 = (m4 n : Int) := by
  rw [Int.tmod_eq_emod_of_nonneg (by omega)]
  exact m4_eq n

set_option maxHeartbeats 4000000 in
set_option maxRecDepth 100000 in
theorem lexLong_any (n k : Int) (W : World) (m : Int) (hm : W.cell? ⟨0, 0, none⟩ = some (.int .i64 m)) :
    Calls Try.prog 6 #[.int .i64 n, .int .i64 k] W fun e w' => e = .returned (.bool true) ∧ Ext W w' := by
  have HM := hide hm
  clear hm
  obtain ⟨i0, hi, hz0, hz1, hz2⟩ := info_parts3 infoB
  have hn4 := m4_lt n
  have hk4 := m4_lt k
  have tn := m4_tmod n
  have tk := m4_tmod k
  go_enter Try.func6, Try.ntmps6
  go_wp2_with fail
  refine (lexWakes_any W m (unhide HM)).mono ?_
  rintro e w1 ⟨rfl, hx1⟩
  have HM1 := hide (keepM (unhide HM) hx1)
  have X1 := hide hx1
  clear HM hx1
  go_wp2
  go_loopw [6, 16] (fun bv iv wr => ∃ (j : Nat) (ao : Option Addr) (cap : Nat), j ≤ 2047 + m4 n ∧ iv = .int .i64 j ∧ bv = .slice ao (2 * j) cap ∧ BO wr w1.heap.size (.slice ao (2 * j) cap) (semis j) ∧ Ext w1 wr) (fun _ iv _ => 2047 + m4 n - (intOf iv).toNat)
  case atStart => exact ⟨0, none, 0, by omega, rfl, rfl, BO.nil _ _, Ext.refl _⟩
  case round =>
    obtain ⟨j, ao, cap, hj, rfl, rfl, hB, hx⟩ := hrel
    have HB := hide hB
    have X := hide hx
    clear hB hx
    by_cases hlt : j < 2047 + m4 n
    · have hlj := semis_len j
      go_wp2_with (at_builtin; refine wpList_append_text rfl (.tmp 18) (.const (.string ⟨#[59, 32]⟩)) rfl w1.heap.size _ (semis j) ⟨#[59, 32]⟩ rfl rfl (unhide HB) ?c1 ?c2 ?_)
      case c1 => rw [hlj]; show 2 * j + 2 ≤ _; omega
      case c2 => exact (unhide X).size
      intro ao2 cap2 w2 hB2 hg2
      have e2 : semis j ++ (⟨#[59, 32]⟩ : ByteArray).data.toList = semis (j + 1) := semis_add j
      rw [e2] at hB2
      have X2 : Hid (Ext w1 w2) := Below.trans (unhide X) (grown_below hg2 (unhide X).size (fun g hg => (Own.lt (unhide HB) g hg).1))
      have HB2 := hide hB2
      clear hg2 hB2 X HB e2
      go_wp2
      refine ⟨⟨j + 1, ao2, cap2, by omega, rfl, rfl, unhide HB2, unhide X2⟩, ?_⟩
      simp [intOf]
      omega
    · have hje : j = 2047 + m4 n := by omega
      subst hje
      have hconv := text_of ao _ cap (semis (2047 + m4 n)) wr (Own.row (unhide HB)) (semis_len _).symm
      clear HB
      have HM2 := hide (keepM (unhide HM1) (unhide X))
      have HL := lex_any ⟨(semis (2047 + m4 n)).toArray⟩ wr m (unhide HM2)
      rw [show (⟨(semis (2047 + m4 n)).toArray⟩ : ByteArray).data.toList = semis (2047 + m4 n) from rfl] at HL
      have hZ : ∀ x : Nat, x < 4 → lexP (List.replicate (8191 + x) 0) = ([], if 2 ≤ x then 3 else 200, 0) := fun x hx => by
        have := lex_zeros (8190 + x)
        rw [show 8190 + x + 1 = 8191 + x by omega] at this
        rw [this]
        by_cases h2 : 2 ≤ x
        · rw [if_pos (by omega), if_pos h2]
        · rw [if_neg (by omega), if_neg h2]
      by_cases h2 : 2 ≤ m4 n
      · rw [lex_many _ (by omega) (by omega)] at HL
        have HL := hide HL
        rename_i HL0
        clear HL0
        go_wp2_with fail
        refine (unhide HL).mono ?_
        rintro e w2 ⟨ao2, cap2, rfl, _, hx2⟩
        have HM3 := hide (keepM (unhide HM2) (hx2.alloc (.cells #[.int .i64 3, .int .i64 4096] 27)))
        have X3 := hide ((((unhide X1).trans (unhide X)).trans hx2).alloc (.cells #[.int .i64 3, .int .i64 4096] 27))
        have HB3 := hide (Blk.new w2 #[.int .i64 3, .int .i64 4096] 27)
        have HW3 : Hid ((w2.alloc (.cells #[.int .i64 3, .int .i64 4096] 27)).heap.size = w2.heap.size + 1) := World.size_alloc _ _
        have HW2 := hide (((unhide X1).trans (unhide X)).trans hx2).size
        clear hx2 HL HM2 HM1 X1 X
        go_wp2_with (first | (at_make; refine wpList_make_Zeros _ rfl _ _ 39 rfl (w2.heap.size + 1) 5 i0 .u8 Try.underlying39 hi hz0 hz1 _ _ _ _ (8191 + m4 k) rfl rfl rfl rfl ?b1 ?b2 ?b3 ?_))
        case b1 => rw [hz2]; omega
        case b2 => unfold maxLen; omega
        case b3 => exact Nat.le_of_eq (unhide HW3).symm
        intro w4 hO hg4
        rw [show List.replicate (8191 + m4 k) (0 : Int) = num8 (List.replicate (8191 + m4 k) 0) by simp [num8]] at hO
        have hconv2 := text_of _ _ _ (List.replicate (8191 + m4 k) 0) w4 (Own.row hO) (by simp)
        have hx4 : Ext (w2.alloc (.cells #[.int .i64 3, .int .i64 4096] 27)) w4 := grown_below hg4 (Nat.le_refl _) (fun g hg => by cases hg)
        have HM4 := hide (keepM (unhide HM3) hx4)
        have HL2 := lex_any ⟨(List.replicate (8191 + m4 k) 0).toArray⟩ w4 m (unhide HM4)
        rw [show (⟨(List.replicate (8191 + m4 k) (0 : UInt8)).toArray⟩ : ByteArray).data.toList = List.replicate (8191 + m4 k) 0 from rfl, hZ _ hk4] at HL2
        have HZ := hide HL2
        have HB4 := hide ((unhide HB3).ext hx4)
        have X4 := hide ((unhide X3).trans hx4)
        clear HL2 hZ hO hg4 hx4 HB3 X3 HM3
        go_wp2_with fail
        refine (unhide HZ).mono ?_
        rintro e w5 ⟨ao5, cap5, rfl, _, hx5⟩
        have X5 := hide ((unhide X4).trans hx5)
        have HB5 := hide ((unhide HB4).ext hx5)
        have g0 := (unhide HB5).cell (i := 0) (v := .int .i64 3) rfl
        have g1 := (unhide HB5).cell (i := 1) (v := .int .i64 4096) rfl
        have fz := fun i => (unhide HB5).free i
        clear hx5 HZ HB4 X4
        by_cases hk2 : 2 ≤ m4 k
        · rw [if_pos hk2]
          have d2 : decide (2 ≤ (m4 k : Int)) = true := by simp; omega
          have B7 := ((unhide HB5).set 0 (.int .i64 3)).set 1 (.int .i64 0)
          have r0 := B7.cell (i := 0) (v := .int .i64 3) rfl
          have r1 := B7.cell (i := 1) (v := .int .i64 0) rfl
          clear B7
          go_wp2
          go_ret
          exact ⟨rfl, extSet (extSet (unhide X5) (unhide HW2)) (unhide HW2)⟩
        · rw [if_neg hk2]
          have d2 : decide (2 ≤ (m4 k : Int)) = false := by simp; omega
          have B7 := ((unhide HB5).set 0 (.int .i64 200)).set 1 (.int .i64 0)
          have r0 := B7.cell (i := 0) (v := .int .i64 200) rfl
          have r1 := B7.cell (i := 1) (v := .int .i64 0) rfl
          clear B7
          go_wp2
          go_ret
          exact ⟨rfl, extSet (extSet (unhide X5) (unhide HW2)) (unhide HW2)⟩
      · obtain ⟨hq1, hq2⟩ := lex_few (2047 + m4 n) (by omega)
        generalize lexP (semis (2047 + m4 n)) = R at *
        obtain ⟨L, r1, r2⟩ := R
        cases hq1
        have hq2' : L.length = 2047 + m4 n := hq2
        have HL : Hid (Calls Try.prog 12 #[.string ⟨(semis (2047 + m4 n)).toArray⟩] wr fun e w' => ∃ ao cap, e = .returned (.tuple #[.slice ao (2047 + m4 n) cap, .agg #[.int .i64 0, .int .i64 0]]) ∧ Ext wr w') :=
          HL.mono fun e w' h => by
            obtain ⟨ao, cap, h1, _, h3⟩ := h
            exact ⟨ao, cap, by rw [h1]; simp only [hq2'], h3⟩
        rename_i HL0
        clear HL0 hq2 hq2'
        go_wp2_with fail
        refine (unhide HL).mono ?_
        rintro e w2 ⟨ao2, cap2, rfl, hx2⟩
        have HM3 := hide (keepM (unhide HM2) (hx2.alloc (.cells #[.int .i64 0, .int .i64 0] 27)))
        have X3 := hide ((((unhide X1).trans (unhide X)).trans hx2).alloc (.cells #[.int .i64 0, .int .i64 0] 27))
        have HB3 := hide (Blk.new w2 #[.int .i64 0, .int .i64 0] 27)
        have HW3 : Hid ((w2.alloc (.cells #[.int .i64 0, .int .i64 0] 27)).heap.size = w2.heap.size + 1) := World.size_alloc _ _
        have HW2 := hide (((unhide X1).trans (unhide X)).trans hx2).size
        clear hx2 HL HM2 HM1 X1 X
        go_wp2_with (first | (at_make; refine wpList_make_Zeros _ rfl _ _ 39 rfl (w2.heap.size + 1) 5 i0 .u8 Try.underlying39 hi hz0 hz1 _ _ _ _ (8191 + m4 k) rfl rfl rfl rfl ?b1 ?b2 ?b3 ?_))
        case b1 => rw [hz2]; omega
        case b2 => unfold maxLen; omega
        case b3 => exact Nat.le_of_eq (unhide HW3).symm
        intro w4 hO hg4
        rw [show List.replicate (8191 + m4 k) (0 : Int) = num8 (List.replicate (8191 + m4 k) 0) by simp [num8]] at hO
        have hconv2 := text_of _ _ _ (List.replicate (8191 + m4 k) 0) w4 (Own.row hO) (by simp)
        have hx4 : Ext (w2.alloc (.cells #[.int .i64 0, .int .i64 0] 27)) w4 := grown_below hg4 (Nat.le_refl _) (fun g hg => by cases hg)
        have HM4 := hide (keepM (unhide HM3) hx4)
        have HL2 := lex_any ⟨(List.replicate (8191 + m4 k) 0).toArray⟩ w4 m (unhide HM4)
        rw [show (⟨(List.replicate (8191 + m4 k) (0 : UInt8)).toArray⟩ : ByteArray).data.toList = List.replicate (8191 + m4 k) 0 from rfl, hZ _ hk4] at HL2
        have HZ := hide HL2
        have HB4 := hide ((unhide HB3).ext hx4)
        have X4 := hide ((unhide X3).trans hx4)
        clear HL2 hZ hO hg4 hx4 HB3 X3 HM3
        go_wp2_with fail
        refine (unhide HZ).mono ?_
        rintro e w5 ⟨ao5, cap5, rfl, _, hx5⟩
        have X5 := hide ((unhide X4).trans hx5)
        have HB5 := hide ((unhide HB4).ext hx5)
        have g0 := (unhide HB5).cell (i := 0) (v := .int .i64 0) rfl
        have g1 := (unhide HB5).cell (i := 1) (v := .int .i64 0) rfl
        have fz := fun i => (unhide HB5).free i
        clear hx5 HZ HB4 X4
        by_cases hk2 : 2 ≤ m4 k
        · rw [if_pos hk2]
          have d2 : decide (2 ≤ (m4 k : Int)) = true := by simp; omega
          have B7 := ((unhide HB5).set 0 (.int .i64 3)).set 1 (.int .i64 0)
          have r0 := B7.cell (i := 0) (v := .int .i64 3) rfl
          have r1 := B7.cell (i := 1) (v := .int .i64 0) rfl
          clear B7
          go_wp2
          go_ret
          exact ⟨rfl, extSet (extSet (unhide X5) (unhide HW2)) (unhide HW2)⟩
        · rw [if_neg hk2]
          have d2 : decide (2 ≤ (m4 k : Int)) = false := by simp; omega
          have B7 := ((unhide HB5).set 0 (.int .i64 200)).set 1 (.int .i64 0)
          have r0 := B7.cell (i := 0) (v := .int .i64 200) rfl
          have r1 := B7.cell (i := 1) (v := .int .i64 0) rfl
          clear B7
          go_wp2
          go_ret
          exact ⟨rfl, extSet (extSet (unhide X5) (unhide HW2)) (unhide HW2)⟩

theorem lexLong_owes (H : Type) (enc : TypeId × Value → H) (W : World) (base : Nat) (args : Array Value) (ds : List (DataW H)) (p : List MemPlace) : OwesH H enc Try.prog 6 Try.f6 Rows.lexLongSpec W base args ds p := by
  intro hval hA hsz hsh
  rw [Try.params6] at hA hval hsz
  obtain ⟨v0, vs0, d0, ds0, p0, q0, hargs, rfl, rfl, h0, r0⟩ := trodAll_cons hA
  obtain ⟨v1, vs1, d1, ds1, p1, q1, rfl, rfl, rfl, h1, r1⟩ := trodAll_cons r0
  obtain ⟨rfl, rfl, rfl⟩ := trodAll_nil r1
  obtain rfl : args = #[v0, v1] := by cases args; simp_all
  obtain ⟨n, rfl, rfl, rfl, wn⟩ := open_int Try.underlying3 (hval 0 3 v0 rfl rfl) h0
  obtain ⟨k, rfl, rfl, rfl, wk⟩ := open_int Try.underlying3 (hval 1 3 v1 rfl rfl) h1
  obtain ⟨m, hm⟩ := Try.laysM143.s1_3 W hsh
  exact ⟨⟨rfl, rfl, rfl⟩, lexLong_any n k W m hm⟩

set_option maxRecDepth 100000 in
theorem lexLong_lifted (os : Os) (started : os.Started) (H : Type) (enc : TypeId × Value → H) :
    ReturnsInHanded {} Try.checked os 6 .any (Rows.lexLongSpec.pre6 enc Try.prog Try.f6 [] false) (Rows.lexLongSpec.post enc Try.prog Try.f6 false true false false) :=
  lift_law_shaped (C := Try.checked) own laidOut started (by kernel_rfl) Try.func6 (T := 4) rfl Try.underlying4 rfl (by kernel_rfl)
    (ChangeSpec.witness6 (enc := enc) (C := Try.checked) false ⟨#[], #[.int .i64 0, .int .i64 0], []⟩ 8 (by kernel_rfl) (by kernel_rfl) (by kernel_rfl) (by kernel_rfl)) (lexLong_owes H enc)

theorem lexLong_holds : Rows.LexLongSaid :=
  OpenClaim.holds_of_wide 6 Try.f6 rfl rfl rfl rfl rfl rfl rfl ⟨rfl, rfl, rfl, rfl, rfl⟩ rfl rfl rfl rfl rfl (by kernel_rfl) Try.func6 (by kernel_rfl)
    (of_decide_eq_true (by kernel_rfl)) (by unfold Func.isWrapper; rw [if_neg (of_decide_eq_false (by kernel_rfl))]; exact ⟨rfl, rfl⟩)
    (fun os started H enc _ => lexLong_lifted os started H enc)
#print axioms lexLong_holds
end Go.Proofs.Ytgoldmohmjjngaa
