/-
  A token's number, and what is wrong with it.
-/
import Derived.Test.YtdcamcpffiilbaaDoorXD
namespace Go.Proofs.YtdcamcpffiilbaaDoor
open Go.RowKit
set_option linter.unusedSimpArgs false
set_option linter.unusedVariables false

theorem valF_bound (n : Int) (c : UInt8) (h : 0 ≤ n) : 0 ≤ valF n c ∧ valF n c ≤ 32768 := by
  unfold valF
  omega
theorem valP_bound (l : Byts8) : ∀ n : Int, 0 ≤ n → n ≤ 32768 → 0 ≤ l.foldl valF n ∧ l.foldl valF n ≤ 32768 := by
  induction l with
  | nil => intro n h0 h1; exact ⟨h0, h1⟩
  | cons c l ih =>
    intro n h0 h1
    have := valF_bound n c h0
    exact ih _ this.1 this.2
theorem take_succ_get (s : ByteArray) (k : Nat) (h : k < s.size) : s.data.toList.take (k + 1) = s.data.toList.take k ++ [s[k]] := by
  have h2 : k < s.data.toList.length := by simpa using h
  rw [List.take_succ_eq_append_getElem h2]
  rfl
set_option maxRecDepth 100000 in
theorem value_any (s : ByteArray) (w : World) (hs : s.size < 4294967281) :
    Calls Tryd.prog 64 #[.string s] w fun e w' => e = .returned (.int .i64 (valP s.data.toList)) ∧ w' = w := by
  go_enter Tryd.func64, Tryd.ntmps64
  go_wp2
  go_loop [3, 7] (fun nv iv => ∃ k : Nat, k ≤ s.size ∧ iv = .int .i64 k ∧ nv = .int .i64 ((s.data.toList.take k).foldl valF 0)) (fun _ iv => s.size - (intOf iv).toNat)
  case atStart => exact ⟨0, by omega, rfl, rfl⟩
  case round =>
    obtain ⟨k, hk, rfl, rfl⟩ := hrel
    have hb := valP_bound (s.data.toList.take k) 0 (by omega) (by omega)
    by_cases hlt : k < s.size
    · have hst : (s.data.toList.take (k + 1)).foldl valF 0 = valF ((s.data.toList.take k).foldl valF 0) s[k] := by
        rw [take_succ_get s k hlt, List.foldl_append]
        rfl
      have hc := s[k].toNat_lt
      generalize (s.data.toList.take k).foldl valF 0 = n at *
      go_wp2
      refine ⟨⟨k + 1, by omega, rfl, ?_⟩, ?_⟩
      · rw [hst]
        congr 1
      · simp [intOf]
        omega
    · have : k = s.size := by omega
      subst this
      have hv : (s.data.toList.take s.size).foldl valF 0 = valP s.data.toList := by
        unfold valP
        rw [List.take_of_length_le (by simp)]
      rw [hv]
      go_wp2
      go_ret
      exact ⟨rfl, rfl⟩

set_option maxHeartbeats 1000000 in
theorem measure_any (k : Int) (s : ByteArray) (w : World) (hs : s.size < 4294967281) :
    Calls Tryd.prog 42 #[.int .i64 k, .string s] w fun e w' => e = .returned (.tuple #[.int .i32 (measP k s.data.toList).1, .int .i64 (measP k s.data.toList).2]) ∧ Ext w w' := by
  have hl := list_size s
  have hv := valP_bound s.data.toList 0 (by omega) (by omega)
  unfold measP
  rw [hl]
  by_cases c1 : k = 1
  · subst c1
    rw [if_pos rfl]
    by_cases c2 : 32 < s.size
    · rw [if_pos c2]
      go_enter Tryd.func42, Tryd.ntmps42
      go_wp2
      exact bodyPost_ret (v := .tuple #[.int .i32 0, .int .i64 3]) (by simp [results, Tryd.results42, go_sem]) rfl ⟨rfl, Ext.refl _⟩
    · rw [if_neg c2]
      go_enter Tryd.func42, Tryd.ntmps42
      go_wp2
      exact bodyPost_ret (v := .tuple #[.int .i32 0, .int .i64 0]) (by simp [results, Tryd.results42, go_sem]) rfl ⟨rfl, Ext.refl _⟩
  rw [if_neg c1]
  have c1' : (k == 1) = false := beq_eq_false_iff_ne.2 c1
  by_cases c2 : k = 2
  · subst c2
    rw [if_pos rfl]
    change 0 ≤ valP s.data.toList ∧ valP s.data.toList ≤ 32768 at hv
    have HV := hide (fun W => value_any s W hs)
    generalize valP s.data.toList = n at *
    by_cases c3 : n ≤ 32767
    · rw [if_pos c3]
      go_enter Tryd.func42, Tryd.ntmps42
      go_wp2_with fail
      refine (unhide HV _).mono ?_
      rintro e w1 ⟨rfl, rfl⟩
      go_wp2_with fail
      refine (of_any n _).mono ?_
      rintro e w1 ⟨rfl, rfl⟩
      go_wp2
      exact bodyPost_ret (v := .tuple #[.int .i32 (rawI (65536 * n)), .int .i64 0]) (by simp [results, Tryd.results42, go_sem]) rfl ⟨rfl, Ext.refl _⟩
    · rw [if_neg c3]
      go_enter Tryd.func42, Tryd.ntmps42
      go_wp2_with fail
      refine (unhide HV _).mono ?_
      rintro e w1 ⟨rfl, rfl⟩
      go_wp2
      exact bodyPost_ret (v := .tuple #[.int .i32 0, .int .i64 120]) (by simp [results, Tryd.results42, go_sem]) rfl ⟨rfl, Ext.refl _⟩
  rw [if_neg c2]
  have c2' : (k == 2) = false := beq_eq_false_iff_ne.2 c2
  by_cases c3 : k = 3
  · subst c3
    rw [if_pos rfl]
    clear c1 c2 c1' c2'
    go_enter Tryd.func42, Tryd.ntmps42
    go_wp2_with fail
    refine (parse_any s _).mono ?_
    rintro e w1 ⟨rfl, hx⟩
    go_wp2
    exact bodyPost_ret (v := .tuple #[.int .i32 (parseI s.data.toList).1, .int .i64 (parseI s.data.toList).2]) (by simp [results, Tryd.results42, go_sem]) rfl ⟨rfl, hx⟩
  rw [if_neg c3]
  have c3' : (k == 3) = false := beq_eq_false_iff_ne.2 c3
  go_enter Tryd.func42, Tryd.ntmps42
  go_wp2
  exact bodyPost_ret (v := .tuple #[.int .i32 0, .int .i64 0]) (by simp [results, Tryd.results42, go_sem]) rfl ⟨rfl, Ext.refl _⟩

theorem beg48 (s : ByteArray) (h : 0 < s.size) : begN (fun c => decide (c.toNat = 48)) s.data.toList = ((s[0].toNat : Int) == 48) := by
  rw [begN_ba _ s h, Bool.eq_iff_iff]
  simp
  omega
set_option maxHeartbeats 1000000 in
theorem isSpoilt_any (k : Int) (t b : ByteArray) (w : World) :
    Calls Tryd.prog 41 #[.int .i64 k, .string t, .string b] w fun e w' => e = .returned (.bool (spoilt k t.data.toList b.data.toList)) ∧ w' = w := by
  have hl := list_size t
  unfold spoilt
  rw [hl]
  by_cases c2 : k = 2
  · subst c2
    rw [if_pos rfl]
    have HL := hide (fun W => begins_any b _ _ isLetter_any eLetter W)
    generalize begN isLt b.data.toList = x at *
    cases x with
    | true =>
      go_enter Tryd.func41, Tryd.ntmps41
      go_wp2_with fail
      refine (unhide HL _).mono ?_
      rintro e w1 ⟨rfl, rfl⟩
      go_wp2
      go_ret
      exact ⟨rfl, rfl⟩
    | false =>
      by_cases c3 : 1 < t.size
      · rw [beg48 t (by omega)]
        go_enter Tryd.func41, Tryd.ntmps41
        go_wp2_with fail
        refine (unhide HL _).mono ?_
        rintro e w1 ⟨rfl, rfl⟩
        go_wp2
        go_ret
        exact ⟨by simp [c3], rfl⟩
      · go_enter Tryd.func41, Tryd.ntmps41
        go_wp2_with fail
        refine (unhide HL _).mono ?_
        rintro e w1 ⟨rfl, rfl⟩
        go_wp2
        go_ret
        exact ⟨by simp [c3], rfl⟩
  rw [if_neg c2]
  have c2' : (k == 2) = false := beq_eq_false_iff_ne.2 c2
  by_cases c3 : k = 3
  · subst c3
    rw [if_pos rfl]
    clear c2 c2'
    have HL := hide (fun W => begins_any b _ _ isLetter_any eLetter W)
    have HP := hide (fun W => begins_any b _ _ isPoint_any ePoint W)
    generalize begN isLt b.data.toList = x at *
    generalize begN isPt b.data.toList = y at *
    cases x with
    | true =>
      go_enter Tryd.func41, Tryd.ntmps41
      go_wp2_with fail
      refine (unhide HL _).mono ?_
      rintro e w1 ⟨rfl, rfl⟩
      go_wp2
      go_ret
      exact ⟨rfl, rfl⟩
    | false =>
      go_enter Tryd.func41, Tryd.ntmps41
      go_wp2_with fail
      refine (unhide HL _).mono ?_
      rintro e w1 ⟨rfl, rfl⟩
      go_wp2_with fail
      refine (unhide HP _).mono ?_
      rintro e w1 ⟨rfl, rfl⟩
      go_wp2
      go_ret
      exact ⟨rfl, rfl⟩
  rw [if_neg c3]
  have c3' : (k == 3) = false := beq_eq_false_iff_ne.2 c3
  go_enter Tryd.func41, Tryd.ntmps41
  go_wp2
  go_ret
  exact ⟨rfl, rfl⟩

theorem extSet {w w1 : World} {b i : Nat} {v : Value} (h : Ext w w1) (hb : w.heap.size ≤ b) : Ext w (w1.setCell ⟨b, i, none⟩ v) :=
  below_grown h (grownBy_set w1 b i v) h.size hb
/-- What tell answers. -/
def Told (k : Int) (t : ByteArray) (p : Int × Int) (w : World) (e : Ending) (w' : World) : Prop := ∃ (k' : Int) (t' : ByteArray) (n' : Int),
  e = .returned (.tuple #[.agg #[.int .i64 k', .string t', .int .i32 n', .int .i64 0, .int .i64 0], .int .i64 p.2]) ∧ (p.2 = 0 → k' = k ∧ t' = t ∧ n' = p.1) ∧ Ext w w'
theorem Told.bad {k : Int} {t : ByteArray} {p : Int × Int} {w w' : World} (h : p.2 ≠ 0) (hx : Ext w w') : Told k t p w (.returned (.tuple #[.agg #[.int .i64 0, .string ⟨#[]⟩, .int .i32 0, .int .i64 0, .int .i64 0], .int .i64 p.2])) w' := ⟨0, ⟨#[]⟩, 0, rfl, fun e => absurd e h, hx⟩
theorem Told.good {k : Int} {t : ByteArray} {p : Int × Int} {w w' : World} (hx : Ext w w') : Told k t p w (.returned (.tuple #[.agg #[.int .i64 k, .string t, .int .i32 p.1, .int .i64 0, .int .i64 0], .int .i64 p.2])) w' := ⟨k, t, p.1, rfl, fun _ => ⟨rfl, rfl, rfl⟩, hx⟩
set_option maxHeartbeats 1000000 in
theorem tell_any (k : Int) (t b : ByteArray) (n : Nat) (w : World) (hs : t.size < 4294967281) :
    Calls Tryd.prog 17 #[.int .i64 k, .string t, .string b, .int .i64 n] w (Told k t (tellP k t.data.toList b.data.toList n) w) := by
  have HS := hide (fun W => isSpoilt_any k t b W)
  have HM := hide (fun W => measure_any k t W hs)
  unfold tellP
  generalize spoilt k t.data.toList b.data.toList = sp at *
  generalize measP k t.data.toList = mm at *
  by_cases c1 : k = -2
  · subst c1
    rw [if_pos (by simp)]
    go_enter Tryd.func17, Tryd.ntmps17
    go_wp2
    exact bodyPost_ret (v := .tuple #[.agg #[.int .i64 0, .string ⟨#[]⟩, .int .i32 0, .int .i64 0, .int .i64 0], .int .i64 200]) (by simp [results, Tryd.results17, go_sem]) rfl (Told.bad (p := (0, 200)) (by decide) ((Ext.refl _).alloc _))
  have c1' : (k == -2) = false := beq_eq_false_iff_ne.2 c1
  rw [show decide (k = -2) = false by simpa using c1, Bool.false_or]
  clear c1
  cases sp with
  | true =>
    rw [if_pos rfl]
    go_enter Tryd.func17, Tryd.ntmps17
    go_wp2_with fail
    refine (unhide HS _).mono ?_
    rintro e w1 ⟨rfl, rfl⟩
    go_wp2
    exact bodyPost_ret (v := .tuple #[.agg #[.int .i64 0, .string ⟨#[]⟩, .int .i32 0, .int .i64 0, .int .i64 0], .int .i64 200]) (by simp [results, Tryd.results17, go_sem]) rfl (Told.bad (p := (0, 200)) (by decide) ((Ext.refl _).alloc _))
  | false =>
    rw [if_neg (by decide)]
    by_cases c2 : n = 2048
    · rw [if_pos c2]
      have c2' : ((n : Int) == 2048) = true := by rw [c2]; rfl
      clear c2
      go_enter Tryd.func17, Tryd.ntmps17
      go_wp2_with fail
      refine (unhide HS _).mono ?_
      rintro e w1 ⟨rfl, rfl⟩
      go_wp2
      exact bodyPost_ret (v := .tuple #[.agg #[.int .i64 0, .string ⟨#[]⟩, .int .i32 0, .int .i64 0, .int .i64 0], .int .i64 3]) (by simp [results, Tryd.results17, go_sem]) rfl (Told.bad (p := (0, 3)) (by decide) ((Ext.refl _).alloc _))
    · rw [if_neg c2]
      have c2' : ((n : Int) == 2048) = false := beq_eq_false_iff_ne.2 (by omega)
      clear c2
      go_enter Tryd.func17, Tryd.ntmps17
      go_wp2_with fail
      refine (unhide HS _).mono ?_
      rintro e w1 ⟨rfl, rfl⟩
      go_wp2_with fail
      refine (unhide HM _).mono ?_
      rintro e w2 ⟨rfl, hx⟩
      have B2 := (Blk.new w #[.int .i64 0, .string ⟨#[]⟩, .int .i32 0, .int .i64 0, .int .i64 0] 33).ext hx
      have g0 := B2.cell (i := 0) rfl
      have g1 := B2.cell (i := 1) rfl
      have g2 := B2.cell (i := 2) rfl
      have g3 := B2.cell (i := 3) rfl
      have g4 := B2.cell (i := 4) rfl
      have fz := fun i => B2.free i
      have X := hide hx
      have B := hide B2
      clear hx B2
      go_wp2
      have B5 := hide ((((((unhide B).set 0 (.int .i64 k)).set 1 (.string t)).set 2 (.int .i32 mm.1)).set 3 (.int .i64 0)).set 4 (.int .i64 0))
      have k0 := (unhide B5).cell (i := 0) (v := .int .i64 k) rfl
      have k1 := (unhide B5).cell (i := 1) (v := .string t) rfl
      have k2 := (unhide B5).cell (i := 2) (v := .int .i32 mm.1) rfl
      have k3 := (unhide B5).cell (i := 3) (v := .int .i64 0) rfl
      have k4 := (unhide B5).cell (i := 4) (v := .int .i64 0) rfl
      refine bodyPost_ret (v := .tuple #[.agg #[.int .i64 k, .string t, .int .i32 mm.1, .int .i64 0, .int .i64 0], .int .i64 mm.2]) (by simp [results, Tryd.results17, go_sem, k0, k1, k2, k3, k4]) rfl (Told.good ?_)
      exact extSet (extSet (extSet (extSet (extSet (((Ext.refl w).alloc _).trans (unhide X)) (Nat.le_refl _)) (Nat.le_refl _)) (Nat.le_refl _)) (Nat.le_refl _)) (Nat.le_refl _)
end Go.Proofs.YtdcamcpffiilbaaDoor
