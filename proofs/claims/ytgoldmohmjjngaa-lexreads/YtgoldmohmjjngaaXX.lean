/-
  The document's bytes: blank, digit, letter, at; behind blanks and comments: Skip.
-/
import Derived.Test.YtgoldmohmjjngaaXB
import Derived.Test.YtgoldmohmjjngaaXR
namespace Go.Proofs.Ytgoldmohmjjngaa
open Go.RowKit
set_option linter.unusedSimpArgs false
set_option linter.unusedVariables false

theorem refBlank_any : Tells 34 isBl := by
  intro c w
  go_enter Try.func34, Try.ntmps34
  go_wp2
  all_goals
    go_ret
    refine ⟨congrArg (fun b => Ending.returned (Value.bool b)) ?_, rfl⟩
    rw [Bool.eq_iff_iff]
    simp [isBl]
    try omega
theorem refDigit_any : Tells 37 isDg := by
  intro c w
  go_enter Try.func37, Try.ntmps37
  go_wp2
  all_goals
    go_ret
    refine ⟨congrArg (fun b => Ending.returned (Value.bool b)) ?_, rfl⟩
    rw [Bool.eq_iff_iff]
    simp [isDg]
    try omega
theorem refLetter_any : Tells 36 isLt := by
  intro c w
  go_enter Try.func36, Try.ntmps36
  go_wp2
  all_goals
    go_ret
    refine ⟨congrArg (fun b => Ending.returned (Value.bool b)) ?_, rfl⟩
    rw [Bool.eq_iff_iff]
    simp [isLt]
    try omega
/-- The byte at a place; 0: there is none. -/
def atP (l : Byts8) (i : Nat) : UInt8 := l.getD i 0
theorem refAt_any (s : ByteArray) (i : Nat) (w : World) : Calls Try.prog 35 #[.string s, .int .i64 (i : Int)] w fun e w' => e = .returned (.int .u8 ((atP s.data.toList i).toNat : Int)) ∧ w' = w := by
  by_cases h : i < s.size
  · have e : atP s.data.toList i = s[i] := by
      unfold atP
      have h2 : i < s.data.toList.length := by simpa using h
      rw [List.getD_eq_getElem?_getD, List.getElem?_eq_getElem h2]
      rfl
    rw [e]
    go_enter Try.func35, Try.ntmps35
    go_wp2
    go_ret
    exact ⟨rfl, rfl⟩
  · have e : atP s.data.toList i = 0 := by
      unfold atP
      rw [List.getD_eq_getElem?_getD, List.getElem?_eq_none (by simp; omega)]
      rfl
    rw [e]
    go_enter Try.func35, Try.ntmps35
    go_wp2
    go_ret
    exact ⟨rfl, rfl⟩
/-- Where Skip comes to from a place on, and whether no comment is without an end. -/
def skipE (l : Byts8) (i : Nat) : Nat × Bool := if (pieceP (l.drop (i + skipN (l.drop i)))).1 = -2 ∧ pre2 47 42 (l.drop (i + skipN (l.drop i))) = true then (i + skipN (l.drop i), false) else (i + skipN (l.drop i), true)

theorem pre2_drop (l : Byts8) (i : Nat) (u v : UInt8) (hi : i < l.length) (hv : v ≠ 0) : pre2 u v (l.drop i) = ((atP l i == u) && (atP l (i + 1) == v)) := by
  have e0 : atP l i = l[i] := by unfold atP; simp [hi]
  rw [List.drop_eq_getElem_cons hi, e0]
  by_cases h1 : i + 1 < l.length
  · have e1 : atP l (i + 1) = l[i + 1] := by unfold atP; simp [h1]
    rw [List.drop_eq_getElem_cons h1, pre2_cons, e1, Bool.eq_iff_iff]
    simp only [Bool.and_eq_true, beq_iff_eq]
    constructor <;> rintro ⟨h1, h2⟩ <;> exact ⟨h1.symm, h2.symm⟩
  · have e1 : atP l (i + 1) = 0 := by unfold atP; rw [List.getD_eq_getElem?_getD, List.getElem?_eq_none (by omega)]; rfl
    rw [List.drop_of_length_le (by omega), pre2_one, e1]
    rw [show ((0 : UInt8) == v) = false by simpa using fun e => hv e.symm]
    simp

theorem skip_blank1 {l : Byts8} (h : begN isBl l = true) : skipN l = 1 + skipN (l.drop 1) := by
  have hne : l ≠ [] := by intro e; subst e; simp [begN] at h
  have hp : pieceP l = (-1, runN isBl l) := by unfold pieceP; rw [if_pos h]
  rw [skip_gap hne hp]
  have hpos := runN_pos h
  have hst := runN_step (p := isBl) (l := l) (n := 1) hpos
  by_cases h1 : runN isBl l = 1
  · rw [h1]
  · have hb : begN isBl (l.drop 1) = true := by
      by_cases hb : begN isBl (l.drop 1) = true
      · exact hb
      · have : runN isBl (l.drop 1) = 0 := by
          cases hd : l.drop 1 with
          | nil => rfl
          | cons c r =>
            rw [hd] at hb
            rw [runN_cons, if_neg (by simpa [begN] using hb)]
        omega
    have hne2 : l.drop 1 ≠ [] := by intro e; rw [e] at hb; simp [begN] at hb
    have hp2 : pieceP (l.drop 1) = (-1, runN isBl (l.drop 1)) := by unfold pieceP; rw [if_pos hb]
    rw [skip_gap hne2 hp2, List.drop_drop]
    have e1 : runN isBl l = 1 + runN isBl (l.drop 1) := by omega
    rw [e1, Nat.add_assoc]
theorem index_step (l : Byts8) (k : Nat) (hk : k < l.length) (h : pre2 42 47 (l.drop k) = false) : Lib.index (l.drop k) [42, 47] = if Lib.index (l.drop (k + 1)) [42, 47] = -1 then -1 else Lib.index (l.drop (k + 1)) [42, 47] + 1 := by
  rw [List.drop_eq_getElem_cons hk] at h ⊢
  rw [Lib.index]
  have h' : ¬ ([42, 47] : Byts8).isPrefixOf (l[k] :: l.drop (k + 1)) = true := by
    unfold pre2 Lib.hasPrefix at h
    rw [h]
    simp
  rw [if_neg h']
  simp only [beq_iff_eq]
theorem index_hit (l : Byts8) (k : Nat) (hk : k < l.length) (h : pre2 42 47 (l.drop k) = true) : Lib.index (l.drop k) [42, 47] = 0 := by
  rw [List.drop_eq_getElem_cons hk] at h ⊢
  rw [Lib.index]
  unfold pre2 Lib.hasPrefix at h
  rw [if_pos h]
theorem index_short (l : Byts8) (h : l.length ≤ 1) : Lib.index l [42, 47] = -1 := by
  rcases l with _ | ⟨a, _ | ⟨b, r⟩⟩
  · rfl
  · simp [Lib.index, List.isPrefixOf]
  · simp at h

theorem u8beq (c d : UInt8) : ((c.toNat : Int) == (d.toNat : Int)) = (c == d) := by
  rw [Bool.eq_iff_iff]
  simp only [beq_iff_eq]
  constructor
  · intro h
    exact UInt8.toNat_inj.1 (by exact_mod_cast h)
  · intro h
    rw [h]
/-- Where Skip comes to, step by step. -/
def skipTo (l : Byts8) (i : Nat) : Nat := i + skipN (l.drop i)
theorem skipTo_gap {l : Byts8} {i z : Nat} (hi : i < l.length) (hp : pieceP (l.drop i) = (-1, z)) : skipTo l i = skipTo l (i + z) := by
  have hne : l.drop i ≠ [] := by
    intro e
    have := congrArg List.length e
    rw [List.length_drop, List.length_nil] at this
    omega
  unfold skipTo
  rw [skip_gap hne hp, List.drop_drop, Nat.add_assoc]
theorem skipTo_blank {l : Byts8} {i : Nat} (h : begN isBl (l.drop i) = true) : skipTo l i = skipTo l (i + 1) := by
  unfold skipTo
  rw [skip_blank1 h, List.drop_drop, Nat.add_assoc]
theorem begN_at (p : UInt8 → Bool) (s : ByteArray) (i : Nat) (h : i < s.size) : begN p (s.data.toList.drop i) = p s[i] := by
  rw [drop_get s i h]
  rfl
theorem atP_get (s : ByteArray) (i : Nat) (h : i < s.size) : atP s.data.toList i = s[i] := by
  unfold atP
  have h2 : i < s.data.toList.length := by simpa using h
  rw [List.getD_eq_getElem?_getD, List.getElem?_eq_getElem h2]
  rfl

set_option maxHeartbeats 4000000 in
set_option maxRecDepth 100000 in
theorem refSkip_any (s : ByteArray) (i0 : Nat) (w : World) (hi0 : i0 ≤ s.size) (hs : s.size ≤ 8192) :
    Calls Try.prog 21 #[.string s, .int .i64 (i0 : Int)] w fun e w' => e = .returned (.tuple #[.int .i64 ((skipTo s.data.toList i0 : Nat) : Int), .bool (!(decide ((pieceP (s.data.toList.drop (skipTo s.data.toList i0))).1 = -2) && pre2 47 42 (s.data.toList.drop (skipTo s.data.toList i0))))]) ∧ w' = w := by
  obtain ⟨E, hE⟩ : ∃ E, skipTo s.data.toList i0 = E := ⟨_, rfl⟩
  rw [hE]
  have HE := hide hE
  clear hE
  have hl := list_size s
  obtain ⟨ok, hok⟩ : ∃ ok, (!(decide ((pieceP (s.data.toList.drop E)).1 = -2) && pre2 47 42 (s.data.toList.drop E))) = ok := ⟨_, rfl⟩
  rw [hok]
  have HOK := hide hok
  clear hok
  go_enter Try.func21, Try.ntmps21
  go_wp2
  go_loop [1] (fun iv => ∃ i : Nat, i ≤ s.size ∧ iv = .int .i64 i ∧ skipTo s.data.toList i = E) (fun iv => s.size - (intOf iv).toNat)
  case atStart => exact ⟨i0, hi0, rfl, unhide HE⟩
  case round =>
    obtain ⟨i, hi, rfl, hiE⟩ := hrel
    have HIE := hide hiE
    clear hiE HE
    by_cases hlt : i < s.size
    · have hil : i < s.data.toList.length := by omega
      have HBL := hide (refBlank_any s[i])
      by_cases cb : isBl s[i] = true
      · rw [cb] at HBL
        have HNX : Hid (skipTo s.data.toList (i + 1) = E) := by
          show skipTo s.data.toList (i + 1) = E
          rw [← unhide HIE]
          exact (skipTo_blank (by rw [begN_at isBl s i hlt]; exact cb)).symm
        clear cb
        go_wp2_with (go_at_call 34; refine (unhide HBL _).mono ?_; rintro e w1 ⟨rfl, rfl⟩)
        refine ⟨⟨i + 1, by omega, rfl, unhide HNX⟩, ?_⟩
        simp [intOf]
        omega
      · have cb' : isBl s[i] = false := by simpa using cb
        rw [cb'] at HBL
        have HBF : Hid (begN isBl (s.data.toList.drop i) = false) := by
          show begN isBl (s.data.toList.drop i) = false
          rw [begN_at isBl s i hlt]
          exact cb'
        clear cb cb'
        have HAT := hide (refAt_any s (i + 1))
        have HP1 := hide (pre2_drop s.data.toList i 47 47 hil (by decide))
        have HP2 := hide (pre2_drop s.data.toList i 47 42 hil (by decide))
        rw [atP_get s i hlt] at HP1 HP2
        have u1 := u8beq s[i] 47
        have u2 := u8beq (atP s.data.toList (i + 1)) 47
        have u3 := u8beq (atP s.data.toList (i + 1)) 42
        have U1 := hide u1; have U2 := hide u2; have U3 := hide u3
        clear u1 u2 u3
        by_cases c0 : s[i] = 47
        · have t0 : ((s[i].toNat : Int) == 47) = true := by
            have := unhide U1
            rw [c0] at this ⊢
            rfl
          have b0 : (s[i] == (47 : UInt8)) = true := by rw [c0]; rfl
          rw [b0, Bool.true_and] at HP1 HP2
          have T0 := hide t0
          clear c0 b0 t0
          generalize atP s.data.toList (i + 1) = c at *
          by_cases c1 : c = 47
          · have t1 : ((c.toNat : Int) == 47) = true := by rw [c1]; rfl
            have p1 : pre2 47 47 (s.data.toList.drop i) = true := by rw [unhide HP1, c1]; rfl
            have hpc : pieceP (s.data.toList.drop i) = (-1, runN isLn (s.data.toList.drop i)) := by
              unfold pieceP
              rw [if_neg (by rw [unhide HBF]; simp), if_pos p1]
            have HNX : Hid (skipTo s.data.toList (i + runN isLn (s.data.toList.drop i)) = E) := by
              show skipTo s.data.toList (i + runN isLn (s.data.toList.drop i)) = E
              rw [← unhide HIE]
              exact (skipTo_gap hil hpc).symm
            have hrl := runN_le isLn (s.data.toList.drop i)
            rw [List.length_drop, hl] at hrl
            have hr1 : 1 ≤ runN isLn (s.data.toList.drop i) := by
              have := (piece_room (s.data.toList.drop i) (by intro e; have := congrArg List.length e; rw [List.length_drop, List.length_nil] at this; omega)).1
              rw [hpc] at this
              exact this
            have t0 := unhide T0
            clear p1 hpc HP1 HP2 HBF HIE U1 U2 U3 c1
            go_wp2_with (first | (go_at_call 34; refine (unhide HBL _).mono ?_; rintro e w1 ⟨rfl, rfl⟩) | (go_at_call 35; refine (unhide HAT _).mono ?_; rintro e w1 ⟨rfl, rfl⟩))
            go_loop [1] (fun iv => ∃ j : Nat, j ≤ runN isLn (s.data.toList.drop i) ∧ iv = .int .i64 ((i + j : Nat) : Int)) (fun iv => s.size - (intOf iv).toNat)
            case atStart => exact ⟨0, by omega, rfl⟩
            case round =>
              obtain ⟨j, hj, rfl⟩ := hrel
              have hst := runN_step hj
              rw [List.drop_drop] at hst
              by_cases hjs : i + j < s.size
              · rw [drop_get s (i + j) hjs, runN_cons] at hst
                by_cases h10 : isLn s[i + j] = true
                · rw [if_pos h10] at hst
                  have d10 : ((s[i + j].toNat : Int) == 10) = false := by
                    rw [beq_eq_false_iff_ne]
                    simp [isLn] at h10
                    omega
                  clear h10
                  go_wp2
                  refine ⟨⟨j + 1, by omega, rfl⟩, ?_⟩
                  simp [intOf]
                  omega
                · rw [if_neg h10] at hst
                  have d10 : ((s[i + j].toNat : Int) == 10) = true := by
                    simp [isLn] at h10
                    rw [h10]
                    rfl
                  have HJR : Hid (j = runN isLn (s.data.toList.drop i)) := by show j = _; omega
                  clear h10 hst hj
                  go_wp2
                  refine ⟨⟨i + j, by omega, rfl, by rw [unhide HJR]; exact unhide HNX⟩, ?_⟩
                  have hj1 := unhide HJR
                  simp [intOf]
                  omega
              · have HJR : Hid (j = runN isLn (s.data.toList.drop i)) := by show j = _; omega
                have hje : i + j = s.size := by omega
                clear hj hst hjs
                go_wp2
                refine ⟨⟨i + j, by omega, rfl, by rw [unhide HJR]; exact unhide HNX⟩, ?_⟩
                have hj1 := unhide HJR
                simp [intOf]
                omega
          · have t1 : ((c.toNat : Int) == 47) = false := by
              have := unhide U2
              rw [show (47 : Int) = ((47 : UInt8).toNat : Int) from rfl, this]
              simpa using c1
            have p1 : pre2 47 47 (s.data.toList.drop i) = false := by rw [unhide HP1]; simpa using c1
            by_cases c2 : c = 42
            · have t2 : ((c.toNat : Int) == 42) = true := by rw [c2]; rfl
              have p2 : pre2 47 42 (s.data.toList.drop i) = true := by rw [unhide HP2, c2]; rfl
              have hpc : pieceP (s.data.toList.drop i) = comP (s.data.toList.drop i) := by
                unfold pieceP
                rw [if_neg (by rw [unhide HBF]; simp), if_neg (by rw [p1]; simp), if_pos p2]
              have h2l := pre2_len p2
              rw [List.length_drop, hl] at h2l
              have e2 : (s.data.toList.drop i).drop 2 = s.data.toList.drop (i + 2) := List.drop_drop
              obtain ⟨X, hX⟩ : ∃ X, Lib.index (s.data.toList.drop (i + 2)) [42, 47] = X := ⟨_, rfl⟩
              have HX := hide hX
              have hbad : X = -1 → skipTo s.data.toList i = i ∧ ok = false := fun h => by
                have hpp : pieceP (s.data.toList.drop i) = (-2, s.size - i) := by
                  rw [hpc]
                  unfold comP
                  rw [e2, hX, h, if_pos (by decide), List.length_drop, hl]
                have hne : s.data.toList.drop i ≠ [] := by
                  intro e
                  have := congrArg List.length e
                  rw [List.length_drop, List.length_nil] at this
                  omega
                have hsk : skipTo s.data.toList i = i := by
                  unfold skipTo
                  rw [skip_tok hne hpp (by decide)]
                  rfl
                refine ⟨hsk, ?_⟩
                rw [← unhide HOK, ← unhide HIE, hsk, hpp, p2]
                rfl
              have hgood : ¬ X = -1 → 0 ≤ X ∧ skipTo s.data.toList i = skipTo s.data.toList (i + (X.toNat + 4)) := fun h => by
                have hg := Lib.index_ge (s.data.toList.drop (i + 2)) [42, 47]
                rw [hX] at hg
                refine ⟨by omega, ?_⟩
                refine skipTo_gap hil ?_
                rw [hpc]
                unfold comP
                rw [e2, hX, if_neg (by omega)]
              have HBD := hide hbad
              have HGD := hide hgood
              have t0 := unhide T0
              clear hbad hgood p1 p2 hpc e2 hX HP1 HP2 HBF U1 U2 U3 c1 c2
              go_wp2_with (first | (go_at_call 34; refine (unhide HBL _).mono ?_; rintro e w1 ⟨rfl, rfl⟩) | (go_at_call 35; refine (unhide HAT _).mono ?_; rintro e w1 ⟨rfl, rfl⟩))
              go_loop [6] (fun kv => ∃ k : Nat, i + 2 ≤ k ∧ k ≤ s.size ∧ kv = .int .i64 k ∧ (X = -1 ↔ Lib.index (s.data.toList.drop k) [42, 47] = -1) ∧ (X ≠ -1 → X = ((k - (i + 2) : Nat) : Int) + Lib.index (s.data.toList.drop k) [42, 47])) (fun kv => s.size - (intOf kv).toNat)
              case atStart =>
                refine ⟨i + 2, by omega, by omega, by push_cast; rfl, by rw [unhide HX], fun _ => ?_⟩
                rw [unhide HX]
                omega
              case round =>
                obtain ⟨k, hk1, hk2, rfl, hk3, hk4⟩ := hrel
                by_cases hks : k + 1 < s.size
                · have hkl : k < s.data.toList.length := by omega
                  have hpk := pre2_drop s.data.toList k 42 47 hkl (by decide)
                  rw [atP_get s k (by omega), atP_get s (k + 1) hks] at hpk
                  have v1 := u8beq s[k] 42
                  have v2 := u8beq s[k + 1] 47
                  have v1' : ((s[k].toNat : Int) == 42) = (s[k] == 42) := v1
                  have v2' : ((s[k + 1].toNat : Int) == 47) = (s[k + 1] == 47) := v2
                  clear v1 v2
                  by_cases hit : pre2 42 47 (s.data.toList.drop k) = true
                  · have hi0 := index_hit s.data.toList k hkl hit
                    rw [hit] at hpk
                    have hpk2 := ((Bool.and_eq_true _ _).mp hpk.symm)
                    rw [hpk2.1] at v1'
                    rw [hpk2.2] at v2'
                    rw [hi0] at hk3 hk4
                    have hX1 : X ≠ -1 := fun h => by have := hk3.1 h; omega
                    have hX2 := hk4 hX1
                    obtain ⟨hX0, hgo⟩ := unhide HGD hX1
                    have HGO : Hid (skipTo s.data.toList (k + 2) = E) := by
                      show skipTo s.data.toList (k + 2) = E
                      rw [← unhide HIE, hgo]
                      congr 1
                      omega
                    have dk : decide ((s.size : Int) ≤ (k : Int) + 1) = false := by simp; omega
                    clear hk3 hk4 hX1 hX2 hX0 hgo hit hi0 hpk hpk2
                    go_wp2
                    refine ⟨⟨k + 2, by omega, rfl, unhide HGO⟩, ?_⟩
                    simp [intOf]
                    omega
                  · have hit' : pre2 42 47 (s.data.toList.drop k) = false := by simpa using hit
                    have hst := index_step s.data.toList k hkl hit'
                    rw [hit'] at hpk
                    have HREL : Hid ((X = -1 ↔ Lib.index (s.data.toList.drop (k + 1)) [42, 47] = -1) ∧ (X ≠ -1 → X = ((k + 1 - (i + 2) : Nat) : Int) + Lib.index (s.data.toList.drop (k + 1)) [42, 47])) := by
                      show _ ∧ _
                      rw [hst] at hk3 hk4
                      have hgx := Lib.index_ge (s.data.toList.drop (k + 1)) [42, 47]
                      by_cases hj : Lib.index (s.data.toList.drop (k + 1)) [42, 47] = -1
                      · rw [if_pos hj] at hk3 hk4
                        refine ⟨⟨fun _ => hj, fun _ => hk3.2 rfl⟩, fun hx => absurd (hk3.2 rfl) hx⟩
                      · rw [if_neg hj] at hk3 hk4
                        refine ⟨⟨fun hx => ?_, fun hx => absurd hx hj⟩, fun hx => ?_⟩
                        · have := hk3.1 hx
                          omega
                        · have := hk4 hx
                          omega
                    clear hk3 hk4 hst hit hit'
                    by_cases h42 : (s[k] == (42 : UInt8)) = true
                    · rw [h42] at v1' hpk
                      rw [Bool.true_and] at hpk
                      rw [← hpk] at v2'
                      clear hpk h42
                      go_wp2
                      refine ⟨⟨k + 1, by omega, by omega, rfl, (unhide HREL).1, (unhide HREL).2⟩, ?_⟩
                      simp [intOf]
                      omega
                    · rw [show (s[k] == (42 : UInt8)) = false by simpa using h42] at v1'
                      clear hpk h42 v2'
                      go_wp2
                      refine ⟨⟨k + 1, by omega, by omega, rfl, (unhide HREL).1, (unhide HREL).2⟩, ?_⟩
                      simp [intOf]
                      omega
                · have hix : Lib.index (s.data.toList.drop k) [42, 47] = -1 := index_short _ (by rw [List.length_drop]; omega)
                  obtain ⟨hsk, hokf⟩ := unhide HBD (hk3.2 hix)
                  have HEI : Hid (E = i) := by
                    show E = i
                    rw [← unhide HIE, hsk]
                  subst hokf
                  have dk : decide ((s.size : Int) ≤ (k : Int) + 1) = true := by simp; omega
                  have dl : decide ((k : Int) + 1 < (s.size : Int)) = false := by simp; omega
                  clear hk3 hk4 hix hsk HIE HOK
                  go_wp2
                  exact bodyPost_ret (v := .tuple #[.int .i64 (i : Int), .bool false]) (by simp [results, Try.results21, go_sem]) rfl ⟨by rw [unhide HEI], rfl⟩
            · have t2 : ((c.toNat : Int) == 42) = false := by
                have := unhide U3
                rw [show (42 : Int) = ((42 : UInt8).toNat : Int) from rfl, this]
                simpa using c2
              have p2 : pre2 47 42 (s.data.toList.drop i) = false := by rw [unhide HP2]; simpa using c2
              have t0 := unhide T0
              have hne : s.data.toList.drop i ≠ [] := by
                intro e
                have := congrArg List.length e
                rw [List.length_drop, List.length_nil] at this
                omega
              have hng : (pieceP (s.data.toList.drop i)).1 ≠ -1 := fun hcon => by
                obtain ⟨kk, zz, hpp⟩ : ∃ kk zz, pieceP (s.data.toList.drop i) = (kk, zz) := ⟨_, _, rfl⟩
                rw [hpp] at hcon
                simp only at hcon
                subst hcon
                rcases gap_cases hpp with ⟨g1, _⟩ | ⟨_, g1, _⟩ | ⟨_, _, g1, _⟩
                · rw [unhide HBF] at g1; cases g1
                · rw [p1] at g1; cases g1
                · rw [p2] at g1; cases g1
              have hsk : skipTo s.data.toList i = i := by
                obtain ⟨kk, zz, hpp⟩ : ∃ kk zz, pieceP (s.data.toList.drop i) = (kk, zz) := ⟨_, _, rfl⟩
                rw [hpp] at hng
                unfold skipTo
                rw [skip_tok hne hpp hng]
                rfl
              have HEI : Hid (E = i) := by
                show E = i
                rw [← unhide HIE, hsk]
              have hok1 : ok = true := by
                rw [← unhide HOK, unhide HEI, p2, Bool.and_false]
                rfl
              subst hok1
              clear hsk hng hne p1 p2 HP1 HP2 HBF U1 U2 U3 HIE HOK
              go_wp2_with (first | (go_at_call 34; refine (unhide HBL _).mono ?_; rintro e w1 ⟨rfl, rfl⟩) | (go_at_call 35; refine (unhide HAT _).mono ?_; rintro e w1 ⟨rfl, rfl⟩))
              exact bodyPost_ret (v := .tuple #[.int .i64 (i : Int), .bool true]) (by simp [results, Try.results21, go_sem]) rfl ⟨by rw [unhide HEI], rfl⟩
        · have b0 : (s[i] == (47 : UInt8)) = false := by simpa using c0
          have t0 : ((s[i].toNat : Int) == 47) = false := by
            have := unhide U1
            rw [show (47 : Int) = ((47 : UInt8).toNat : Int) from rfl, this]
            exact b0
          have p1 : pre2 47 47 (s.data.toList.drop i) = false := by rw [unhide HP1, b0]; rfl
          have p2 : pre2 47 42 (s.data.toList.drop i) = false := by rw [unhide HP2, b0]; rfl
          clear c0 b0
          have hne : s.data.toList.drop i ≠ [] := by
            intro e
            have := congrArg List.length e
            rw [List.length_drop, List.length_nil] at this
            omega
          have hng : (pieceP (s.data.toList.drop i)).1 ≠ -1 := fun hcon => by
            obtain ⟨kk, zz, hpp⟩ : ∃ kk zz, pieceP (s.data.toList.drop i) = (kk, zz) := ⟨_, _, rfl⟩
            rw [hpp] at hcon
            simp only at hcon
            subst hcon
            rcases gap_cases hpp with ⟨g1, _⟩ | ⟨_, g1, _⟩ | ⟨_, _, g1, _⟩
            · rw [unhide HBF] at g1; cases g1
            · rw [p1] at g1; cases g1
            · rw [p2] at g1; cases g1
          have hsk : skipTo s.data.toList i = i := by
            obtain ⟨kk, zz, hpp⟩ : ∃ kk zz, pieceP (s.data.toList.drop i) = (kk, zz) := ⟨_, _, rfl⟩
            rw [hpp] at hng
            unfold skipTo
            rw [skip_tok hne hpp hng]
            rfl
          have HEI : Hid (E = i) := by
            show E = i
            rw [← unhide HIE, hsk]
          have hok1 : ok = true := by
            rw [← unhide HOK, unhide HEI, p2, Bool.and_false]
            rfl
          subst hok1
          clear hsk hng hne p1 p2 HP1 HP2 HBF U1 U2 U3 HIE HOK
          go_wp2_with (first | (go_at_call 34; refine (unhide HBL _).mono ?_; rintro e w1 ⟨rfl, rfl⟩) | (go_at_call 35; refine (unhide HAT _).mono ?_; rintro e w1 ⟨rfl, rfl⟩))
          exact bodyPost_ret (v := .tuple #[.int .i64 (i : Int), .bool true]) (by simp [results, Try.results21, go_sem]) rfl ⟨by rw [unhide HEI], rfl⟩
    · have hie : i = s.size := by omega
      have hsk : skipTo s.data.toList i = i := by
        unfold skipTo
        rw [List.drop_of_length_le (by omega), skip_nil]
        rfl
      have HEI : Hid (E = s.size) := by
        show E = s.size
        rw [← unhide HIE, hsk, hie]
      have hok1 : ok = true := by
        rw [← unhide HOK, unhide HEI, List.drop_of_length_le (by omega)]
        rfl
      subst hok1
      clear hsk HIE HOK
      go_wp2
      exact bodyPost_ret (v := .tuple #[.int .i64 (s.size : Int), .bool true]) (by simp [results, Try.results21, go_sem]) rfl ⟨by rw [unhide HEI], rfl⟩
end Go.Proofs.Ytgoldmohmjjngaa
