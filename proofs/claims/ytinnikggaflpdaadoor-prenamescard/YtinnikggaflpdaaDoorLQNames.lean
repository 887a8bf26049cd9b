/-
  PreNames: a word that stands for tokens is these, wherever it stands; for every body and number. The library's tables are laid as the program's text lays them.
-/
import Derived.Test.YtinnikggaflpdaaDoorZO
import Derived.Test.YtinnikggaflpdaaDoorZJ
import Derived.Test.YtinnikggaflpdaaDoorFrP
import Derived.ChangeMaps5
namespace Go.Proofs.YtinnikggaflpdaaDoor
open Go.ChangeShapes Go.WideShapes Go.ChangeAt Go.RowKit
open Go.ChangeMaps (open_string)
set_option linter.unusedSimpArgs false
set_option linter.unusedVariables false

set_option maxHeartbeats 4000000 in
set_option maxRecDepth 100000 in
theorem preNames_any (s : ByteArray) (n : Int) (hn1 : -9223372036854775808 ≤ n) (hn2 : n ≤ 9223372036854775807) (W : World) (m : Int) (hS : Std W m) :
    Calls Tryd.prog 8 #[.string s, .int .i64 n] W fun e w' => e = .returned (.bool true) ∧ Ext W w' := by
  have HS := hide hS
  clear hS
  go_enter Tryd.func8, Tryd.ntmps8
  go_wp2_with fail
  refine (wakes11_any W m (unhide HS)).mono ?_
  rintro e w1 ⟨rfl, hx1⟩
  have X1 := hide hx1
  clear hx1
  have hll := (lexP_ok s.data.toList).1
  have HLX0 := lex_any s w1 m ((unhide HS).ext (unhide X1)).1
  obtain ⟨X, hX⟩ : ∃ X, lexP s.data.toList = X := ⟨_, rfl⟩
  have HX := hide hX
  rw [hX] at HLX0 hll
  have HLX := hide HLX0
  clear hX HLX0
  go_wp2_with fail
  refine (unhide HLX).mono ?_
  rintro e w2 ⟨ao, ca, rfl, hO2, hx2⟩
  obtain ⟨A, le, lp⟩ := X
  simp only at hO2 hll ⊢
  have HA := hide (hO2.tr.ext ((Ext.refl w2).alloc (.cells #[.int .i64 le, .int .i64 lp] 26)))
  have HE := hide (Blk.new w2 #[.int .i64 le, .int .i64 lp] 26)
  have X3 := hide (((unhide X1).trans hx2).alloc (.cells #[.int .i64 le, .int .i64 lp] 26))
  have p0 := (Blk.new w2 #[.int .i64 le, .int .i64 lp] 26).cell (i := 0) (v := .int .i64 le) rfl
  clear hO2 hx2 HLX
  by_cases hle : le ≠ 0
  · have q0 : (le == 0) = false := beq_eq_false_iff_ne.2 hle
    have q1 : (le != 0) = true := by simp [bne, q0]
    clear hle
    go_wp2
    go_ret
    exact ⟨rfl, unhide X3⟩
  have hle0 : le = 0 := by simpa using hle
  rw [hle0] at p0
  have hpB : plainB s.data.toList = A.all plainT := by unfold plainB; rw [unhide HX]; simp [hle0]
  have HLE := hide hle0
  obtain ⟨w3, hw3⟩ : ∃ w3, w3 = w2.alloc (.cells #[.int .i64 le, .int .i64 lp] 26) := ⟨_, rfl⟩
  rw [← hw3] at HA HE X3
  have HPL0 := plain_any s w3 m ((unhide HS).ext (unhide X3)).1
  rw [hpB, hw3, hle0] at HPL0
  have HPL := hide HPL0
  rw [hle0] at hw3
  have HW3 := hide hw3
  clear hle hle0 hpB HPL0 hw3
  go_wp2_with fail
  refine (unhide HPL).mono ?_
  rintro e w4 ⟨rfl, hx4⟩
  rw [← unhide HW3] at hx4
  have X4 := hide ((unhide X3).trans hx4)
  have HA4 := hide ((unhide HA).ext hx4)
  clear hx4 HPL p0 HE HA
  cases hpl : A.all plainT with
  | false =>
    go_wp2
    go_ret
    exact ⟨rfl, unhide X4⟩
  | true =>
  have HALLP := hide hpl
  clear hpl
  by_cases h20 : 20 < A.length
  · have g1 : (20 : Int) < (A.length : Int) := by omega
    have g2 : decide ((20 : Int) < (A.length : Int)) = true := decide_eq_true g1
    go_wp2
    go_ret
    exact ⟨rfl, unhide X4⟩
  have g1 : decide ((20 : Int) < (A.length : Int)) = false := decide_eq_false (by omega)
  have g1n : decide (20 < A.length) = false := decide_eq_false h20
  by_cases h400 : 400 < s.size
  · have g2 : decide ((400 : Int) < (s.size : Int)) = true := decide_eq_true (by omega)
    have g2n : decide (400 < s.size) = true := decide_eq_true h400
    go_wp2
    go_ret
    exact ⟨rfl, unhide X4⟩
  have g2 : decide ((400 : Int) < (s.size : Int)) = false := decide_eq_false (by omega)
  have g2n : decide (400 < s.size) = false := decide_eq_false h400
  go_wp2
  clear g1 g1n g2 g2n
  go_loopw [43] (fun iv wr => ∃ k : Nat, k ≤ A.length ∧ iv = .int .i64 k ∧ (∀ t ∈ A.take k, t.text ≠ wName ∧ t.line = 0) ∧ Ext w4 wr) (fun iv _ => A.length - (intOf iv).toNat)
  case atStart => exact ⟨0, by omega, rfl, by simp, Ext.refl _⟩
  case round =>
    obtain ⟨k, hk, rfl, hall, hx⟩ := hrel
    have HALL := hide hall
    have X := hide hx
    clear hall hx
    by_cases hlt : k < A.length
    · obtain ⟨b1, o1, rfl, h1⟩ := ((unhide HA4).ext (unhide X)).at k hlt
      have c0 := h1.kind; have c1 := h1.text; have c2 := h1.num; have c3 := h1.place; have c4 := h1.line
      clear h1
      have HGOOD : Hid (A[k].text ≠ wName → A[k].line = 0 → ∀ t ∈ A.take (k + 1), t.text ≠ wName ∧ t.line = 0) := fun h h' t ht => by
        rw [List.take_succ_eq_append_getElem hlt, List.mem_append] at ht
        rcases ht with ht | ht
        · exact unhide HALL t ht
        · simp at ht
          subst ht
          exact ⟨h, h'⟩
      generalize A[k] = x at *
      have XN : Hid (Ext W (wr.alloc (.cells #[.int .i64 x.kind, .string ⟨x.text.toArray⟩, .int .i32 x.num, .int .i64 x.place, .int .i64 x.line] 35))) := ((unhide X4).trans (unhide X)).alloc _
      have XM : Hid (Ext w4 (wr.alloc (.cells #[.int .i64 x.kind, .string ⟨x.text.toArray⟩, .int .i32 x.num, .int .i64 x.place, .int .i64 x.line] 35))) := (unhide X).alloc _
      cases f1 : (x.text == [78, 65, 77, 69]) with
      | true =>
        go_wp2
        go_ret
        exact ⟨rfl, unhide XN⟩
      | false =>
        by_cases hxl : x.line = 0
        · have hg := unhide HGOOD (fun e => by rw [e] at f1; exact absurd f1 (by decide)) hxl
          have HG := hide hg
          have d1 : (x.line == 0) = true := by rw [hxl]; rfl
          have d2 : (x.line != 0) = false := by rw [hxl]; rfl
          clear hg hxl HGOOD
          go_wp2
          refine ⟨⟨k + 1, by omega, by push_cast; rfl, unhide HG, unhide XM⟩, ?_⟩
          simp [intOf]
          omega
        · have d1 : (x.line == 0) = false := beq_eq_false_iff_ne.2 hxl
          have d2 : (x.line != 0) = true := by simp [bne, d1]
          clear hxl HGOOD
          go_wp2
          go_ret
          exact ⟨rfl, unhide XN⟩
    · have hka : A.take k = A := List.take_of_length_le (by omega)
      rw [hka] at HALL
      have HALLN := hide (unhide HALL)
      have X5 := hide ((unhide X4).trans (unhide X))
      have HA5 := hide ((unhide HA4).ext (unhide X))
      clear hka HALL X4 HA4 X
      obtain ⟨w5, hw5⟩ : ∃ w5, w5 = wr := ⟨_, rfl⟩
      have q1 : IntKind.i64.wrap ((s.size : Int) - 1) = (s.size : Int) - 1 := by simp [IntKind.wrap, IntKind.bits, IntKind.signed]; omega
      subst hw5
      go_wp2
      go_loopw [59] (fun iv wq => ∃ k : Nat, iv = .int .i64 k ∧ k ≤ s.size ∧ Ext w5 wq) (fun iv _ => s.size - (intOf iv).toNat)
      case atStart => exact ⟨0, rfl, by omega, Ext.refl _⟩
      case round =>
        obtain ⟨j, rfl, hj, hxq⟩ := hrel
        have XQ := hide hxq
        have X6 := hide ((unhide X5).trans hxq)
        clear hxq
        by_cases hjl : j + 1 < s.size
        · have i1 : (j : Int) < (s.size : Int) - 1 := by omega
          have i2 : (0 : Int) ≤ (j : Int) ∧ (j : Int) < (s.size : Int) := ⟨by omega, by omega⟩
          have i3 : (0 : Int) ≤ (j : Int) + 1 ∧ (j : Int) + 1 < (s.size : Int) := ⟨by omega, by omega⟩
          have i4 : IntKind.i64.wrap ((j : Int) + 1) = (j : Int) + 1 := by exact wrapId (by omega) (by omega)
          have i5 : j < s.size := by omega
          go_wp2
          all_goals first
            | (go_ret; exact ⟨rfl, unhide X6⟩)
            | (refine ⟨⟨j + 1, by push_cast; rfl, by omega, unhide XQ⟩, ?_⟩; simp [intOf]; omega)
        · have i1 : ¬ (j : Int) < (s.size : Int) - 1 := by omega
          have i1d : decide ((j : Int) < (s.size : Int) - 1) = false := decide_eq_false i1
          have HA6 := hide ((unhide HA5).ext (unhide XQ))
          clear HA5 X5 XQ
          by_cases hs0 : s.size = 0
          · have z1 : decide ((0 : Int) < (s.size : Int)) = false := decide_eq_false (by omega)
            have z2 : decide (0 < s.size) = false := decide_eq_false (by omega)
            have HS0 := hide hs0
            clear hs0
            go_wp2
            obtain ⟨K, hK, hK20⟩ : ∃ K : Nat, max n 0 % 20 = (K : Int) ∧ K < 20 := ⟨(max n 0 % 20).toNat, by omega, by omega⟩
            rw [hK]
            have HK := hide hK
            clear hK
            obtain ⟨tx0, htx0⟩ : ∃ tx0, tx0 = ((⟨#[35, 100, 101, 102, 105, 110, 101, 32, 78, 65, 77, 69, 32]⟩ : ByteArray) ++ s ++ ⟨#[10]⟩) := ⟨_, rfl⟩
            rw [← htx0]
            have HTX0 : Hid (tx0.data.toList = dName ++ 32 :: (s.data.toList ++ 10 :: nmL 0)) := by
              show tx0.data.toList = _
              rw [htx0]
              simp [dName, nmL, ByteArray.data_append]
            clear htx0
            obtain ⟨w6, hw6⟩ : ∃ w6, w6 = wr := ⟨_, rfl⟩
            subst hw6
            go_loopw [11, 92] (fun av iv wq => ∃ (k : Nat) (tx : ByteArray), k ≤ K ∧ iv = .int .i64 (k : Int) ∧ av = .string tx ∧ tx.data.toList = dName ++ 32 :: (s.data.toList ++ 10 :: nmL k) ∧ Ext w6 wq) (fun _ iv _ => K - (intOf iv).toNat)
            case atStart => exact ⟨0, tx0, by omega, rfl, rfl, unhide HTX0, Ext.refl _⟩
            case round =>
              obtain ⟨q, tx, hq, rfl, rfl, htx, hxq2⟩ := hrel
              have HTX := hide htx
              have XQ2 := hide hxq2
              clear htx hxq2
              by_cases hqK : q < K
              · have j1 : (q : Int) < (K : Int) := by omega
                have j2 : decide ((q : Int) < (K : Int)) = true := decide_eq_true j1
                have j3 : decide (q < K) = true := decide_eq_true hqK
                have hts : tx.size ≤ 1000 := by
                  have h1 : tx.size = 12 + ((s.size + (5 * q + 1)) + 1) := by
                    have h := congrArg List.length (unhide HTX)
                    rw [Array.length_toList, List.length_append, List.length_cons, List.length_append, List.length_cons, nmL_len, Array.length_toList] at h
                    exact h
                  omega
                go_wp2
                refine ⟨⟨q + 1, _, by omega, by push_cast; rfl, rfl, ?_, unhide XQ2⟩, ?_⟩
                · rw [← nmL_snoc q, ByteArray.data_append, Array.toList_append, unhide HTX]
                  simp [wName]
                · simp [intOf]
                  omega
              · obtain rfl : q = K := by omega
                have hlexA : lexA s.data.toList 0 0 0 = (A, 0, 0) := by
                  have h1 := unhide HX
                  rw [unhide HLE] at h1
                  unfold lexP at h1
                  split at h1
                  · injection h1 with _ h2
                    injection h2 with h2 _
                    exact absurd h2 (by decide)
                  · have h3 := (lexA_form s.data.toList 0 0 0).1 (by rw [h1])
                    rw [h1] at h3 ⊢
                    simp only at h3
                    rw [h3]
                obtain ⟨G, hG, hGL, hGA⟩ := names_run hlexA (fun t ht => ⟨List.all_eq_true.1 (unhide HALLP) t ht, unhide HALLN t ht⟩) (by omega) (by rw [Array.length_toList]; exact Nat.le_of_not_lt h400) hK20
                have X7 := hide ((unhide X6).trans (unhide XQ2))
                have HA7 := hide ((unhide HA6).ext (unhide XQ2))
                have HRU := run2_any tx wr m ((unhide HS).ext (unhide X7))
                rw [unhide HTX, hG] at HRU
                have HRUN := hide HRU
                have HGA := hide hGA
                have HGL := hide hGL
                have hK20' : q < 20 := hK20
                have hprod : (q : Int) * (A.length : Int) = (G.length : Int) := by rw [hGL]; push_cast; rfl
                have hGsm : G.length ≤ 400 := by
                  rw [hGL]
                  have : q * A.length ≤ 20 * 20 := Nat.mul_le_mul (by omega) (by omega)
                  omega
                have wprod : IntKind.i64.wrap ((q : Int) * (A.length : Int)) = (G.length : Int) := by
                  rw [hprod]
                  exact wrapId (by omega) (by omega)
                clear HRU hG hGA hGL hlexA HA6 X6 XQ2 HTX0
                go_wp2_with fail
                refine (unhide HRUN).mono ?_
                rintro e w8 ⟨ao8, ca8, rfl, hO8, hx8⟩
                simp only at hO8 ⊢
                have HG9 := hide (hO8.tr.ext ((Ext.refl w8).alloc (.cells #[.int .i64 0, .int .i64 0] 26)))
                have HA9 := hide (((unhide HA7).ext hx8).ext ((Ext.refl w8).alloc (.cells #[.int .i64 0, .int .i64 0] 26)))
                have X9 := hide (((unhide X7).trans hx8).alloc (.cells #[.int .i64 0, .int .i64 0] 26))
                have p0 := (Blk.new w8 #[.int .i64 0, .int .i64 0] 26).cell (i := 0) (v := .int .i64 0) rfl
                have p1 := (Blk.new w8 #[.int .i64 0, .int .i64 0] 26).cell (i := 1) (v := .int .i64 0) rfl
                obtain ⟨w9, hw9⟩ : ∃ w9, w9 = w8.alloc (.cells #[.int .i64 0, .int .i64 0] 26) := ⟨_, rfl⟩
                rw [← hw9] at HG9 HA9 X9
                have HW9 := hide hw9
                clear hO8 hx8 HRUN hw9 HA7 X7
                go_wp2
                rw [← unhide HW9]
                clear p0 p1 hprod wprod
                go_loopw [116] (fun iv wq => ∃ i : Nat, i ≤ G.length ∧ iv = .int .i64 (i : Int) ∧ Ext w9 wq) (fun iv _ => G.length - (intOf iv).toNat)
                case atStart => exact ⟨0, by omega, rfl, Ext.refl _⟩
                case round =>
                  obtain ⟨i, hi, rfl, hxi⟩ := hrel
                  have XI := hide hxi
                  have X10 := hide ((unhide X9).trans hxi)
                  clear hxi
                  by_cases hil : i < G.length
                  · have hm0 : 0 < A.length := by
                      have h1 := unhide HGL
                      rcases Nat.eq_zero_or_pos A.length with h0 | h0
                      · rw [h0] at h1
                        omega
                      · exact h0
                    obtain ⟨r, hr⟩ : ∃ r, r = i % A.length := ⟨_, rfl⟩
                    have hrl : r < A.length := by rw [hr]; exact Nat.mod_lt _ hm0
                    have r1 : Int.tmod (i : Int) (A.length : Int) = (r : Int) := by rw [hr]; rfl
                    have r2 : (i : Int) % (A.length : Int) = (r : Int) := by rw [hr]; rfl
                    have r3 : ((A.length : Int) == 0) = false := beq_eq_false_iff_ne.2 (by omega)
                    have r4 : (0 : Int) ≤ (r : Int) ∧ (r : Int) < (A.length : Int) := ⟨by omega, by omega⟩
                    have r5 : IntKind.i64.wrap (r : Int) = (r : Int) := by exact wrapId (by omega) (by omega)
                    obtain ⟨h3, h4⟩ := unhide HGA i hil hm0
                    obtain ⟨b1, o1, e1, h1⟩ := ((unhide HG9).ext (unhide XI)).at i hil
                    subst e1
                    obtain ⟨b2, o2, e2, h2⟩ := ((unhide HA9).ext (unhide XI)).at r hrl
                    subst e2
                    have a1 := h2.text
                    have a0 := h2.kind
                    have er : A[r].text = (A[i % A.length]'(Nat.mod_lt _ hm0)).text ∧ A[r].kind = (A[i % A.length]'(Nat.mod_lt _ hm0)).kind := by subst hr; exact ⟨rfl, rfl⟩
                    rw [er.1, ← h3] at a1
                    rw [er.2, ← h4] at a0
                    obtain ⟨t, ht⟩ : ∃ t, t = G[i] := ⟨_, rfl⟩
                    rw [← ht] at h1 a0 a1
                    have k0 := h1.kind; have k1 := h1.text; have k2 := h1.num; have k3 := h1.place; have k4 := h1.line
                    clear h1 h2 h3 h4 er hr ht
                    have HTB := hide (Blk.new wr #[.int .i64 t.kind, .string ⟨t.text.toArray⟩, .int .i32 t.num, .int .i64 t.place, .int .i64 t.line] 35)
                    have XN : Hid (Ext w9 (wr.alloc (.cells #[.int .i64 t.kind, .string ⟨t.text.toArray⟩, .int .i32 t.num, .int .i64 t.place, .int .i64 t.line] 35))) := (unhide XI).alloc _
                    obtain ⟨wA, hwA⟩ : ∃ wA, wA = wr.alloc (.cells #[.int .i64 t.kind, .string ⟨t.text.toArray⟩, .int .i32 t.num, .int .i64 t.place, .int .i64 t.line] 35) := ⟨_, rfl⟩
                    obtain ⟨tb, htb⟩ : ∃ tb, tb = wr.heap.size := ⟨_, rfl⟩
                    have aA1 : wA.cell? ⟨b2, o2 + r * 5 + 1, none⟩ = some (.string ⟨t.text.toArray⟩) := by
                      rw [hwA, ((Ext.refl wr).alloc _).cell (p := ⟨b2, o2 + r * 5 + 1, none⟩) (World.block_lt_of_cell? _ _ a1)]
                      exact a1
                    have aA0 : wA.cell? ⟨b2, o2 + r * 5, none⟩ = some (.int .i64 t.kind) := by
                      rw [hwA, ((Ext.refl wr).alloc _).cell (p := ⟨b2, o2 + r * 5, none⟩) (World.block_lt_of_cell? _ _ a0)]
                      exact a0
                    rw [← hwA] at HTB XN
                    rw [← htb] at HTB
                    have p0 := (unhide HTB).cell (i := 0) (v := .int .i64 t.kind) rfl
                    have p1 := (unhide HTB).cell (i := 1) (v := .string ⟨t.text.toArray⟩) rfl
                    have HWA := hide hwA
                    have HTBB := hide htb
                    clear hwA htb a0 a1
                    go_wp2
                    rw [← unhide HWA, ← unhide HTBB]
                    clear k0 k1 k2 k3 k4
                    go_quiet (fail)
                    go_wp2
                    refine ⟨⟨i + 1, by omega, by push_cast; rfl, (unhide XN).drewN _⟩, ?_⟩
                    simp [intOf]
                    omega
                  · go_wp2
                    go_ret
                    exact ⟨rfl, unhide X10⟩
          · have z1 : decide ((0 : Int) < (s.size : Int)) = true := decide_eq_true (by omega)
            have z2 : decide (0 < s.size) = true := decide_eq_true (by omega)
            have z3 : (0 : Int) ≤ (s.size : Int) - 1 ∧ (s.size : Int) - 1 < (s.size : Int) := ⟨by omega, by omega⟩
            go_wp2
            · go_ret
              exact ⟨rfl, unhide X6⟩
            obtain ⟨K, hK, hK20⟩ : ∃ K : Nat, max n 0 % 20 = (K : Int) ∧ K < 20 := ⟨(max n 0 % 20).toNat, by omega, by omega⟩
            rw [hK]
            have HK := hide hK
            clear hK
            obtain ⟨tx0, htx0⟩ : ∃ tx0, tx0 = ((⟨#[35, 100, 101, 102, 105, 110, 101, 32, 78, 65, 77, 69, 32]⟩ : ByteArray) ++ s ++ ⟨#[10]⟩) := ⟨_, rfl⟩
            rw [← htx0]
            have HTX0 : Hid (tx0.data.toList = dName ++ 32 :: (s.data.toList ++ 10 :: nmL 0)) := by
              show tx0.data.toList = _
              rw [htx0]
              simp [dName, nmL, ByteArray.data_append]
            clear htx0
            obtain ⟨w6, hw6⟩ : ∃ w6, w6 = wr := ⟨_, rfl⟩
            subst hw6
            go_loopw [11, 92] (fun av iv wq => ∃ (k : Nat) (tx : ByteArray), k ≤ K ∧ iv = .int .i64 (k : Int) ∧ av = .string tx ∧ tx.data.toList = dName ++ 32 :: (s.data.toList ++ 10 :: nmL k) ∧ Ext w6 wq) (fun _ iv _ => K - (intOf iv).toNat)
            case atStart => exact ⟨0, tx0, by omega, rfl, rfl, unhide HTX0, Ext.refl _⟩
            case round =>
              obtain ⟨q, tx, hq, rfl, rfl, htx, hxq2⟩ := hrel
              have HTX := hide htx
              have XQ2 := hide hxq2
              clear htx hxq2
              by_cases hqK : q < K
              · have j1 : (q : Int) < (K : Int) := by omega
                have j2 : decide ((q : Int) < (K : Int)) = true := decide_eq_true j1
                have j3 : decide (q < K) = true := decide_eq_true hqK
                have hts : tx.size ≤ 1000 := by
                  have h1 : tx.size = 12 + ((s.size + (5 * q + 1)) + 1) := by
                    have h := congrArg List.length (unhide HTX)
                    rw [Array.length_toList, List.length_append, List.length_cons, List.length_append, List.length_cons, nmL_len, Array.length_toList] at h
                    exact h
                  omega
                go_wp2
                refine ⟨⟨q + 1, _, by omega, by push_cast; rfl, rfl, ?_, unhide XQ2⟩, ?_⟩
                · rw [← nmL_snoc q, ByteArray.data_append, Array.toList_append, unhide HTX]
                  simp [wName]
                · simp [intOf]
                  omega
              · obtain rfl : q = K := by omega
                have hlexA : lexA s.data.toList 0 0 0 = (A, 0, 0) := by
                  have h1 := unhide HX
                  rw [unhide HLE] at h1
                  unfold lexP at h1
                  split at h1
                  · injection h1 with _ h2
                    injection h2 with h2 _
                    exact absurd h2 (by decide)
                  · have h3 := (lexA_form s.data.toList 0 0 0).1 (by rw [h1])
                    rw [h1] at h3 ⊢
                    simp only at h3
                    rw [h3]
                obtain ⟨G, hG, hGL, hGA⟩ := names_run hlexA (fun t ht => ⟨List.all_eq_true.1 (unhide HALLP) t ht, unhide HALLN t ht⟩) (by omega) (by rw [Array.length_toList]; exact Nat.le_of_not_lt h400) hK20
                have X7 := hide ((unhide X6).trans (unhide XQ2))
                have HA7 := hide ((unhide HA6).ext (unhide XQ2))
                have HRU := run2_any tx wr m ((unhide HS).ext (unhide X7))
                rw [unhide HTX, hG] at HRU
                have HRUN := hide HRU
                have HGA := hide hGA
                have HGL := hide hGL
                have hK20' : q < 20 := hK20
                have hprod : (q : Int) * (A.length : Int) = (G.length : Int) := by rw [hGL]; push_cast; rfl
                have hGsm : G.length ≤ 400 := by
                  rw [hGL]
                  have : q * A.length ≤ 20 * 20 := Nat.mul_le_mul (by omega) (by omega)
                  omega
                have wprod : IntKind.i64.wrap ((q : Int) * (A.length : Int)) = (G.length : Int) := by
                  rw [hprod]
                  exact wrapId (by omega) (by omega)
                clear HRU hG hGA hGL hlexA HA6 X6 XQ2 HTX0
                go_wp2_with fail
                refine (unhide HRUN).mono ?_
                rintro e w8 ⟨ao8, ca8, rfl, hO8, hx8⟩
                simp only at hO8 ⊢
                have HG9 := hide (hO8.tr.ext ((Ext.refl w8).alloc (.cells #[.int .i64 0, .int .i64 0] 26)))
                have HA9 := hide (((unhide HA7).ext hx8).ext ((Ext.refl w8).alloc (.cells #[.int .i64 0, .int .i64 0] 26)))
                have X9 := hide (((unhide X7).trans hx8).alloc (.cells #[.int .i64 0, .int .i64 0] 26))
                have p0 := (Blk.new w8 #[.int .i64 0, .int .i64 0] 26).cell (i := 0) (v := .int .i64 0) rfl
                have p1 := (Blk.new w8 #[.int .i64 0, .int .i64 0] 26).cell (i := 1) (v := .int .i64 0) rfl
                obtain ⟨w9, hw9⟩ : ∃ w9, w9 = w8.alloc (.cells #[.int .i64 0, .int .i64 0] 26) := ⟨_, rfl⟩
                rw [← hw9] at HG9 HA9 X9
                have HW9 := hide hw9
                clear hO8 hx8 HRUN hw9 HA7 X7
                go_wp2
                rw [← unhide HW9]
                clear p0 p1 hprod wprod
                go_loopw [116] (fun iv wq => ∃ i : Nat, i ≤ G.length ∧ iv = .int .i64 (i : Int) ∧ Ext w9 wq) (fun iv _ => G.length - (intOf iv).toNat)
                case atStart => exact ⟨0, by omega, rfl, Ext.refl _⟩
                case round =>
                  obtain ⟨i, hi, rfl, hxi⟩ := hrel
                  have XI := hide hxi
                  have X10 := hide ((unhide X9).trans hxi)
                  clear hxi
                  by_cases hil : i < G.length
                  · have hm0 : 0 < A.length := by
                      have h1 := unhide HGL
                      rcases Nat.eq_zero_or_pos A.length with h0 | h0
                      · rw [h0] at h1
                        omega
                      · exact h0
                    obtain ⟨r, hr⟩ : ∃ r, r = i % A.length := ⟨_, rfl⟩
                    have hrl : r < A.length := by rw [hr]; exact Nat.mod_lt _ hm0
                    have r1 : Int.tmod (i : Int) (A.length : Int) = (r : Int) := by rw [hr]; rfl
                    have r2 : (i : Int) % (A.length : Int) = (r : Int) := by rw [hr]; rfl
                    have r3 : ((A.length : Int) == 0) = false := beq_eq_false_iff_ne.2 (by omega)
                    have r4 : (0 : Int) ≤ (r : Int) ∧ (r : Int) < (A.length : Int) := ⟨by omega, by omega⟩
                    have r5 : IntKind.i64.wrap (r : Int) = (r : Int) := by exact wrapId (by omega) (by omega)
                    obtain ⟨h3, h4⟩ := unhide HGA i hil hm0
                    obtain ⟨b1, o1, e1, h1⟩ := ((unhide HG9).ext (unhide XI)).at i hil
                    subst e1
                    obtain ⟨b2, o2, e2, h2⟩ := ((unhide HA9).ext (unhide XI)).at r hrl
                    subst e2
                    have a1 := h2.text
                    have a0 := h2.kind
                    have er : A[r].text = (A[i % A.length]'(Nat.mod_lt _ hm0)).text ∧ A[r].kind = (A[i % A.length]'(Nat.mod_lt _ hm0)).kind := by subst hr; exact ⟨rfl, rfl⟩
                    rw [er.1, ← h3] at a1
                    rw [er.2, ← h4] at a0
                    obtain ⟨t, ht⟩ : ∃ t, t = G[i] := ⟨_, rfl⟩
                    rw [← ht] at h1 a0 a1
                    have k0 := h1.kind; have k1 := h1.text; have k2 := h1.num; have k3 := h1.place; have k4 := h1.line
                    clear h1 h2 h3 h4 er hr ht
                    have HTB := hide (Blk.new wr #[.int .i64 t.kind, .string ⟨t.text.toArray⟩, .int .i32 t.num, .int .i64 t.place, .int .i64 t.line] 35)
                    have XN : Hid (Ext w9 (wr.alloc (.cells #[.int .i64 t.kind, .string ⟨t.text.toArray⟩, .int .i32 t.num, .int .i64 t.place, .int .i64 t.line] 35))) := (unhide XI).alloc _
                    obtain ⟨wA, hwA⟩ : ∃ wA, wA = wr.alloc (.cells #[.int .i64 t.kind, .string ⟨t.text.toArray⟩, .int .i32 t.num, .int .i64 t.place, .int .i64 t.line] 35) := ⟨_, rfl⟩
                    obtain ⟨tb, htb⟩ : ∃ tb, tb = wr.heap.size := ⟨_, rfl⟩
                    have aA1 : wA.cell? ⟨b2, o2 + r * 5 + 1, none⟩ = some (.string ⟨t.text.toArray⟩) := by
                      rw [hwA, ((Ext.refl wr).alloc _).cell (p := ⟨b2, o2 + r * 5 + 1, none⟩) (World.block_lt_of_cell? _ _ a1)]
                      exact a1
                    have aA0 : wA.cell? ⟨b2, o2 + r * 5, none⟩ = some (.int .i64 t.kind) := by
                      rw [hwA, ((Ext.refl wr).alloc _).cell (p := ⟨b2, o2 + r * 5, none⟩) (World.block_lt_of_cell? _ _ a0)]
                      exact a0
                    rw [← hwA] at HTB XN
                    rw [← htb] at HTB
                    have p0 := (unhide HTB).cell (i := 0) (v := .int .i64 t.kind) rfl
                    have p1 := (unhide HTB).cell (i := 1) (v := .string ⟨t.text.toArray⟩) rfl
                    have HWA := hide hwA
                    have HTBB := hide htb
                    clear hwA htb a0 a1
                    go_wp2
                    rw [← unhide HWA, ← unhide HTBB]
                    clear k0 k1 k2 k3 k4
                    go_quiet (fail)
                    go_wp2
                    refine ⟨⟨i + 1, by omega, by push_cast; rfl, (unhide XN).drewN _⟩, ?_⟩
                    simp [intOf]
                    omega
                  · go_wp2
                    go_ret
                    exact ⟨rfl, unhide X10⟩

set_option maxRecDepth 100000 in
theorem preNames_owes (H : Type) (enc : TypeId × Value → H) (W : World) (base : Nat) (args : Array Value) (ds : List (DataW H)) (p : List MemPlace) : OwesP H enc Tryd.prog 8 Tryd.f8 Rows.preNamesSpec laidL W base args ds p := by
  intro hval hA hsz hL hsh
  have hT := tab_of_laid hL
  clear hL
  rw [Tryd.params8] at hA hval hsz
  obtain ⟨v0, vs0, d0, ds0, p0, q0, hargs, rfl, rfl, h0, r0⟩ := trodAll_cons hA
  obtain ⟨v1, vs1, d1, ds1, p1, q1, rfl, rfl, rfl, h1, r1⟩ := trodAll_cons r0
  obtain ⟨rfl, rfl, rfl⟩ := trodAll_nil r1
  obtain rfl : args = #[v0, v1] := by cases args; simp_all
  obtain ⟨s, rfl, rfl, rfl, ws⟩ := open_string Tryd.underlying9 (hval 0 9 v0 rfl rfl) h0
  obtain ⟨x, rfl, rfl, rfl, wx⟩ := open_int Tryd.underlying3 (hval 1 3 v1 rfl rfl) h1
  obtain ⟨m, hm⟩ := Tryd.laysM143.s1_3 W hsh
  have hb := bounds_i64 wx
  exact ⟨⟨rfl, rfl, rfl⟩, preNames_any s x (by omega) (by omega) W m ⟨hm, hT⟩⟩

set_option maxRecDepth 100000 in
theorem preNames_lifted (os : Os) (started : os.Started) (H : Type) (enc : TypeId × Value → H) :
    ReturnsInHanded {} Tryd.checked os 8 .any (fun w args => (Rows.preNamesSpec.pre enc Tryd.prog Tryd.f8 Rows.preNamesRow.domain false w args ∧ laidMetH Tryd.prog Rows.preNamesRow.laid w) ∧ sizedMet enc Tryd.prog Tryd.f8 (OpenSpec.ofChange Rows.preNamesSpec) false w args) (Rows.preNamesSpec.post enc Tryd.prog Tryd.f8 false true false false) :=
  lift_law_both (C := Tryd.checked) (laid := laidL) own laidOut started (by kernel_rfl) Tryd.func8 (T := 4) rfl Tryd.underlying4 rfl (by kernel_rfl)
    (ChangeSpec.witness_shaped (enc := enc) (C := Tryd.checked) (os := os) (X := fun w _ => laidMetH Tryd.prog laidL w) false (World.laidAll Tryd.prog os laidL) #[.string ⟨#[]⟩, .int .i64 0] 8 (World.laidAll_os _ _ _)
      (World.shaped_of_ZipB (by kernel_rfl) (by kernel_rfl)) (by kernel_rfl) (by kernel_rfl) (by kernel_rfl) (laid_fits os _)) (preNames_owes H enc)

theorem preNames_row : Rows.PreNamesSaid :=
  OpenClaim.holds_of_wide 8 Tryd.f8 rfl rfl rfl rfl rfl rfl rfl ⟨rfl, rfl, rfl, rfl, rfl⟩ rfl rfl rfl rfl rfl (by kernel_rfl) Tryd.func8 (by kernel_rfl)
    (of_decide_eq_true (by kernel_rfl)) (by unfold Func.isWrapper; rw [if_neg (of_decide_eq_false (by kernel_rfl))]; exact ⟨rfl, rfl⟩)
    (fun os started H enc _ => preNames_lifted os started H enc)

theorem preNames_plain (f : FuncId) (fn : Func) (hf : Tryd.pinned.checked.prog.funcNamed "paintbox/paintboxlaw11.PreNames" = some f) (hfn : Tryd.pinned.checked.prog.funcs[f]? = some fn) :
    false = Tryd.pinned.checked.prog.looks [] ∧ ∀ (j : Nat) t, fn.params[j]? = some t → Tryd.pinned.checked.prog.wantsStandIn t = false := by
  obtain rfl : f = 8 := Option.some.inj ((show Tryd.prog.funcNamed "paintbox/paintboxlaw11.PreNames" = some 8 by kernel_rfl).symm.trans hf) |>.symm
  obtain rfl : fn = Tryd.f8 := (Option.some.inj (Tryd.func8.symm.trans hfn)).symm
  refine ⟨by kernel_rfl, fun j t ht => ?_⟩
  rw [Tryd.params8] at ht
  have hm : t ∈ [9, 3] := by simpa using Array.mem_of_getElem? ht
  have hall : ([9, 3].all fun u => !Tryd.prog.wantsStandIn u) = true := by kernel_rfl
  exact (show Tryd.prog.wantsStandIn t = false by simpa using List.all_eq_true.1 hall t hm)

theorem preNames_holds : Rows.PreNamesCardSaid :=
  Claim7.holds_tied_plain_at .later [] _ _ _ _ preNames_row (fun _ h => by cases h) (by kernel_rfl) (fun _ h => by cases h) preNames_row_tie rfl ⟨rfl, rfl⟩ (by kernel_rfl) rfl preNames_plain (by kernel_rfl)
#print axioms preNames_holds
end Go.Proofs.YtinnikggaflpdaaDoor
