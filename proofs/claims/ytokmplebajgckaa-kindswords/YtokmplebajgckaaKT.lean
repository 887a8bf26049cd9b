/-
  The document's types of words.
-/
import Derived.Test.YtokmplebajgckaaKS
namespace Go.Proofs.Ytokmplebajgckaa
open Go.RowKit
set_option linter.unusedVariables false
set_option linter.unusedSimpArgs false

/-- The types from a base and a size on, with their words. -/
def tysFrom (b n : Nat) : List (Ty × Byts8) := tys.filter (fun p => decide ((b : Int) < p.1.1) || (p.1.1 == (b : Int) && decide ((n : Int) ≤ p.1.2)))
theorem tys_all : tysFrom 0 0 = tys := by decide
theorem tys_end : tysFrom 5 0 = [] := by decide
theorem tys_up : ∀ b < 5, tysFrom b 5 = tysFrom (b + 1) 0 := by decide
theorem tys_step : ∀ b n : Fin 5, (mayP ⟨((b.val : Nat) : Int), ((n.val : Nat) : Int)⟩ = false ∧ tysFrom b.val n.val = tysFrom b.val (n.val + 1)) ∨ (mayP ⟨((b.val : Nat) : Int), ((n.val : Nat) : Int)⟩ = true ∧ (tysFrom b.val n.val).length = (tysFrom b.val (n.val + 1)).length + 1 ∧ (tysFrom b.val n.val).tail = tysFrom b.val (n.val + 1) ∧ ((tysFrom b.val n.val).head?.all (fun p => tys.contains p && eqT p.1 ⟨((b.val : Nat) : Int), ((n.val : Nat) : Int)⟩)) = true) := by decide
theorem tys_no (b : Nat) (hb : b < 5) (n : Nat) (hn : n < 5) (h : mayP ⟨(b : Int), (n : Int)⟩ = false) : tysFrom b n = tysFrom b (n + 1) := by
  rcases tys_step ⟨b, hb⟩ ⟨n, hn⟩ with h2 | h2
  · exact h2.2
  · exact absurd (h.symm.trans h2.1) (by decide)
theorem tys_yes (b : Nat) (hb : b < 5) (n : Nat) (hn : n < 5) (h : mayP ⟨(b : Int), (n : Int)⟩ = true) : ∃ p ∈ tys, p.1 = ⟨(b : Int), (n : Int)⟩ ∧ tysFrom b n = p :: tysFrom b (n + 1) := by
  rcases tys_step ⟨b, hb⟩ ⟨n, hn⟩ with h2 | ⟨_, h3, h4, h5⟩
  · exact absurd (h.symm.trans h2.1) (by decide)
  · dsimp only at h3 h4 h5
    cases hl : tysFrom b n with
    | nil => rw [hl] at h3; simp at h3
    | cons p l =>
      rw [hl] at h4 h5
      simp only [List.head?_cons, Option.all_some, Bool.and_eq_true, eqT_iff, List.contains_iff_mem] at h5
      exact ⟨p, h5.1, h5.2, by rw [← h4]; rfl⟩
theorem ofIn_err (l : List (Ty × Byts8)) (t : Byts8) : ofIn l t = (noT, 4) ∨ (ofIn l t).2 = 0 := by
  induction l with
  | nil => exact .inl rfl
  | cons p l ih =>
    unfold ofIn
    by_cases h : (p.2 == t) = true
    · rw [if_pos h]; exact .inr rfl
    · rw [if_neg h]; exact ih

set_option maxHeartbeats 4000000 in
theorem refOf_any (t : Byts8) (w : World) :
    Calls Try.prog 11 #[.string ⟨t.toArray⟩] w fun e w' => e = .returned (.tuple #[.agg #[.int .i64 ((ofP t).1).1, .int .i64 ((ofP t).1).2], .bool ((ofP t).2 == 0)]) ∧ Ext w w' := by
  obtain ⟨R, hR⟩ : ∃ R, ofP t = R := ⟨_, rfl⟩
  rw [hR]
  unfold ofP at hR
  rw [← tys_all] at hR
  have HR := hide hR
  clear hR
  have HMA := hide refMay_any
  have HWO := hide refWord_in
  have B0 := hide (Blk.new w #[.int .i64 0, .int .i64 0] 23)
  have X0 := hide ((Ext.refl w).alloc (.cells #[.int .i64 0, .int .i64 0] 23))
  go_enter Try.func11, Try.ntmps11
  go_wp2
  generalize w.alloc (.cells #[.int .i64 0, .int .i64 0] 23) = w1 at B0 X0 ⊢
  go_loopw [4] (fun i wr => ∃ b : Nat, b ≤ 5 ∧ i = .int .i64 b ∧ Hid (ofIn (tysFrom b 0) t = R) ∧ Hid (Blk wr w.heap.size #[.int .i64 0, .int .i64 0] 23) ∧ Hid (Ext w wr)) (fun i _ => 5 - (intOf i).toNat)
  case atStart => exact ⟨0, by omega, rfl, HR, B0, X0⟩
  case round =>
    obtain ⟨b, hb, rfl, hc, hb0, hx⟩ := hrel
    clear HR B0 X0
    by_cases hlt : b < 5
    · have hle : (b : Int) ≤ 4 := by omega
      go_wp2
      go_loopw [5] (fun i wq => ∃ n : Nat, n ≤ 5 ∧ i = .int .i64 n ∧ Hid (ofIn (tysFrom b n) t = R) ∧ Hid (Blk wq w.heap.size #[.int .i64 0, .int .i64 0] 23) ∧ Hid (Ext w wq)) (fun i _ => 5 - (intOf i).toNat)
      case atStart => exact ⟨0, by omega, rfl, hc, hb0, hx⟩
      case round =>
        obtain ⟨n, hn, rfl, hc, hb0, hx⟩ := hrel
        by_cases hlt2 : n < 5
        · have hle2 : (n : Int) ≤ 4 := by omega
          have HX1 := hide ((unhide hx).alloc (.cells #[.int .i64 (b : Int), .int .i64 (n : Int)] 23))
          have HB1 := hide ((unhide hb0).alloc (.cells #[.int .i64 (b : Int), .int .i64 (n : Int)] 23))
          cases hm : mayP ⟨(b : Int), (n : Int)⟩ with
          | false =>
            have HC := hide (tys_no b hlt n hlt2 hm ▸ unhide hc)
            have HM := hide (unhide HMA ⟨(b : Int), (n : Int)⟩)
            rw [hm] at HM
            dsimp only at HM
            clear hc hm
            go_wp2_with fail
            refine (unhide HM _).mono ?_
            rintro e w2 ⟨rfl, hx2⟩
            have HX2 := hide ((unhide HX1).trans hx2)
            have HB2 := hide ((unhide HB1).ext hx2)
            clear hx2
            go_wp2
            go_roundw
            case rel => exact ⟨n + 1, by omega, by go_num, HC, HB2, HX2⟩
            case measure => simp [intOf]; omega
          | true =>
            obtain ⟨p, hp, hpe, hl⟩ := tys_yes b hlt n hlt2 hm
            have hc2 := unhide hc
            rw [hl] at hc2
            unfold ofIn at hc2
            have HM := hide (unhide HMA ⟨(b : Int), (n : Int)⟩)
            rw [hm] at HM
            dsimp only at HM
            have HW := hide (unhide HWO p hp)
            rw [hpe] at HW
            dsimp only at HW
            clear hc hm hl hp
            obtain ⟨u, x⟩ := p
            dsimp only at hpe hc2 HW
            subst hpe
            by_cases he : x = t
            · subst he
              rw [if_pos (by simp)] at hc2
              subst hc2
              have q2 : (x == x) = true := by simp
              go_wp2_with fail
              refine (unhide HM _).mono ?_
              rintro e w2 ⟨rfl, hx2⟩
              have HX2 := hide ((unhide HX1).trans hx2)
              have HB2 := hide ((unhide HB1).ext hx2)
              have HT2 := hide ((Blk.new wr #[.int .i64 (b : Int), .int .i64 (n : Int)] 23).ext hx2)
              clear hx2
              obtain ⟨c0, c1⟩ := (unhide HT2).two
              go_wp2_with fail
              refine (unhide HW _).mono ?_
              rintro e w3 ⟨rfl, hx3⟩
              have HX3 := hide ((unhide HX2).trans hx3)
              have HB3 := hide ((unhide HB2).ext hx3)
              obtain ⟨d0, d1⟩ := ((unhide HT2).ext hx3).two
              clear hx3 c0 c1
              obtain ⟨e0, e1⟩ := (unhide HB3).two
              obtain ⟨f0, f1⟩ := (unhide HB3).free2
              have HF := hide (And.intro ((unhide HB3).put2 (.int .i64 (b : Int)) (.int .i64 (n : Int))) (ext_set2 (p := .int .i64 (b : Int)) (q := .int .i64 (n : Int)) (unhide HX3) (Nat.le_refl _)))
              go_wp2
              obtain ⟨s0, s1⟩ := (unhide HF).1.two
              exact bodyPost_ret (v := .tuple #[.agg #[.int .i64 (b : Int), .int .i64 (n : Int)], .bool true]) (by simp [results, Try.results11, go_sem, s0, s1]) rfl ⟨rfl, (unhide HF).2⟩
            · have q : (x == t) = false := beq_eq_false_iff_ne.2 he
              rw [if_neg (by simp [he])] at hc2
              have HC := hide hc2
              clear he hc2
              go_wp2_with fail
              refine (unhide HM _).mono ?_
              rintro e w2 ⟨rfl, hx2⟩
              have HX2 := hide ((unhide HX1).trans hx2)
              have HB2 := hide ((unhide HB1).ext hx2)
              have HT2 := hide ((Blk.new wr #[.int .i64 (b : Int), .int .i64 (n : Int)] 23).ext hx2)
              clear hx2
              obtain ⟨c0, c1⟩ := (unhide HT2).two
              go_wp2_with fail
              refine (unhide HW _).mono ?_
              rintro e w3 ⟨rfl, hx3⟩
              have HX3 := hide ((unhide HX2).trans hx3)
              have HB3 := hide ((unhide HB2).ext hx3)
              clear hx3 c0 c1
              go_wp2
              go_roundw
              case rel => exact ⟨n + 1, by omega, by go_num, HC, HB3, HX3⟩
              case measure => simp [intOf]; omega
        · obtain rfl : n = 5 := by omega
          have HC := hide (tys_up b hlt ▸ unhide hc)
          clear hc
          go_wp2
          go_roundw
          case rel => exact ⟨b + 1, by omega, by go_num, HC, hb0, hx⟩
          case measure => simp [intOf]; omega
    · obtain rfl : b = 5 := by omega
      have hc2 := unhide hc
      rw [tys_end] at hc2
      unfold ofIn at hc2
      subst hc2
      clear hc
      obtain ⟨e0, e1⟩ := (unhide hb0).two
      obtain ⟨f0, f1⟩ := (unhide hb0).free2
      have HF := hide (And.intro ((unhide hb0).put2 (.int .i64 0) (.int .i64 0)) (ext_set2 (p := .int .i64 0) (q := .int .i64 0) (unhide hx) (Nat.le_refl _)))
      go_wp2
      obtain ⟨s0, s1⟩ := (unhide HF).1.two
      exact bodyPost_ret (v := .tuple #[.agg #[.int .i64 (noT).1, .int .i64 (noT).2], .bool false]) (by simp [results, Try.results11, go_sem, s0, s1, noT]) rfl ⟨rfl, (unhide HF).2⟩
end Go.Proofs.Ytokmplebajgckaa
