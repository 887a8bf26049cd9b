/-
  Proved: OctetBack answers true for every list of numbers l, signed or not, and turns nothing that was there: what Put32 and Put16 laid in turn is read as the same numbers, and nothing is left. No condition but the form's own bound on what is read.
-/
import Derived.Test.YtbjjoidobnfghaaFr
import Derived.Test.YtbjjoidobnfghaaW5
import Derived.Test.YtbjjoidobnfghaaEnc
import Derived.Test.YtbjjoidobnfghaaBlk
namespace Go.Proofs.Ytbjjoidobnfghaa
open Go.ChangeShapes Go.WideShapes Go.ChangeAt Go.RowKit
open Go.ChangeMaps (open_string shut_string)

theorem IntKind_wrap_u16 (x : Int) : IntKind.u16.wrap x = x % 65536 := by simp [IntKind.wrap, IntKind.bits, IntKind.signed]

set_option maxHeartbeats 2000000 in
theorem back_small (lv : Value) (ls : List Int) (sg : Bool) (w : World) (hl : Row .u32 w lv ls) (hm : ls.length ≤ 140737488351232) (hB : ∀ x ∈ ls, 0 ≤ x ∧ x < 4294967296) (hn : ls.length ≤ 500) :
    Calls Try.prog 6 #[lv, .bool sg] w fun e w' => e = .returned (.bool true) ∧ Ext w w' := by
  have HL := hide hl
  obtain ⟨lo, lcap, rfl, _, hlc, hcm⟩ := hl.shape
  unfold maxLen at hcm
  clear hl
  go_enter Try.func6, Try.ntmps6
  go_wp2_with fail
  refine (wakes_any w).mono ?_
  rintro e w1 ⟨rfl, hb1⟩
  have e1 : Hid (Ext w w1) := hb1
  clear hb1
  go_wp2
  go_loopw [0, 5, 16] (fun l b i wr => ∃ (k : Nat) (ao : Option Addr) (cap : Nat), k ≤ ls.length ∧ k ≤ 500 ∧ l = .slice lo ls.length lcap ∧ i = .int .i64 k ∧ b = .slice ao (encs ls k).length cap ∧ Row .u8 wr (.slice ao (encs ls k).length cap) (encs ls k) ∧ Ext w wr) (fun _ _ i _ => ls.length - (intOf i).toNat)
  case atStart => exact ⟨0, none, 0, Nat.zero_le _, Nat.zero_le _, rfl, rfl, rfl, Row.nil _ _, unhide e1⟩
  case round =>
    obtain ⟨k, ao, cap, hk, hk5, rfl, rfl, rfl, hrow, hx⟩ := hrel
    have HL2 := hide ((unhide HL).ext hx)
    have D := hide (And.intro hrow hx)
    clear hrow hx e1
    have hlen := encs_len ls k
    by_cases hlt : k < ls.length
    · obtain ⟨b, off, rfl, hc⟩ := (unhide HL2).at k hlt
      have hck := hc k hlt
      have hbd := hB ls[k] (List.getElem_mem hlt)
      have hg : Hid (ls.getD k 0 = ls[k]) := by simp [Hid, hlt]
      clear hc
      by_cases hpar : k % 2 = 0
      · have hp : ((k : Int) % 2 == 0) = true := by simp; omega
        have HW : Hid (encs ls (k + 1) = encs ls k ++ low ls[k] 4) := by rw [encs, wide_even hpar, unhide hg]; exact rfl
        clear hpar
        by_cases h500 : k = 500
        · have hc5 : ((k : Int) == 500) = true := by simp [h500]
          have h5 : 500 ≤ k := by omega
          clear h500
          omega
        · have hc5 : ((k : Int) == 500) = false := by simp; omega
          have hk500 : k ≠ 500 := h500
          clear h500
          go_wp2_with fail
          refine (put32_any _ (encs ls k) ls[k] _ (unhide D).1 (by omega) hbd.1 hbd.2).mono ?_
          rintro e w3 ⟨ao3, cap3, rfl, hown3, hb3⟩
          have D3 : Hid (Row .u8 w3 (.slice ao3 ((encs ls k).length + 4) cap3) (encs ls (k + 1)) ∧ Ext w w3) := ⟨by rw [unhide HW]; exact hown3.row, (unhide D).2.trans hb3⟩
          have HL3 : Hid ((encs ls (k + 1)).length = (encs ls k).length + 4) := by rw [unhide HW, List.length_append, low_length]; exact rfl
          clear hown3 hb3 D
          go_wp2
          go_roundw
          case rel => exact ⟨k + 1, ao3, cap3, by omega, by omega, rfl, by go_num, by rw [unhide HL3], by rw [unhide HL3]; exact (unhide D3).1, (unhide D3).2⟩
          case measure => simp [intOf]; omega
      · have hp : ((k : Int) % 2 == 0) = false := by simp; omega
        have hc5 : ((k : Int) == 500) = false := by simp; omega
        have hk500 : k ≠ 500 := by omega
        have HW : Hid (encs ls (k + 1) = encs ls k ++ low ls[k] 2) := by rw [encs, wide_odd hpar, unhide hg]; exact rfl
        clear hpar
        go_wp2_with fail
        refine (put16_any _ (encs ls k) (ls[k] % 65536) _ (unhide D).1 (by omega) (by omega) (by omega)).mono ?_
        rintro e w3 ⟨ao3, cap3, rfl, hown3, hb3⟩
        rw [low_mod16] at hown3
        have D3 : Hid (Row .u8 w3 (.slice ao3 ((encs ls k).length + 2) cap3) (encs ls (k + 1)) ∧ Ext w w3) := ⟨by rw [unhide HW]; exact hown3.row, (unhide D).2.trans hb3⟩
        have HL3 : Hid ((encs ls (k + 1)).length = (encs ls k).length + 2) := by rw [unhide HW, List.length_append, low_length]; exact rfl
        clear hown3 hb3 D
        go_wp2
        go_roundw
        case rel => exact ⟨k + 1, ao3, cap3, by omega, by omega, rfl, by go_num, by rw [unhide HL3], by rw [unhide HL3]; exact (unhide D3).1, (unhide D3).2⟩
        case measure => simp [intOf]; omega
    · have hkn : k = ls.length := by omega
      subst hkn
      go_wp2_with fail
      refine (read_any _ _ _ (unhide D).1 (by omega) (encs_byt _ _)).mono ?_
      rintro e w4 ⟨rb, sv, rfl, hrb, hrd, hb4⟩
      have hs1 : w.heap.size ≤ rb := Nat.le_trans (unhide D).2.size hrb
      have D4 := hide (And.intro hrd (show Below w.heap.size w w4 from (unhide D).2.trans hb4))
      clear hrb hrd hb4 D
      go_wp2
      go_loopw [42] (fun i wr => ∃ j : Nat, j ≤ ls.length ∧ i = .int .i64 j ∧ Rd wr rb sv (encs ls ls.length) (encs ls j).length 0 ∧ Below w.heap.size w wr) (fun i _ => ls.length - (intOf i).toNat)
      case atStart => exact ⟨0, Nat.zero_le _, rfl, (unhide D4).1, (unhide D4).2⟩
      case round =>
        obtain ⟨j, hk, rfl, hrd, hbl⟩ := hrel
        have D := hide (And.intro hrd hbl)
        have HL3 := hide ((unhide HL).below hbl)
        clear hrd hbl D4
        by_cases hlt2 : j < ls.length
        · have hlt : j < ls.length := by omega
          obtain ⟨b, off, he, hc⟩ := (unhide HL3).at j hlt
          subst he
          have hck := hc j hlt
          have hbd := hB ls[j] (List.getElem_mem hlt)
          have hg : Hid (ls.getD j 0 = ls[j]) := by simp [Hid, hlt]
          have HT := hide (took_encs ls ls.length j hlt2)
          clear hc
          by_cases hpar : j % 2 = 0
          · have hp : ((j : Int) % 2 == 0) = true := by simp; omega
            rw [wide_even hpar, unhide hg] at HT
            have HT2 : Hid (took (encs ls ls.length) (encs ls j).length 0 4 = (low ls[j] 4, (encs ls (j + 1)).length, 0)) := HT
            have HV : Hid (numOf (low ls[j] 4) = ls[j]) := numOf_low4 _ hbd.1 hbd.2
            clear hpar HT
            cases sg with
            | true =>
              go_wp2_with fail
              refine (i32_any (unhide D).1).mono ?_
              rintro e w5 ⟨rfl, h5, g5⟩
              rw [unhide HT2] at h5 ⊢
              rw [unhide HV, ← sgn32 hbd.1 hbd.2]
              have D5 := hide (And.intro h5 (below_grown (unhide D).2 g5 (unhide D).2.size hs1))
              clear h5 g5 D
              go_wp2
              go_roundw
              case rel => exact ⟨j + 1, by omega, by go_num, (unhide D5).1, (unhide D5).2⟩
              case measure => simp [intOf]; omega
            | false =>
              go_wp2_with fail
              refine (u32_any (unhide D).1).mono ?_
              rintro e w5 ⟨rfl, h5, g5⟩
              rw [unhide HT2] at h5 ⊢
              rw [unhide HV]
              have D5 := hide (And.intro h5 (below_grown (unhide D).2 g5 (unhide D).2.size hs1))
              clear h5 g5 D
              go_wp2
              go_roundw
              case rel => exact ⟨j + 1, by omega, by go_num, (unhide D5).1, (unhide D5).2⟩
              case measure => simp [intOf]; omega
          · have hp : ((j : Int) % 2 == 0) = false := by simp; omega
            rw [wide_odd hpar, unhide hg] at HT
            have HT2 : Hid (took (encs ls ls.length) (encs ls j).length 0 2 = (low ls[j] 2, (encs ls (j + 1)).length, 0)) := HT
            have HV := hide (numOf_low2 ls[j])
            clear hpar HT
            cases sg with
            | true =>
              go_wp2_with fail
              refine (i16_any (unhide D).1).mono ?_
              rintro e w5 ⟨rfl, h5, g5⟩
              rw [unhide HT2] at h5 ⊢
              rw [unhide HV, ← wrap16_sgn]
              have D5 := hide (And.intro h5 (below_grown (unhide D).2 g5 (unhide D).2.size hs1))
              clear h5 g5 D
              go_wp2
              go_roundw
              case rel => exact ⟨j + 1, by omega, by go_num, (unhide D5).1, (unhide D5).2⟩
              case measure => simp [intOf]; omega
            | false =>
              go_wp2_with fail
              refine (u16_any (unhide D).1).mono ?_
              rintro e w5 ⟨rfl, h5, g5⟩
              rw [unhide HT2] at h5 ⊢
              rw [unhide HV, ← IntKind_wrap_u16]
              have D5 := hide (And.intro h5 (below_grown (unhide D).2 g5 (unhide D).2.size hs1))
              clear h5 g5 D
              go_wp2
              go_roundw
              case rel => exact ⟨j + 1, by omega, by go_num, (unhide D5).1, (unhide D5).2⟩
              case measure => simp [intOf]; omega
        · have hkm : j = ls.length := by omega
          subst hkm
          go_wp2_with fail
          refine (left_any (unhide D).1).mono ?_
          rintro e w6 ⟨rfl, n6, rfl⟩
          rw [Int.sub_self]
          go_wp2_with fail
          refine (err_any ((unhide D).1.drewN _)).mono ?_
          rintro e w7 ⟨rfl, rfl⟩
          go_wp2
          go_ret
          exact ⟨rfl, below_drewN (unhide D).2 _⟩

set_option maxHeartbeats 2000000 in
theorem back_big (lv : Value) (ls : List Int) (sg : Bool) (w : World) (hl : Row .u32 w lv ls) (hm : ls.length ≤ 140737488351232) (hB : ∀ x ∈ ls, 0 ≤ x ∧ x < 4294967296) (hn : 501 ≤ ls.length) :
    Calls Try.prog 6 #[lv, .bool sg] w fun e w' => e = .returned (.bool true) ∧ Ext w w' := by
  have HL := hide hl
  obtain ⟨lo, lcap, rfl, _, hlc, hcm⟩ := hl.shape
  unfold maxLen at hcm
  clear hl
  go_enter Try.func6, Try.ntmps6
  go_wp2_with fail
  refine (wakes_any w).mono ?_
  rintro e w1 ⟨rfl, hb1⟩
  have e1 : Hid (Ext w w1) := hb1
  clear hb1
  go_wp2
  go_loopw [0, 5, 16] (fun l b i wr => ∃ (k : Nat) (ao : Option Addr) (cap : Nat), k ≤ ls.length ∧ k ≤ 500 ∧ l = .slice lo ls.length lcap ∧ i = .int .i64 k ∧ b = .slice ao (encs ls k).length cap ∧ Row .u8 wr (.slice ao (encs ls k).length cap) (encs ls k) ∧ Ext w wr) (fun _ _ i _ => ls.length - (intOf i).toNat)
  case atStart => exact ⟨0, none, 0, Nat.zero_le _, Nat.zero_le _, rfl, rfl, rfl, Row.nil _ _, unhide e1⟩
  case round =>
    obtain ⟨k, ao, cap, hk, hk5, rfl, rfl, rfl, hrow, hx⟩ := hrel
    have HL2 := hide ((unhide HL).ext hx)
    have D := hide (And.intro hrow hx)
    clear hrow hx e1
    have hlen := encs_len ls k
    by_cases hlt : k < ls.length
    · obtain ⟨b, off, rfl, hc⟩ := (unhide HL2).at k hlt
      have hck := hc k hlt
      have hbd := hB ls[k] (List.getElem_mem hlt)
      have hg : Hid (ls.getD k 0 = ls[k]) := by simp [Hid, hlt]
      clear hc
      by_cases hpar : k % 2 = 0
      · have hp : ((k : Int) % 2 == 0) = true := by simp; omega
        have HW : Hid (encs ls (k + 1) = encs ls k ++ low ls[k] 4) := by rw [encs, wide_even hpar, unhide hg]; exact rfl
        clear hpar
        by_cases h500 : k = 500
        · have hc5 : ((k : Int) == 500) = true := by simp [h500]
          have h5 : 500 ≤ k := by omega
          clear h500
          go_wp2_with fail
          refine (put32_any _ (encs ls k) ls[k] _ (unhide D).1 (by omega) hbd.1 hbd.2).mono ?_
          rintro e w3 ⟨ao3, cap3, rfl, hown3, hb3⟩
          have D3 : Hid (Row .u8 w3 (.slice ao3 ((encs ls k).length + 4) cap3) (encs ls (k + 1)) ∧ Ext w w3) := ⟨by rw [unhide HW]; exact hown3.row, (unhide D).2.trans hb3⟩
          clear hown3 hb3 D
          have D := D3
          clear D3
          have hlen := encs_len ls (k + 1)
          go_wp2_with fail
          refine (read_any _ _ _ (unhide D).1 (by omega) (encs_byt _ _)).mono ?_
          rintro e w4 ⟨rb, sv, rfl, hrb, hrd, hb4⟩
          have hs1 : w.heap.size ≤ rb := Nat.le_trans (unhide D).2.size hrb
          have D4 := hide (And.intro hrd (show Below w.heap.size w w4 from (unhide D).2.trans hb4))
          clear hrb hrd hb4 D
          go_wp2
          go_loopw [42] (fun i wr => ∃ j : Nat, j ≤ (k + 1) ∧ i = .int .i64 j ∧ Rd wr rb sv (encs ls (k + 1)) (encs ls j).length 0 ∧ Below w.heap.size w wr) (fun i _ => (k + 1) - (intOf i).toNat)
          case atStart => exact ⟨0, Nat.zero_le _, rfl, (unhide D4).1, (unhide D4).2⟩
          case round =>
            obtain ⟨j, hk, rfl, hrd, hbl⟩ := hrel
            have D := hide (And.intro hrd hbl)
            have HL3 := hide ((unhide HL).below hbl)
            clear hrd hbl D4
            by_cases hlt2 : j < (k + 1)
            · have hlt : j < ls.length := by omega
              obtain ⟨b, off, he, hc⟩ := (unhide HL3).at j hlt
              cases he
              have hck := hc j hlt
              have hbd := hB ls[j] (List.getElem_mem hlt)
              have hg : Hid (ls.getD j 0 = ls[j]) := by simp [Hid, hlt]
              have HT := hide (took_encs ls (k + 1) j hlt2)
              clear hc
              by_cases hpar : j % 2 = 0
              · have hp : ((j : Int) % 2 == 0) = true := by simp; omega
                rw [wide_even hpar, unhide hg] at HT
                have HT2 : Hid (took (encs ls (k + 1)) (encs ls j).length 0 4 = (low ls[j] 4, (encs ls (j + 1)).length, 0)) := HT
                have HV : Hid (numOf (low ls[j] 4) = ls[j]) := numOf_low4 _ hbd.1 hbd.2
                clear hpar HT
                cases sg with
                | true =>
                  go_wp2_with fail
                  refine (i32_any (unhide D).1).mono ?_
                  rintro e w5 ⟨rfl, h5, g5⟩
                  rw [unhide HT2] at h5 ⊢
                  rw [unhide HV, ← sgn32 hbd.1 hbd.2]
                  have D5 := hide (And.intro h5 (below_grown (unhide D).2 g5 (unhide D).2.size hs1))
                  clear h5 g5 D
                  go_wp2
                  go_roundw
                  case rel => exact ⟨j + 1, by omega, by go_num, (unhide D5).1, (unhide D5).2⟩
                  case measure => simp [intOf]; omega
                | false =>
                  go_wp2_with fail
                  refine (u32_any (unhide D).1).mono ?_
                  rintro e w5 ⟨rfl, h5, g5⟩
                  rw [unhide HT2] at h5 ⊢
                  rw [unhide HV]
                  have D5 := hide (And.intro h5 (below_grown (unhide D).2 g5 (unhide D).2.size hs1))
                  clear h5 g5 D
                  go_wp2
                  go_roundw
                  case rel => exact ⟨j + 1, by omega, by go_num, (unhide D5).1, (unhide D5).2⟩
                  case measure => simp [intOf]; omega
              · have hp : ((j : Int) % 2 == 0) = false := by simp; omega
                rw [wide_odd hpar, unhide hg] at HT
                have HT2 : Hid (took (encs ls (k + 1)) (encs ls j).length 0 2 = (low ls[j] 2, (encs ls (j + 1)).length, 0)) := HT
                have HV := hide (numOf_low2 ls[j])
                clear hpar HT
                cases sg with
                | true =>
                  go_wp2_with fail
                  refine (i16_any (unhide D).1).mono ?_
                  rintro e w5 ⟨rfl, h5, g5⟩
                  rw [unhide HT2] at h5 ⊢
                  rw [unhide HV, ← wrap16_sgn]
                  have D5 := hide (And.intro h5 (below_grown (unhide D).2 g5 (unhide D).2.size hs1))
                  clear h5 g5 D
                  go_wp2
                  go_roundw
                  case rel => exact ⟨j + 1, by omega, by go_num, (unhide D5).1, (unhide D5).2⟩
                  case measure => simp [intOf]; omega
                | false =>
                  go_wp2_with fail
                  refine (u16_any (unhide D).1).mono ?_
                  rintro e w5 ⟨rfl, h5, g5⟩
                  rw [unhide HT2] at h5 ⊢
                  rw [unhide HV, ← IntKind_wrap_u16]
                  have D5 := hide (And.intro h5 (below_grown (unhide D).2 g5 (unhide D).2.size hs1))
                  clear h5 g5 D
                  go_wp2
                  go_roundw
                  case rel => exact ⟨j + 1, by omega, by go_num, (unhide D5).1, (unhide D5).2⟩
                  case measure => simp [intOf]; omega
            · have hkm : j = (k + 1) := by omega
              subst hkm
              go_wp2_with fail
              refine (left_any (unhide D).1).mono ?_
              rintro e w6 ⟨rfl, n6, rfl⟩
              rw [Int.sub_self]
              go_wp2_with fail
              refine (err_any ((unhide D).1.drewN _)).mono ?_
              rintro e w7 ⟨rfl, rfl⟩
              go_wp2
              go_ret
              exact ⟨rfl, below_drewN (unhide D).2 _⟩
        · have hc5 : ((k : Int) == 500) = false := by simp; omega
          have hk500 : k ≠ 500 := h500
          clear h500
          go_wp2_with fail
          refine (put32_any _ (encs ls k) ls[k] _ (unhide D).1 (by omega) hbd.1 hbd.2).mono ?_
          rintro e w3 ⟨ao3, cap3, rfl, hown3, hb3⟩
          have D3 : Hid (Row .u8 w3 (.slice ao3 ((encs ls k).length + 4) cap3) (encs ls (k + 1)) ∧ Ext w w3) := ⟨by rw [unhide HW]; exact hown3.row, (unhide D).2.trans hb3⟩
          have HL3 : Hid ((encs ls (k + 1)).length = (encs ls k).length + 4) := by rw [unhide HW, List.length_append, low_length]; exact rfl
          clear hown3 hb3 D
          go_wp2
          go_roundw
          case rel => exact ⟨k + 1, ao3, cap3, by omega, by omega, rfl, by go_num, by rw [unhide HL3], by rw [unhide HL3]; exact (unhide D3).1, (unhide D3).2⟩
          case measure => simp [intOf]; omega
      · have hp : ((k : Int) % 2 == 0) = false := by simp; omega
        have hc5 : ((k : Int) == 500) = false := by simp; omega
        have hk500 : k ≠ 500 := by omega
        have HW : Hid (encs ls (k + 1) = encs ls k ++ low ls[k] 2) := by rw [encs, wide_odd hpar, unhide hg]; exact rfl
        clear hpar
        go_wp2_with fail
        refine (put16_any _ (encs ls k) (ls[k] % 65536) _ (unhide D).1 (by omega) (by omega) (by omega)).mono ?_
        rintro e w3 ⟨ao3, cap3, rfl, hown3, hb3⟩
        rw [low_mod16] at hown3
        have D3 : Hid (Row .u8 w3 (.slice ao3 ((encs ls k).length + 2) cap3) (encs ls (k + 1)) ∧ Ext w w3) := ⟨by rw [unhide HW]; exact hown3.row, (unhide D).2.trans hb3⟩
        have HL3 : Hid ((encs ls (k + 1)).length = (encs ls k).length + 2) := by rw [unhide HW, List.length_append, low_length]; exact rfl
        clear hown3 hb3 D
        go_wp2
        go_roundw
        case rel => exact ⟨k + 1, ao3, cap3, by omega, by omega, rfl, by go_num, by rw [unhide HL3], by rw [unhide HL3]; exact (unhide D3).1, (unhide D3).2⟩
        case measure => simp [intOf]; omega
    · omega

theorem back_owes (H : Type) (enc : TypeId × Value → H) (W : World) (base : Nat) (args : Array Value) (ds : List (DataW H)) (p : List MemPlace) : Owes H enc Try.prog 6 Try.f6 Rows.octetBackSpec W base args ds p := by
  intro hval hA hsz
  rw [Try.params6] at hA hval hsz
  obtain ⟨v0, vs0, d0, ds0, p0, q0, hargs, rfl, rfl, h0, r0⟩ := trodAll_cons hA
  obtain ⟨v1, vs1, d1, ds1, p1, q1, rfl, rfl, rfl, h1, r1⟩ := trodAll_cons r0
  obtain ⟨rfl, rfl, rfl⟩ := trodAll_nil r1
  obtain rfl : args = #[v0, v1] := by cases args; simp_all
  obtain ⟨xs, hrow, hwf, hlen⟩ := open_row (j := 0) Try.underlying59 Try.underlying23 (by kernel_rfl) (hval 0 59 v0 rfl rfl) h0 hsz rfl rfl
  obtain ⟨b1, rfl, rfl, rfl⟩ := open_bool Try.underlying4 (hval 1 4 v1 rfl rfl) h1
  have hb : Try.prog.bytesOf 23 = 4 := by kernel_rfl
  rw [hb] at hlen
  have hB : ∀ x ∈ xs, 0 ≤ x ∧ x < 4294967296 := fun x hx => by have := bounds_u32 (hwf x hx); omega
  by_cases hn : xs.length ≤ 500
  · exact ⟨⟨rfl, rfl, rfl⟩, back_small v0 xs b1 W hrow (by omega) hB hn⟩
  · exact ⟨⟨rfl, rfl, rfl⟩, back_big v0 xs b1 W hrow (by omega) hB (by omega)⟩

set_option maxRecDepth 100000 in
theorem back_lifted (os : Os) (started : os.Started) (H : Type) (enc : TypeId × Value → H) :
    ReturnsInHanded {} Try.checked os 6 .any (Rows.octetBackSpec.pre6 enc Try.prog Try.f6 [] false) (Rows.octetBackSpec.post enc Try.prog Try.f6 false true false false) :=
  lift_law (C := Try.checked) own laidOut started (by kernel_rfl) Try.func6 (T := 4) rfl Try.underlying4 rfl (by kernel_rfl)
    (ChangeSpec.witness6 (enc := enc) (C := Try.checked) false ⟨#[], #[.slice none 0 0, .bool false], []⟩ 8 (by kernel_rfl) (by kernel_rfl) (by kernel_rfl) (by kernel_rfl)) (back_owes H enc)

theorem octetBack_holds : Rows.OctetBackSaid :=
  OpenClaim.holds_of_wide 6 Try.f6 rfl rfl rfl rfl rfl rfl rfl ⟨rfl, rfl, rfl, rfl, rfl⟩ rfl rfl rfl rfl rfl (by kernel_rfl) Try.func6 (by kernel_rfl)
    (of_decide_eq_true (by kernel_rfl)) (by unfold Func.isWrapper; rw [if_neg (of_decide_eq_false (by kernel_rfl))]; exact ⟨rfl, rfl⟩)
    (fun os started H enc _ => back_lifted os started H enc)
#print axioms octetBack_holds
end Go.Proofs.Ytbjjoidobnfghaa
