/-
  The walk of the document's Parse at a number's text: one that is no number's.
-/
import Derived.Test.YtgoldmohmjjngaaFxC
import Derived.Test.YtgoldmohmjjngaaFxT
import Derived.Deep.QuietTactic
import Derived.BigQuiet
namespace Go.Proofs.Ytgoldmohmjjngaa
open Go.RowKit
set_option linter.unusedSimpArgs false
set_option linter.unusedVariables false

set_option maxHeartbeats 4000000 in
theorem refParse_bad_m (b : List UInt8) (w : World) (hlen : (45 :: b).length ≤ 40) (hbad : ∀ pt cn, look b 0 (-1) 0 = some (pt, cn) → cn = 0) :
    Calls Try.prog 38 #[.string ⟨(45 :: b).toArray⟩] w fun e w' => e = .returned (.tuple #[.int .i32 0, .int .i64 120]) ∧ Ext w w' := by
  have hbl : b.length ≤ 40 := by simp at hlen; omega
  have hbs : (⟨b.toArray⟩ : ByteArray).size = b.length := Lib.size_mk _
  have hls : (⟨(45 :: b).toArray⟩ : ByteArray).size = (45 :: b).length := Lib.size_mk _
  have h40 : ((b.length : Int) + 1) ≤ 40 := by simp at hlen; omega
  have hcut : (⟨(45 :: b).toArray⟩ : ByteArray).extract 1 (b.length + 1) = ⟨b.toArray⟩ := by rw [Lib.extract_mk, List.take_of_length_le (by simp)]; rfl
  have hat0 : ∀ h, (⟨(45 :: b).toArray⟩ : ByteArray)[0]'h = 45 := fun h => rfl
  clear hlen
  have HBAD := hide hbad
  clear hbad
  go_enter Try.func38, Try.ntmps38
  go_wp2
  go_loop [5, 6, 32] (fun p k i => ∃ (j : Nat) (pt : Int) (cn : Nat), p = .int .i64 pt ∧ k = .int .i64 cn ∧ i = .int .i64 j ∧ j ≤ b.length ∧ -1 ≤ pt ∧ pt < j ∧ cn ≤ j ∧ look (b.drop j) j pt cn = look b 0 (-1) 0) (fun _ _ i => b.length - (intOf i).toNat)
  case atStart => exact ⟨0, -1, 0, rfl, rfl, rfl, by omega, by omega, by omega, by omega, rfl⟩
  case round =>
    obtain ⟨j, pt, cn, rfl, rfl, rfl, hj, hp1, hp2, hcn, hl⟩ := hrel
    have HL := hide hl
    clear hl
    by_cases hlt : j < b.length
    · obtain ⟨c, hc, hdrop⟩ : ∃ c, b[j]? = some c ∧ b.drop j = c :: b.drop (j + 1) := ⟨b[j], by simp [hlt], List.drop_eq_getElem_cons hlt⟩
      have hat : ∀ h, (⟨b.toArray⟩ : ByteArray)[j]'h = c := by
        intro h
        have := Lib.getElem_mk b j h
        rw [hc] at this
        exact (Option.some.inj this).symm
      have hdr := hide hdrop
      clear hc hdrop hat0
      by_cases hdig : 48 ≤ c.toNat ∧ c.toNat ≤ 57
      · have t1 : decide ((48 : Int) ≤ (c.toNat : Int)) = true := by simp; omega
        have t2 : decide ((c.toNat : Int) ≤ 57) = true := by simp; omega
        have K := hide hdig
        clear hdig
        go_wp2
        go_round
        case rel =>
          refine ⟨j + 1, pt, cn + 1, rfl, by simp, by simp, by omega, by omega, by omega, by omega, ?_⟩
          rw [← unhide HL, unhide hdr, look, if_pos (unhide K)]
        case measure => simp [intOf]; omega
      · by_cases hpt : c = 46 ∧ pt < 0
        · have t1 : decide ((48 : Int) ≤ (c.toNat : Int)) = false := by rw [hpt.1]; rfl
          have t3 : ((c.toNat : Int) == 46) = true := by rw [hpt.1]; rfl
          have t4 : decide (pt < 0) = true := by simp; omega
          have K := hide (And.intro hdig hpt)
          clear hdig hpt
          go_wp2
          go_round
          case rel =>
            refine ⟨j + 1, j, cn, rfl, rfl, by simp, by omega, by omega, by omega, by omega, ?_⟩
            rw [← unhide HL, unhide hdr, look, if_neg (unhide K).1, if_pos (unhide K).2]
          case measure => simp [intOf]; omega
        · by_cases q1 : 48 ≤ c.toNat
          · have t1 : decide ((48 : Int) ≤ (c.toNat : Int)) = true := by simp; omega
            have t2 : decide ((c.toNat : Int) ≤ 57) = false := by simp; omega
            have t3 : ((c.toNat : Int) == 46) = false := by simp; omega
            clear hdig hpt q1
            go_wp2
            exact bodyPost_ret (v := .tuple #[.int .i32 0, .int .i64 120]) (by simp [results, Try.results38, go_sem]) rfl ⟨rfl, Ext.refl _⟩
          · have t1 : decide ((48 : Int) ≤ (c.toNat : Int)) = false := by simp; omega
            by_cases q2 : c = 46
            · have t3 : ((c.toNat : Int) == 46) = true := by rw [q2]; rfl
              have t4 : decide (pt < 0) = false := by
                simp
                exact Int.not_lt.1 fun h => hpt ⟨q2, h⟩
              clear hdig hpt q1 q2
              go_wp2
              exact bodyPost_ret (v := .tuple #[.int .i32 0, .int .i64 120]) (by simp [results, Try.results38, go_sem]) rfl ⟨rfl, Ext.refl _⟩
            · have t3 : ((c.toNat : Int) == 46) = false := by
                simp
                intro e
                exact q2 (UInt8.toNat_inj.1 (by simpa using (by omega : c.toNat = 46)))
              clear hdig hpt q1 q2
              go_wp2
              exact bodyPost_ret (v := .tuple #[.int .i32 0, .int .i64 120]) (by simp [results, Try.results38, go_sem]) rfl ⟨rfl, Ext.refl _⟩
    · have hjl : j = b.length := by omega
      subst hjl
      have h := unhide HL
      rw [List.drop_length, look] at h
      obtain rfl : cn = 0 := unhide HBAD pt cn h.symm
      clear h HL HBAD hat0
      go_wp2
      exact bodyPost_ret (v := .tuple #[.int .i32 0, .int .i64 120]) (by simp [results, Try.results38, go_sem]) rfl ⟨rfl, Ext.refl _⟩

set_option maxHeartbeats 4000000 in
theorem refParse_bad_n (b : List UInt8) (w : World) (hlen : b.length ≤ 40) (hc : ∃ c0, b[0]? = some c0 ∧ c0 ≠ 45) (hbad : ∀ pt cn, look b 0 (-1) 0 = some (pt, cn) → cn = 0) :
    Calls Try.prog 38 #[.string ⟨b.toArray⟩] w fun e w' => e = .returned (.tuple #[.int .i32 0, .int .i64 120]) ∧ Ext w w' := by
  have hbl : b.length ≤ 40 := hlen
  have hbs : (⟨b.toArray⟩ : ByteArray).size = b.length := Lib.size_mk _
  have h40 : (b.length : Int) ≤ 40 := by omega
  clear hlen
  obtain ⟨c0, hc0, hn45⟩ := hc
  have hat0 : ∀ h, (⟨b.toArray⟩ : ByteArray)[0]'h = c0 := by
    intro h
    have := Lib.getElem_mk b 0 h
    rw [hc0] at this
    exact (Option.some.inj this).symm
  have hpos : 0 < b.length := by
    rcases Nat.lt_or_ge 0 b.length with h | h
    · exact h
    · rw [List.getElem?_eq_none h] at hc0
      cases hc0
  have hbne : b ≠ [] := by
    intro e
    rw [e] at hpos
    simp at hpos
  have t45 : ((c0.toNat : Int) == 45) = false := by
    simp
    intro e
    exact hn45 (UInt8.toNat_inj.1 (by simpa using (by omega : c0.toNat = 45)))
  clear hc0 hn45
  have HBAD := hide hbad
  clear hbad
  go_enter Try.func38, Try.ntmps38
  go_wp2
  go_loop [5, 6, 32] (fun p k i => ∃ (j : Nat) (pt : Int) (cn : Nat), p = .int .i64 pt ∧ k = .int .i64 cn ∧ i = .int .i64 j ∧ j ≤ b.length ∧ -1 ≤ pt ∧ pt < j ∧ cn ≤ j ∧ look (b.drop j) j pt cn = look b 0 (-1) 0) (fun _ _ i => b.length - (intOf i).toNat)
  case atStart => exact ⟨0, -1, 0, rfl, rfl, rfl, by omega, by omega, by omega, by omega, rfl⟩
  case round =>
    obtain ⟨j, pt, cn, rfl, rfl, rfl, hj, hp1, hp2, hcn, hl⟩ := hrel
    have HL := hide hl
    clear hl
    by_cases hlt : j < b.length
    · obtain ⟨c, hc, hdrop⟩ : ∃ c, b[j]? = some c ∧ b.drop j = c :: b.drop (j + 1) := ⟨b[j], by simp [hlt], List.drop_eq_getElem_cons hlt⟩
      have hat : ∀ h, (⟨b.toArray⟩ : ByteArray)[j]'h = c := by
        intro h
        have := Lib.getElem_mk b j h
        rw [hc] at this
        exact (Option.some.inj this).symm
      have hdr := hide hdrop
      clear hc hdrop hat0
      by_cases hdig : 48 ≤ c.toNat ∧ c.toNat ≤ 57
      · have t1 : decide ((48 : Int) ≤ (c.toNat : Int)) = true := by simp; omega
        have t2 : decide ((c.toNat : Int) ≤ 57) = true := by simp; omega
        have K := hide hdig
        clear hdig
        go_wp2
        go_round
        case rel =>
          refine ⟨j + 1, pt, cn + 1, rfl, by simp, by simp, by omega, by omega, by omega, by omega, ?_⟩
          rw [← unhide HL, unhide hdr, look, if_pos (unhide K)]
        case measure => simp [intOf]; omega
      · by_cases hpt : c = 46 ∧ pt < 0
        · have t1 : decide ((48 : Int) ≤ (c.toNat : Int)) = false := by rw [hpt.1]; rfl
          have t3 : ((c.toNat : Int) == 46) = true := by rw [hpt.1]; rfl
          have t4 : decide (pt < 0) = true := by simp; omega
          have K := hide (And.intro hdig hpt)
          clear hdig hpt
          go_wp2
          go_round
          case rel =>
            refine ⟨j + 1, j, cn, rfl, rfl, by simp, by omega, by omega, by omega, by omega, ?_⟩
            rw [← unhide HL, unhide hdr, look, if_neg (unhide K).1, if_pos (unhide K).2]
          case measure => simp [intOf]; omega
        · by_cases q1 : 48 ≤ c.toNat
          · have t1 : decide ((48 : Int) ≤ (c.toNat : Int)) = true := by simp; omega
            have t2 : decide ((c.toNat : Int) ≤ 57) = false := by simp; omega
            have t3 : ((c.toNat : Int) == 46) = false := by simp; omega
            clear hdig hpt q1
            go_wp2
            exact bodyPost_ret (v := .tuple #[.int .i32 0, .int .i64 120]) (by simp [results, Try.results38, go_sem]) rfl ⟨rfl, Ext.refl _⟩
          · have t1 : decide ((48 : Int) ≤ (c.toNat : Int)) = false := by simp; omega
            by_cases q2 : c = 46
            · have t3 : ((c.toNat : Int) == 46) = true := by rw [q2]; rfl
              have t4 : decide (pt < 0) = false := by
                simp
                exact Int.not_lt.1 fun h => hpt ⟨q2, h⟩
              clear hdig hpt q1 q2
              go_wp2
              exact bodyPost_ret (v := .tuple #[.int .i32 0, .int .i64 120]) (by simp [results, Try.results38, go_sem]) rfl ⟨rfl, Ext.refl _⟩
            · have t3 : ((c.toNat : Int) == 46) = false := by
                simp
                intro e
                exact q2 (UInt8.toNat_inj.1 (by simpa using (by omega : c.toNat = 46)))
              clear hdig hpt q1 q2
              go_wp2
              exact bodyPost_ret (v := .tuple #[.int .i32 0, .int .i64 120]) (by simp [results, Try.results38, go_sem]) rfl ⟨rfl, Ext.refl _⟩
    · have hjl : j = b.length := by omega
      subst hjl
      have h := unhide HL
      rw [List.drop_length, look] at h
      obtain rfl : cn = 0 := unhide HBAD pt cn h.symm
      clear h HL HBAD hat0
      go_wp2
      exact bodyPost_ret (v := .tuple #[.int .i32 0, .int .i64 120]) (by simp [results, Try.results38, go_sem]) rfl ⟨rfl, Ext.refl _⟩

set_option maxHeartbeats 4000000 in
theorem refParse_bad_e (w : World)  :
    Calls Try.prog 38 #[.string ⟨([] : List UInt8).toArray⟩] w fun e w' => e = .returned (.tuple #[.int .i32 0, .int .i64 120]) ∧ Ext w w' := by
  obtain ⟨b, hb⟩ : ∃ b : List UInt8, b = [] := ⟨_, rfl⟩
  have hbad : ∀ pt cn, look b 0 (-1) 0 = some (pt, cn) → cn = 0 := by
    intro pt cn h
    rw [hb] at h
    simp [look] at h
    exact h.2.symm
  have hbs : (⟨b.toArray⟩ : ByteArray).size = b.length := Lib.size_mk _
  have hbl : b.length = 0 := by rw [hb]; rfl
  rw [← hb]
  have HB := hide hb
  clear hb
  have HBAD := hide hbad
  clear hbad
  have heq : b = [] := unhide HB
  rw [heq]
  clear heq
  go_enter Try.func38, Try.ntmps38
  go_wp2
  go_loop [5, 6, 32] (fun p k i => p = .int .i64 (-1) ∧ k = .int .i64 0 ∧ i = .int .i64 0) (fun _ _ _ => 0)
  case atStart => exact ⟨rfl, rfl, rfl⟩
  case round =>
    obtain ⟨rfl, rfl, rfl⟩ := hrel
    go_wp2
    exact bodyPost_ret (v := .tuple #[.int .i32 0, .int .i64 120]) (by simp [results, Try.results38, go_sem]) rfl ⟨rfl, Ext.refl _⟩

theorem refParse_long (l : List UInt8) (w : World) (hlen : 40 < l.length) :
    Calls Try.prog 38 #[.string ⟨l.toArray⟩] w fun e w' => e = .returned (.tuple #[.int .i32 0, .int .i64 3]) ∧ Ext w w' := by
  have hbs : (⟨l.toArray⟩ : ByteArray).size = l.length := Lib.size_mk _
  have t1 : decide ((40 : Int) < (l.length : Int)) = true := by simp; omega
  go_enter Try.func38, Try.ntmps38
  go_wp2
  exact bodyPost_ret (v := .tuple #[.int .i32 0, .int .i64 3]) (by simp [results, Try.results38, go_sem]) rfl ⟨rfl, Ext.refl _⟩
end Go.Proofs.Ytgoldmohmjjngaa
