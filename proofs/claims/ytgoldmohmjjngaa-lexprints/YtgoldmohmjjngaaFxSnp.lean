/-
  The walk of the document's Parse at a number's text: without a minus, with a point.
-/
import Derived.Test.YtgoldmohmjjngaaFxC
import Derived.Test.YtgoldmohmjjngaaFxT
import Derived.Deep.QuietTactic
import Derived.BigQuiet
namespace Go.Proofs.Ytgoldmohmjjngaa
open Go.RowKit
set_option linter.unusedSimpArgs false
set_option linter.unusedVariables false

set_option maxHeartbeats 4000000 in
theorem refParse_np (A B : List UInt8) (w : World) (hA : ∀ c ∈ A, isDig c) (hB : ∀ c ∈ B, isDig c) (hk : A.length + B.length ≠ 0) (hlen : (A ++ 46 :: B).length ≤ 40) :
    Calls Try.prog 38 #[.string ⟨((A ++ 46 :: B) : List UInt8).toArray⟩] w fun e w' => e = .returned (.tuple #[.int .i32 (rawI (rawHalf A B)), .int .i64 0]) ∧ Ext w w' := by
  have hlook : Hid (look (A ++ 46 :: B) 0 (-1) 0 = some ((A.length : Int), A.length + B.length)) := by
    show _ = _
    rw [look_digs _ _ _ _ _ hA, look, if_neg (by decide), if_pos ⟨rfl, by omega⟩, ← List.append_nil B, look_digs _ _ _ _ _ hB]
    simp [look]
  have hbl : (A ++ 46 :: B).length ≤ 40 := by simp at hlen ⊢; omega
  have hbs : (⟨(A ++ 46 :: B).toArray⟩ : ByteArray).size = (A ++ 46 :: B).length := Lib.size_mk _
  have hls : (⟨((A ++ 46 :: B) : List UInt8).toArray⟩ : ByteArray).size = ((A ++ 46 :: B) : List UInt8).length := Lib.size_mk _
  generalize hbe : (A ++ 46 :: B) = b at *
  have HBE := hide hbe
  clear hbe
  go_enter Try.func38, Try.ntmps38
  have h40 : (b.length : Int) ≤ 40 := by omega
  clear hlen
  obtain ⟨c0, hc0, hn45⟩ : ∃ c0, b[0]? = some c0 ∧ c0 ≠ 45 := by rw [← unhide HBE]; exact head_np A B hA
  have hat0 : ∀ h, (⟨b.toArray⟩ : ByteArray)[0]'h = c0 := by
    intro h
    have := Lib.getElem_mk b 0 h
    rw [hc0] at this
    exact (Option.some.inj this).symm
  have hpos : 0 < b.length := by
    rcases Nat.lt_or_ge 0 b.length with h | h
    · exact h
    · rw [List.getElem?_eq_none h] at hc0
      cases hc0
  have hbne : b ≠ [] := by
    intro e
    rw [e] at hpos
    simp at hpos
  have t45 : ((c0.toNat : Int) == 45) = false := by
    simp
    intro e
    exact hn45 (UInt8.toNat_inj.1 (by simpa using (by omega : c0.toNat = 45)))
  clear hc0 hn45
  go_wp2
  go_loop [5, 6, 32] (fun p k i => ∃ (j : Nat) (pt : Int) (cn : Nat), p = .int .i64 pt ∧ k = .int .i64 cn ∧ i = .int .i64 j ∧ j ≤ b.length ∧ -1 ≤ pt ∧ pt < j ∧ cn ≤ j ∧ look (b.drop j) j pt cn = look b 0 (-1) 0) (fun _ _ i => b.length - (intOf i).toNat)
  case atStart => exact ⟨0, -1, 0, rfl, rfl, rfl, by omega, by omega, by omega, by omega, rfl⟩
  case round =>
    obtain ⟨j, pt, cn, rfl, rfl, rfl, hj, hp1, hp2, hcn, hl⟩ := hrel
    have HL := hide hl
    clear hl
    by_cases hlt : j < b.length
    · obtain ⟨c, hc, hdrop⟩ : ∃ c, b[j]? = some c ∧ b.drop j = c :: b.drop (j + 1) := ⟨b[j], by simp [hlt], List.drop_eq_getElem_cons hlt⟩
      have hat : ∀ h, (⟨b.toArray⟩ : ByteArray)[j]'h = c := by
        intro h
        have := Lib.getElem_mk b j h
        rw [hc] at this
        exact (Option.some.inj this).symm
      have hdr := hide hdrop
      clear hc hdrop
      by_cases hdig : 48 ≤ c.toNat ∧ c.toNat ≤ 57
      · have t1 : decide ((48 : Int) ≤ (c.toNat : Int)) = true := by simp; omega
        have t2 : decide ((c.toNat : Int) ≤ 57) = true := by simp; omega
        have K := hide hdig
        clear hdig
        go_wp2
        go_round
        case rel =>
          refine ⟨j + 1, pt, cn + 1, rfl, by simp, by simp, by omega, by omega, by omega, by omega, ?_⟩
          rw [← unhide HL, unhide hdr, look, if_pos (unhide K)]
        case measure => simp [intOf]; omega
      · by_cases hpt : c = 46 ∧ pt < 0
        · have t1 : decide ((48 : Int) ≤ (c.toNat : Int)) = false := by rw [hpt.1]; rfl
          have t3 : ((c.toNat : Int) == 46) = true := by rw [hpt.1]; rfl
          have t4 : decide (pt < 0) = true := by simp; omega
          have K := hide (And.intro hdig hpt)
          clear hdig hpt
          go_wp2
          go_round
          case rel =>
            refine ⟨j + 1, j, cn, rfl, rfl, by simp, by omega, by omega, by omega, by omega, ?_⟩
            rw [← unhide HL, unhide hdr, look, if_neg (unhide K).1, if_pos (unhide K).2]
          case measure => simp [intOf]; omega
        · exfalso
          have h := unhide HL
          rw [unhide hdr, look, if_neg hdig, if_neg hpt, unhide hlook] at h
          cases h
    · have hjl : j = b.length := by omega
      subst hjl
      have h := unhide HL
      rw [List.drop_length, look, unhide hlook] at h
      obtain ⟨hpt, hcn2⟩ := Prod.mk.inj (Option.some.inj h)
      subst hpt
      subst hcn2
      clear h HL hlook
      have hblen : b.length = A.length + 1 + B.length := by rw [← unhide HBE]; simp; omega
      have hexA : (⟨b.toArray⟩ : ByteArray).extract 0 A.length = ⟨A.toArray⟩ := by rw [Lib.extract_mk, ← unhide HBE]; simp
      have hexB : (⟨b.toArray⟩ : ByteArray).extract (A.length + 1) b.length = ⟨B.toArray⟩ := by
        rw [Lib.extract_mk, hblen, List.take_of_length_le (by rw [List.length_drop, hblen]; omega), ← unhide HBE]
        have e : (A ++ 46 :: B) = (A ++ [46]) ++ B := by simp
        rw [e, List.drop_left' (by simp)]
      rw [hblen] at hexB
      have tk : (((A.length : Int) + (B.length : Int)) == 0) = false := by simp; omega
      have tp : decide ((0 : Int) ≤ (A.length : Int)) = true := by simp
      go_wp2
      go_quiet (fail)
      have hAs : (⟨A.toArray⟩ : ByteArray).size = A.length := Lib.size_mk _
      have hAl : A.length ≤ 40 := by omega
      go_wp2
      go_loop [10, 73] (fun n i => ∃ (j : Nat) (v : Int), n = .int .i64 v ∧ i = .int .i64 j ∧ j ≤ A.length ∧ 0 ≤ v ∧ v ≤ 1048576 ∧ nfold (A.drop j) v = nfold A 0) (fun _ i => A.length - (intOf i).toNat)
      case atStart => exact ⟨0, 0, rfl, rfl, by omega, by omega, by omega, rfl⟩
      case round =>
        obtain ⟨j, v, rfl, rfl, hj, hv0, hv1, hn⟩ := hrel
        have HN := hide hn
        clear hn
        by_cases hlt : j < A.length
        · obtain ⟨c, hc, hdrop⟩ : ∃ c, A[j]? = some c ∧ A.drop j = c :: A.drop (j + 1) := ⟨A[j], by simp [hlt], List.drop_eq_getElem_cons hlt⟩
          have hat : ∀ h, (⟨A.toArray⟩ : ByteArray)[j]'h = c := by
            intro h
            have := Lib.getElem_mk A j h
            rw [hc] at this
            exact (Option.some.inj this).symm
          have hd := hA c (List.mem_of_getElem? hc)
          unfold isDig at hd
          have hdr := hide hdrop
          clear hc hdrop
          go_wp2
          go_round
          case rel =>
            refine ⟨j + 1, min (10 * v + ((c.toNat : Int) - 48)) 1048576, (by first | rfl | (congr 1; omega)), by simp, by omega, by omega, by omega, ?_⟩
            rw [← unhide HN, unhide hdr, nfold]
          case measure => simp [intOf]; omega
        · have hjl : j = A.length := by omega
          subst hjl
          have hn := unhide HN
          rw [List.drop_length, nfold] at hn
          have HNN := hide hn
          clear hn HN
          have hBs : (⟨B.toArray⟩ : ByteArray).size = B.length := Lib.size_mk _
          have hcv := run_bytes_of_string (P := Try.prog) (w.drewN nq) 9 39 5 ⟨B.toArray⟩ Try.underlying9 Try.underlying39 Try.underlying5
          have hby := Byts.new (w.drewN nq) B (grownCap (w.drewN nq) (⟨B.toArray⟩ : ByteArray).size 0 5) 5
          have hx2 : Ext w ((w.drewN nq).drew.alloc (.cells (bytesRow ⟨B.toArray⟩ (grownCap (w.drewN nq) (⟨B.toArray⟩ : ByteArray).size 0 5)) 5 ((bytesRow ⟨B.toArray⟩ (grownCap (w.drewN nq) (⟨B.toArray⟩ : ByteArray).size 0 5)).size, (bytesRow ⟨B.toArray⟩ (grownCap (w.drewN nq) (⟨B.toArray⟩ : ByteArray).size 0 5)).size + 1))) := (((Ext.refl w).drewN nq).drew).alloc _
          have hgs2 : w.heap.size < ((w.drewN nq).drew.alloc (.cells (bytesRow ⟨B.toArray⟩ (grownCap (w.drewN nq) (⟨B.toArray⟩ : ByteArray).size 0 5)) 5 ((bytesRow ⟨B.toArray⟩ (grownCap (w.drewN nq) (⟨B.toArray⟩ : ByteArray).size 0 5)).size, (bytesRow ⟨B.toArray⟩ (grownCap (w.drewN nq) (⟨B.toArray⟩ : ByteArray).size 0 5)).size + 1))).heap.size := by simp
          rw [hBs] at hcv hby hx2 hgs2
          generalize grownCap (w.drewN nq) B.length 0 5 = cap at *
          generalize (w.drewN nq).drew.alloc (.cells (bytesRow ⟨B.toArray⟩ cap) 5 ((bytesRow ⟨B.toArray⟩ cap).size, (bytesRow ⟨B.toArray⟩ cap).size + 1)) = w2 at *
          have H2 := hide (And.intro hby (And.intro hx2 hgs2))
          clear hby hx2 hgs2
          have hBl : B.length ≤ 40 := by first | omega | simp
          have hnB : (nums B).length = B.length := by simp [nums]
          have hdB := hide (nums_digs (l := B) hB)
          go_wp2
          go_loopw [13, 89] (fun r i wr => ∃ (j : Nat) (raw : Int) (f : List Int), r = .int .i64 raw ∧ i = .int .i64 j ∧ j ≤ 17 ∧ Byts wr w.heap.size f ∧ Dbl v (nums B) j f raw ∧ Ext w wr ∧ w.heap.size < wr.heap.size) (fun _ i _ => 17 - (intOf i).toNat)
          case atStart => exact ⟨0, v, nums B, rfl, rfl, by omega, (unhide H2).1, ⟨unhide hdB, rfl, by simp⟩, (unhide H2).2.1, (unhide H2).2.2⟩
          case round =>
            obtain ⟨j, raw, f, rfl, rfl, hj, hby, hdb, hx, hgs⟩ := hrel
            have hrb := hdb.bound (unhide hdB) ⟨hv0, hv1⟩ hj
            have hfl : f.length = B.length := hdb.2.1.trans hnB
            by_cases h17 : j < 17
            · have t17 : decide ((j : Int) < 17) = true := by simp; omega
              have HD := hide hdb
              have H3 := hide (And.intro hby (And.intro hx hgs))
              clear hby hdb hx hgs H2
              go_wp2
              go_loopw [14, 15] (fun c i wq => ∃ k : Nat, k ≤ f.length ∧ i = .int .i64 ((k : Int) - 1) ∧ c = .int .u8 (dbl (f.drop k)).2 ∧ Byts wq w.heap.size (f.take k ++ (dbl (f.drop k)).1) ∧ Ext w wq ∧ w.heap.size < wq.heap.size) (fun _ i _ => (intOf i + 1).toNat)
              case atStart =>
                obtain ⟨hby, hx, hgs⟩ := unhide H3
                refine ⟨f.length, by omega, by simp [hfl], by simp [dbl], ?_, hx, hgs⟩
                rw [List.drop_length, List.take_length]
                simpa [dbl] using hby
              case round =>
                obtain ⟨k, hk, rfl, rfl, hby, hx, hgs⟩ := hrel
                by_cases hk0 : k = 0
                · subst hk0
                  have tge : decide ((0 : Int) ≤ ((0 : Nat) : Int) - 1) = false := by decide
                  rw [List.drop_zero, List.take_zero, List.nil_append] at hby
                  rw [List.drop_zero]
                  have hcr := (dbl_facts f (unhide HD).1).2.2
                  have hc0 := hcr.1
                  have hc1 := hcr.2.1
                  clear hcr
                  have H4 := hide (And.intro hby (And.intro hx hgs))
                  clear hby hx hgs H3
                  go_wp2
                  go_roundw
                  case rel =>
                    obtain ⟨hby, hx, hgs⟩ := unhide H4
                    exact ⟨j + 1, 2 * raw + (dbl f).2, (dbl f).1, rfl, by simp, by omega, hby, (unhide HD).step, hx, hgs⟩
                  case measure => simp [intOf]; omega
                · obtain ⟨q, rfl⟩ : ∃ q, k = q + 1 := ⟨k - 1, by omega⟩
                  have hqi : (((q + 1 : Nat) : Int) - 1) = (q : Int) := by omega
                  rw [hqi]
                  have tge : decide ((0 : Int) ≤ (q : Int)) = true := by simp
                  have hqf : q < f.length := by omega
                  have hql : q < (f.take (q + 1) ++ (dbl (f.drop (q + 1))).1).length := by simp; omega
                  have hcell := hby.1 q hql
                  have hfz := hby.2 q hql
                  have hget : (f.take (q + 1) ++ (dbl (f.drop (q + 1))).1)[q] = f[q] := by
                    rw [List.getElem_append_left (by simp; omega)]
                    simp
                  rw [hget] at hcell
                  have hdq := (unhide HD).1 f[q] (List.getElem_mem hqf)
                  have hcr := (dbl_facts (f.drop (q + 1)) (fun y hy => (unhide HD).1 y (List.mem_of_mem_drop hy))).2.2
                  have hc0 := hcr.1
                  have hc1 := hcr.2.1
                  have hst := hide (hby.set q (48 + (2 * (f[q] - 48) + (dbl (f.drop (q + 1))).2) % 10) hql)
                  have hds := hide (dbl_set f q hqf)
                  have hdc := hide (dbl_carry f q hqf)
                  have H4 := hide (And.intro hx hgs)
                  clear hby hx hgs H3 hcr hget
                  generalize f[q] = x at *
                  generalize (dbl (f.drop (q + 1))).2 = cy at *
                  go_wp2
                  go_roundw
                  case rel =>
                    obtain ⟨hx, hgs⟩ := unhide H4
                    refine ⟨q, by omega, by simp, by rw [unhide hdc], ?_, below_set hx (Nat.le_of_lt hgs) _ _ _ (Nat.le_refl _), by simpa using hgs⟩
                    rw [← unhide hds]
                    exact unhide hst
                  case measure => simp [intOf]
            · have hj17 : j = 17 := by omega
              subst hj17
              have hraw := hide (hdb.done hB)
              have H4 := hide hx
              clear hby hdb hx hgs H2
              have hh : 0 ≤ (raw + 1) / 2 ∧ (raw + 1) / 2 ≤ 137439084544 := by omega
              go_wp2_with fail
              refine (refRaw_any _ _ (by unfold I64; omega)).mono ?_
              rintro e w5 ⟨rfl, rfl⟩
              go_wp2
              refine bodyPost_ret (v := .tuple #[.int .i32 (rawI (((raw + 1) / 2))), .int .i64 0]) (by simp [results, Try.results38, go_sem]) rfl ⟨?_, unhide H4⟩
              rw [unhide hraw, unhide HNN]
              rfl
end Go.Proofs.Ytgoldmohmjjngaa
