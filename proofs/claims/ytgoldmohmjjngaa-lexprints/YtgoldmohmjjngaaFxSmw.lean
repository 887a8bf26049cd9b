/-
  The walk of the document's Parse at a number's text: with a minus, without a point.
-/
import Derived.Test.YtgoldmohmjjngaaFxC
import Derived.Test.YtgoldmohmjjngaaFxT
import Derived.Deep.QuietTactic
import Derived.BigQuiet
namespace Go.Proofs.Ytgoldmohmjjngaa
open Go.RowKit
set_option linter.unusedSimpArgs false
set_option linter.unusedVariables false

set_option maxHeartbeats 4000000 in
theorem refParse_mw (b : List UInt8) (w : World) (hA : ∀ c ∈ b, isDig c) (hk : b ≠ []) (hlen : (45 :: (b)).length ≤ 40) :
    Calls Try.prog 38 #[.string ⟨((45 :: (b)) : List UInt8).toArray⟩] w fun e w' => e = .returned (.tuple #[.int .i32 (rawI (-rawHalf b ([] : List UInt8))), .int .i64 0]) ∧ Ext w w' := by
  have hlook : Hid (look (b) 0 (-1) 0 = some (-1, b.length)) := by
    show _ = _
    have h := look_digs b [] 0 (-1) 0 hA
    rw [List.append_nil] at h
    rw [h]
    simp [look]
  have hbl : (b).length ≤ 40 := by simp at hlen ⊢; omega
  have hbs : (⟨(b).toArray⟩ : ByteArray).size = (b).length := Lib.size_mk _
  have hls : (⟨((45 :: (b)) : List UInt8).toArray⟩ : ByteArray).size = ((45 :: (b)) : List UInt8).length := Lib.size_mk _
  go_enter Try.func38, Try.ntmps38
  have h40 : ((b.length : Int) + 1) ≤ 40 := by simp at hlen; omega
  have hcut : (⟨(45 :: b).toArray⟩ : ByteArray).extract 1 (b.length + 1) = ⟨b.toArray⟩ := by rw [Lib.extract_mk, List.take_of_length_le (by simp)]; rfl
  have hat0 : ∀ h, (⟨(45 :: b).toArray⟩ : ByteArray)[0]'h = 45 := fun h => rfl
  clear hlen
  go_wp2
  go_loop [5, 6, 32] (fun p k i => ∃ (j : Nat) (pt : Int) (cn : Nat), p = .int .i64 pt ∧ k = .int .i64 cn ∧ i = .int .i64 j ∧ j ≤ b.length ∧ -1 ≤ pt ∧ pt < j ∧ cn ≤ j ∧ look (b.drop j) j pt cn = look b 0 (-1) 0) (fun _ _ i => b.length - (intOf i).toNat)
  case atStart => exact ⟨0, -1, 0, rfl, rfl, rfl, by omega, by omega, by omega, by omega, rfl⟩
  case round =>
    obtain ⟨j, pt, cn, rfl, rfl, rfl, hj, hp1, hp2, hcn, hl⟩ := hrel
    have HL := hide hl
    clear hl
    by_cases hlt : j < b.length
    · obtain ⟨c, hc, hdrop⟩ : ∃ c, b[j]? = some c ∧ b.drop j = c :: b.drop (j + 1) := ⟨b[j], by simp [hlt], List.drop_eq_getElem_cons hlt⟩
      have hat : ∀ h, (⟨b.toArray⟩ : ByteArray)[j]'h = c := by
        intro h
        have := Lib.getElem_mk b j h
        rw [hc] at this
        exact (Option.some.inj this).symm
      have hdr := hide hdrop
      clear hc hdrop
      by_cases hdig : 48 ≤ c.toNat ∧ c.toNat ≤ 57
      · have t1 : decide ((48 : Int) ≤ (c.toNat : Int)) = true := by simp; omega
        have t2 : decide ((c.toNat : Int) ≤ 57) = true := by simp; omega
        have K := hide hdig
        clear hdig
        go_wp2
        go_round
        case rel =>
          refine ⟨j + 1, pt, cn + 1, rfl, by simp, by simp, by omega, by omega, by omega, by omega, ?_⟩
          rw [← unhide HL, unhide hdr, look, if_pos (unhide K)]
        case measure => simp [intOf]; omega
      · by_cases hpt : c = 46 ∧ pt < 0
        · have t1 : decide ((48 : Int) ≤ (c.toNat : Int)) = false := by rw [hpt.1]; rfl
          have t3 : ((c.toNat : Int) == 46) = true := by rw [hpt.1]; rfl
          have t4 : decide (pt < 0) = true := by simp; omega
          have K := hide (And.intro hdig hpt)
          clear hdig hpt
          go_wp2
          go_round
          case rel =>
            refine ⟨j + 1, j, cn, rfl, rfl, by simp, by omega, by omega, by omega, by omega, ?_⟩
            rw [← unhide HL, unhide hdr, look, if_neg (unhide K).1, if_pos (unhide K).2]
          case measure => simp [intOf]; omega
        · exfalso
          have h := unhide HL
          rw [unhide hdr, look, if_neg hdig, if_neg hpt, unhide hlook] at h
          cases h
    · have hjl : j = b.length := by omega
      subst hjl
      have h := unhide HL
      rw [List.drop_length, look, unhide hlook] at h
      obtain ⟨hpt, hcn2⟩ := Prod.mk.inj (Option.some.inj h)
      subst hpt
      subst hcn2
      clear h HL hlook
      have tk : ((b.length : Int) == 0) = false := by simpa using hk
      have hAs : (⟨b.toArray⟩ : ByteArray).size = b.length := Lib.size_mk _
      have hAl : b.length ≤ 40 := by omega
      go_wp2
      go_loop [10, 73] (fun n i => ∃ (j : Nat) (v : Int), n = .int .i64 v ∧ i = .int .i64 j ∧ j ≤ b.length ∧ 0 ≤ v ∧ v ≤ 1048576 ∧ nfold (b.drop j) v = nfold b 0) (fun _ i => b.length - (intOf i).toNat)
      case atStart => exact ⟨0, 0, rfl, rfl, by omega, by omega, by omega, rfl⟩
      case round =>
        obtain ⟨j, v, rfl, rfl, hj, hv0, hv1, hn⟩ := hrel
        have HN := hide hn
        clear hn
        by_cases hlt : j < b.length
        · obtain ⟨c, hc, hdrop⟩ : ∃ c, b[j]? = some c ∧ b.drop j = c :: b.drop (j + 1) := ⟨b[j], by simp [hlt], List.drop_eq_getElem_cons hlt⟩
          have hat : ∀ h, (⟨b.toArray⟩ : ByteArray)[j]'h = c := by
            intro h
            have := Lib.getElem_mk b j h
            rw [hc] at this
            exact (Option.some.inj this).symm
          have hd := hA c (List.mem_of_getElem? hc)
          unfold isDig at hd
          have hdr := hide hdrop
          clear hc hdrop
          go_wp2
          go_round
          case rel =>
            refine ⟨j + 1, min (10 * v + ((c.toNat : Int) - 48)) 1048576, (by first | rfl | (congr 1; omega)), by simp, by omega, by omega, by omega, ?_⟩
            rw [← unhide HN, unhide hdr, nfold]
          case measure => simp [intOf]; omega
        · have hjl : j = b.length := by omega
          subst hjl
          have hn := unhide HN
          rw [List.drop_length, nfold] at hn
          have HNN := hide hn
          clear hn HN
          have hBs : (⟨([] : List UInt8).toArray⟩ : ByteArray).size = ([] : List UInt8).length := Lib.size_mk _
          have hcv := run_bytes_of_string (P := Try.prog) w 9 39 5 ⟨([] : List UInt8).toArray⟩ Try.underlying9 Try.underlying39 Try.underlying5
          have hby := Byts.new w ([] : List UInt8) (grownCap w (⟨([] : List UInt8).toArray⟩ : ByteArray).size 0 5) 5
          have hx2 : Ext w (w.drew.alloc (.cells (bytesRow ⟨([] : List UInt8).toArray⟩ (grownCap w (⟨([] : List UInt8).toArray⟩ : ByteArray).size 0 5)) 5 ((bytesRow ⟨([] : List UInt8).toArray⟩ (grownCap w (⟨([] : List UInt8).toArray⟩ : ByteArray).size 0 5)).size, (bytesRow ⟨([] : List UInt8).toArray⟩ (grownCap w (⟨([] : List UInt8).toArray⟩ : ByteArray).size 0 5)).size + 1))) := ((Ext.refl w).drew).alloc _
          have hgs2 : w.heap.size < (w.drew.alloc (.cells (bytesRow ⟨([] : List UInt8).toArray⟩ (grownCap w (⟨([] : List UInt8).toArray⟩ : ByteArray).size 0 5)) 5 ((bytesRow ⟨([] : List UInt8).toArray⟩ (grownCap w (⟨([] : List UInt8).toArray⟩ : ByteArray).size 0 5)).size, (bytesRow ⟨([] : List UInt8).toArray⟩ (grownCap w (⟨([] : List UInt8).toArray⟩ : ByteArray).size 0 5)).size + 1))).heap.size := by simp
          rw [hBs] at hcv hby hx2 hgs2
          generalize grownCap w ([] : List UInt8).length 0 5 = cap at *
          generalize w.drew.alloc (.cells (bytesRow ⟨([] : List UInt8).toArray⟩ cap) 5 ((bytesRow ⟨([] : List UInt8).toArray⟩ cap).size, (bytesRow ⟨([] : List UInt8).toArray⟩ cap).size + 1)) = w2 at *
          have H2 := hide (And.intro hby (And.intro hx2 hgs2))
          clear hby hx2 hgs2
          have hBl : ([] : List UInt8).length ≤ 40 := by first | omega | simp
          have hnB : (nums ([] : List UInt8)).length = ([] : List UInt8).length := by simp [nums]
          have hdB := hide (nums_digs (l := ([] : List UInt8)) (fun c hc => by cases hc))
          go_wp2
          go_loopw [13, 89] (fun r i wr => ∃ (j : Nat) (raw : Int) (f : List Int), r = .int .i64 raw ∧ i = .int .i64 j ∧ j ≤ 17 ∧ Byts wr w.heap.size f ∧ Dbl v (nums ([] : List UInt8)) j f raw ∧ Ext w wr ∧ w.heap.size < wr.heap.size) (fun _ i _ => 17 - (intOf i).toNat)
          case atStart => exact ⟨0, v, nums ([] : List UInt8), rfl, rfl, by omega, (unhide H2).1, ⟨unhide hdB, rfl, by simp⟩, (unhide H2).2.1, (unhide H2).2.2⟩
          case round =>
            obtain ⟨j, raw, f, rfl, rfl, hj, hby, hdb, hx, hgs⟩ := hrel
            have hrb := hdb.bound (unhide hdB) ⟨hv0, hv1⟩ hj
            have hfl : f.length = ([] : List UInt8).length := hdb.2.1.trans hnB
            by_cases h17 : j < 17
            · have t17 : decide ((j : Int) < 17) = true := by simp; omega
              have HD := hide hdb
              have H3 := hide (And.intro hby (And.intro hx hgs))
              clear hby hdb hx hgs H2
              go_wp2
              go_loopw [14, 15] (fun c i wq => ∃ k : Nat, k ≤ f.length ∧ i = .int .i64 ((k : Int) - 1) ∧ c = .int .u8 (dbl (f.drop k)).2 ∧ Byts wq w.heap.size (f.take k ++ (dbl (f.drop k)).1) ∧ Ext w wq ∧ w.heap.size < wq.heap.size) (fun _ i _ => (intOf i + 1).toNat)
              case atStart =>
                obtain ⟨hby, hx, hgs⟩ := unhide H3
                refine ⟨f.length, by omega, by simp [hfl], by simp [dbl], ?_, hx, hgs⟩
                rw [List.drop_length, List.take_length]
                simpa [dbl] using hby
              case round =>
                obtain ⟨k, hk, rfl, rfl, hby, hx, hgs⟩ := hrel
                by_cases hk0 : k = 0
                · subst hk0
                  have tge : decide ((0 : Int) ≤ ((0 : Nat) : Int) - 1) = false := by decide
                  rw [List.drop_zero, List.take_zero, List.nil_append] at hby
                  rw [List.drop_zero]
                  have hcr := (dbl_facts f (unhide HD).1).2.2
                  have hc0 := hcr.1
                  have hc1 := hcr.2.1
                  clear hcr
                  have H4 := hide (And.intro hby (And.intro hx hgs))
                  clear hby hx hgs H3
                  go_wp2
                  go_roundw
                  case rel =>
                    obtain ⟨hby, hx, hgs⟩ := unhide H4
                    exact ⟨j + 1, 2 * raw + (dbl f).2, (dbl f).1, rfl, by simp, by omega, hby, (unhide HD).step, hx, hgs⟩
                  case measure => simp [intOf]; omega
                · exfalso
                  have e0 : f.length = 0 := hfl
                  omega
            · have hj17 : j = 17 := by omega
              subst hj17
              have hraw := hide (hdb.done (fun c hc => by cases hc))
              have H4 := hide hx
              clear hby hdb hx hgs H2
              have hh : 0 ≤ (raw + 1) / 2 ∧ (raw + 1) / 2 ≤ 137439084544 := by omega
              go_wp2_with fail
              refine (refRaw_any _ _ (by unfold I64; omega)).mono ?_
              rintro e w5 ⟨rfl, rfl⟩
              go_wp2
              refine bodyPost_ret (v := .tuple #[.int .i32 (rawI (-((raw + 1) / 2))), .int .i64 0]) (by simp [results, Try.results38, go_sem]) rfl ⟨?_, unhide H4⟩
              rw [unhide hraw, unhide HNN]
              rfl
end Go.Proofs.Ytgoldmohmjjngaa
