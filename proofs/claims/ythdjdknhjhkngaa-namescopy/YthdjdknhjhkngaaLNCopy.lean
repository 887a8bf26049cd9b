/-
  Proved: NamesCopy answers true for every three rows of what is done, and turns nothing that was there: a copy goes on by itself, and both are as the document says. No condition but the form's own bound on what is read.
-/
import Derived.Test.YthdjdknhjhkngaaNN
namespace Go.Proofs.Ythdjdknhjhkngaa
open Go.ChangeShapes Go.WideShapes Go.ChangeAt Go.RowKit
set_option linter.unusedVariables false
set_option linter.unusedSimpArgs false

set_option maxRecDepth 100000 in
set_option maxHeartbeats 4000000 in
theorem copy_walk (v1 v2 v3 : Value) (x1 x2 x3 : List (Int × Int)) (w : World) (r1 : ORow w v1 x1) (r2 : ORow w v2 x2) (r3 : ORow w v3 x3) :
    Calls Try.prog 4 #[v1, v2, v3] w fun e w' => e = .returned (.bool true) ∧ Ext w w' := by
  have hz := zero_ref
  go_enter Try.func4, Try.ntmps4
  go_wp2_with fail
  refine (wakes_any _).mono ?_
  rintro e w1 ⟨rfl, hx1⟩
  have HX1 := hide hx1
  have hs1 := hx1.size
  clear hx1
  go_wp2_with (first
    | (go_at_call 9; refine (new_any _).mono ?_; rintro e w2 ⟨rfl, rfl⟩)
    | refine wpList_buildTo rfl 28 _ rfl (some 20) rfl (nms .i64 nul 0) (by kernel_rfl) ?_
    | refine wpList_store_at rfl 28 (.tmp 8) (.tmp 20) rfl _ (w1.heap.size + 1) (by simp) rfl (nms .i64 nul 0) rfl 66 size_ref (nms_size _ _ _) (nms_size _ _ _) (nms_one _ _ _) ?_
    | (go_at_call 10; refine (few_some v1 x1 w _ r1).mono ?_; rintro e wf ⟨y1, ao1, cap1, rfl, hrow, hlen1, rfl⟩; have hrow1 := hide hrow; clear hrow))
  have hB0 : Blk ((w1.alloc (.cells (nms .u8 nul 0) 55)).alloc (.cells (nms .i64 nul 0) 28)) w1.heap.size (nms .u8 nul 0) 55 := (Blk.at rfl).alloc _
  have hY0 : Blk ((w1.alloc (.cells (nms .u8 nul 0) 55)).alloc (.cells (nms .i64 nul 0) 28)) (w1.heap.size + 1) (nms .i64 nul 0) 28 := Blk.at (by simp)
  have hX0 : Ext w ((w1.alloc (.cells (nms .u8 nul 0) 55)).alloc (.cells (nms .i64 nul 0) 28)) := ((unhide HX1).alloc _).alloc _
  have H0 := hide (And.intro hB0 (And.intro hY0 hX0))
  clear hB0 hY0 hX0 HX1
  go_loopw [24] (fun i wr => ∃ (k : Nat) (sA : Nat → Int) (bA : Int), k ≤ y1.length ∧ i = .int .i64 (k : Int) ∧ Sane sA bA ∧ Blk wr (w1.heap.size) (nms .u8 sA bA) 55 ∧ Blk wr (w1.heap.size + 1) (nms .i64 sA bA) 28 ∧ Ext w wr) (fun i _ => y1.length - (intOf i).toNat)
  case atStart => exact ⟨0, nul, 0, Nat.zero_le _, rfl, Sane.new, (unhide H0).1, (unhide H0).2.1, (unhide H0).2.2⟩
  case round =>
    obtain ⟨k, sA, bA, hk, rfl, hS, hB, hY, hX⟩ := hrel
    by_cases hlt : k < y1.length
    · obtain ⟨rb, ro, rfl, ck, cn⟩ := ((unhide hrow1).ext hX).at k hlt
      obtain ⟨K, hK⟩ : ∃ K, y1[k].1 = K := ⟨_, rfl⟩
      obtain ⟨N, hN⟩ : ∃ N, y1[k].2 = N := ⟨_, rfl⟩
      rw [hK] at ck
      rw [hN] at cn
      have hlB := hB.lt
      have hlY := hY.lt
      have hkn : (k : Int) < (y1.length : Int) := by omega
      have H := hide (And.intro hB (And.intro hY (hX)))
      have HS := hide hS
      clear hB hY hX hK hN hS 
      go_wp2_with fail
      refine (does_any (w1.heap.size) (w1.heap.size + 1) sA bA K N _ (unhide HS) ((unhide H).1.alloc _) ((unhide H).2.1.alloc _) (by omega)).mono ?_
      rintro e w3 ⟨rfl, hb3, hy3, ht3⟩
      have ht4 : Tw (w1.heap.size) (w1.heap.size + 1) wr w3 := (Tw.ext ((Ext.refl wr).alloc _)).trans ht3
      have hST := (unhide HS).op K N
      generalize opS sA K N = s3 at *
      generalize opB bA K N = b3 at *
      have HS3 := hide hST
      have H3 := hide (And.intro hb3 (And.intro hy3 ht4))
      clear hb3 hy3 ht3 ht4 ck cn hST
      go_wp2
      go_roundw
      case rel => exact ⟨k + 1, s3, b3, by omega, by go_num, unhide HS3, (unhide H3).1, (unhide H3).2.1, Ext.tw (unhide H).2.2 (unhide H3).2.2 (by omega) (by omega)⟩
      case measure => simp [intOf]; omega
    · obtain rfl : k = y1.length := by omega
      have HEA := hide (And.intro hS (And.intro hB (And.intro hY (hX))))
      have hlB := hB.lt
      have hlY := hY.lt
      clear hS hB hY hX 
      clear hk hlt H0
      go_wp2_with (first
        | (go_at_call 14; refine (copy_any w1.heap.size sA bA _ (unhide HEA).2.1).mono ?_; rintro e w4 ⟨rfl, rfl⟩)
        | refine wpList_load_row rfl 28 (.tmp 8) rfl (w1.heap.size + 1) rfl 28 (nms .i64 sA bA) (0, 0) _ ((unhide HEA).2.2.1.alloc _) Try.underlying28 rfl (by rw [nms_size]; exact size_ref) ?_
        | refine wpList_store_at rfl 28 (.tmp 12) (.tmp 35) rfl _ (wr.heap.size + 1) (by simp) rfl (nms .i64 sA bA) rfl 66 size_ref (nms_size _ _ _) (nms_size _ _ _) (nms_one _ _ _) ?_
        | (go_at_call 10; refine (few_some v2 x2 w _ r2).mono ?_; rintro e wf ⟨y2, ao2, cap2, rfl, hrow, hlen2, rfl⟩; have hrow2 := hide hrow; clear hrow))
      have g1 := ((unhide HEA).2.1.alloc (.cells (nms .u8 sA bA) 55)).alloc (.cells (nms .i64 sA bA) 28)
      have g2 := ((unhide HEA).2.2.1.alloc (.cells (nms .u8 sA bA) 55)).alloc (.cells (nms .i64 sA bA) 28)
      have g3 : Blk ((wr.alloc (.cells (nms .u8 sA bA) 55)).alloc (.cells (nms .i64 sA bA) 28)) wr.heap.size (nms .u8 sA bA) 55 := (Blk.at rfl).alloc _
      have g4 : Blk ((wr.alloc (.cells (nms .u8 sA bA) 55)).alloc (.cells (nms .i64 sA bA) 28)) (wr.heap.size + 1) (nms .i64 sA bA) 28 := Blk.at (by simp)
      have g5 := ((unhide HEA).2.2.2.alloc (.cells (nms .u8 sA bA) 55)).alloc (.cells (nms .i64 sA bA) 28)
      have hSA := (unhide HEA).1
      generalize ((wr.alloc (.cells (nms .u8 sA bA) 55)).alloc (.cells (nms .i64 sA bA) 28)) = W2 at g1 g2 g3 g4 g5 ⊢
      generalize wr.heap.size = C at g3 g4 hlB hlY ⊢
      have hC : w1.heap.size + 1 < C := hlY
      have G := hide (And.intro g1 (And.intro g2 (And.intro g3 (And.intro g4 g5))))
      have HSA := hide hSA
      clear g1 g2 g3 g4 g5 hSA HEA hlB hlY
      go_loopw [41] (fun i wr => ∃ (k : Nat) (sB : Nat → Int) (bB : Int), k ≤ y2.length ∧ i = .int .i64 (k : Int) ∧ Sane sB bB ∧ Blk wr (w1.heap.size) (nms .u8 sB bB) 55 ∧ Blk wr (w1.heap.size + 1) (nms .i64 sB bB) 28 ∧ Ext w wr ∧ Blk wr (C) (nms .u8 sA bA) 55 ∧ Blk wr (C + 1) (nms .i64 sA bA) 28) (fun i _ => y2.length - (intOf i).toNat)
      case atStart => exact ⟨0, sA, bA, Nat.zero_le _, rfl, unhide HSA, (unhide G).1, (unhide G).2.1, (unhide G).2.2.2.2, (unhide G).2.2.1, (unhide G).2.2.2.1⟩
      case round =>
        obtain ⟨k, sB, bB, hk, rfl, hS, hB, hY, hX, ho0, ho1⟩ := hrel
        by_cases hlt : k < y2.length
        · obtain ⟨rb, ro, rfl, ck, cn⟩ := ((unhide hrow2).ext hX).at k hlt
          obtain ⟨K, hK⟩ : ∃ K, y2[k].1 = K := ⟨_, rfl⟩
          obtain ⟨N, hN⟩ : ∃ N, y2[k].2 = N := ⟨_, rfl⟩
          rw [hK] at ck
          rw [hN] at cn
          have hlB := hB.lt
          have hlY := hY.lt
          have hkn : (k : Int) < (y2.length : Int) := by omega
          have H := hide (And.intro hB (And.intro hY (And.intro hX (And.intro ho0 (ho1)))))
          have HS := hide hS
          clear hB hY hX hK hN hS ho0 ho1
          go_wp2_with fail
          refine (does_any (w1.heap.size) (w1.heap.size + 1) sB bB K N _ (unhide HS) ((unhide H).1.alloc _) ((unhide H).2.1.alloc _) (by omega)).mono ?_
          rintro e w3 ⟨rfl, hb3, hy3, ht3⟩
          have ht4 : Tw (w1.heap.size) (w1.heap.size + 1) wr w3 := (Tw.ext ((Ext.refl wr).alloc _)).trans ht3
          have hST := (unhide HS).op K N
          generalize opS sB K N = s3 at *
          generalize opB bB K N = b3 at *
          have HS3 := hide hST
          have H3 := hide (And.intro hb3 (And.intro hy3 ht4))
          clear hb3 hy3 ht3 ht4 ck cn hST
          go_wp2
          go_roundw
          case rel => exact ⟨k + 1, s3, b3, by omega, by go_num, unhide HS3, (unhide H3).1, (unhide H3).2.1, Ext.tw (unhide H).2.2.1 (unhide H3).2.2 (by omega) (by omega), (unhide H3).2.2.blk (unhide H).2.2.2.1 (by omega) (by omega), (unhide H3).2.2.blk (unhide H).2.2.2.2 (by omega) (by omega)⟩
          case measure => simp [intOf]; omega
        · obtain rfl : k = y2.length := by omega
          have HEB := hide (And.intro hS (And.intro hB (And.intro hY (And.intro hX (And.intro ho0 (ho1))))))
          have hlB := hB.lt
          have hlY := hY.lt
          clear hS hB hY hX ho0 ho1
          clear hk hlt G
          go_wp2_with (first
            | (go_at_call 10; refine (few_some v3 x3 w _ r3).mono ?_; rintro e wf ⟨y3, ao3, cap3, rfl, hrow, hlen3, rfl⟩; have hrow3 := hide hrow; clear hrow))
          go_loopw [53] (fun i wr => ∃ (k : Nat) (sC : Nat → Int) (bC : Int), k ≤ y3.length ∧ i = .int .i64 (k : Int) ∧ Sane sC bC ∧ Blk wr (C) (nms .u8 sC bC) 55 ∧ Blk wr (C + 1) (nms .i64 sC bC) 28 ∧ Ext w wr ∧ Blk wr (w1.heap.size) (nms .u8 sB bB) 55 ∧ Blk wr (w1.heap.size + 1) (nms .i64 sB bB) 28) (fun i _ => y3.length - (intOf i).toNat)
          case atStart => exact ⟨0, sA, bA, Nat.zero_le _, rfl, unhide HSA, (unhide HEB).2.2.2.2.1, (unhide HEB).2.2.2.2.2, (unhide HEB).2.2.2.1, (unhide HEB).2.1, (unhide HEB).2.2.1⟩
          case round =>
            obtain ⟨k, sC, bC, hk, rfl, hS, hB, hY, hX, ho0, ho1⟩ := hrel
            by_cases hlt : k < y3.length
            · obtain ⟨rb, ro, rfl, ck, cn⟩ := ((unhide hrow3).ext hX).at k hlt
              obtain ⟨K, hK⟩ : ∃ K, y3[k].1 = K := ⟨_, rfl⟩
              obtain ⟨N, hN⟩ : ∃ N, y3[k].2 = N := ⟨_, rfl⟩
              rw [hK] at ck
              rw [hN] at cn
              have hlB := hB.lt
              have hlY := hY.lt
              have hkn : (k : Int) < (y3.length : Int) := by omega
              have H := hide (And.intro hB (And.intro hY (And.intro hX (And.intro ho0 (ho1)))))
              have HS := hide hS
              clear hB hY hX hK hN hS ho0 ho1
              go_wp2_with fail
              refine (does_any (C) (C + 1) sC bC K N _ (unhide HS) ((unhide H).1.alloc _) ((unhide H).2.1.alloc _) (by omega)).mono ?_
              rintro e w3 ⟨rfl, hb3, hy3, ht3⟩
              have ht4 : Tw (C) (C + 1) wr w3 := (Tw.ext ((Ext.refl wr).alloc _)).trans ht3
              have hST := (unhide HS).op K N
              generalize opS sC K N = s3 at *
              generalize opB bC K N = b3 at *
              have HS3 := hide hST
              have H3 := hide (And.intro hb3 (And.intro hy3 ht4))
              clear hb3 hy3 ht3 ht4 ck cn hST
              go_wp2
              go_roundw
              case rel => exact ⟨k + 1, s3, b3, by omega, by go_num, unhide HS3, (unhide H3).1, (unhide H3).2.1, Ext.tw (unhide H).2.2.1 (unhide H3).2.2 (by omega) (by omega), (unhide H3).2.2.blk (unhide H).2.2.2.1 (by omega) (by omega), (unhide H3).2.2.blk (unhide H).2.2.2.2 (by omega) (by omega)⟩
              case measure => simp [intOf]; omega
            · obtain rfl : k = y3.length := by omega
              have HEC := hide (And.intro hS (And.intro hB (And.intro hY (And.intro hX (And.intro ho0 (ho1))))))
              have hlB := hB.lt
              have hlY := hY.lt
              clear hS hB hY hX ho0 ho1
              clear hk hlt
              go_wp2_with (refine wpList_load_row rfl 28 (.tmp 8) rfl (w1.heap.size + 1) rfl 28 (nms .i64 sB bB) (0, 0) _ ((unhide HEC).2.2.2.2.2) Try.underlying28 rfl (by rw [nms_size]; exact size_ref) ?_)
              refine (agree_any w1.heap.size sB bB _ (unhide HEB).1 (unhide HEC).2.2.2.2.1).mono ?_
              rintro e w7 ⟨rfl, hx7⟩
              have HX7 := hide hx7
              clear hx7
              go_wp2_with (refine wpList_load_row_want (by rfl) 28 (.tmp 12) rfl (C + 1) rfl 28 (nms .i64 sC bC) (0, 0) _ ((unhide HEC).2.2.1.ext (unhide HX7)) Try.underlying28 rfl (by rw [nms_size]; exact size_ref) ?_)
              refine (agree_any C sC bC _ (unhide HEC).1 ((unhide HEC).2.1.ext (unhide HX7))).mono ?_
              rintro e w8 ⟨rfl, hx8⟩
              have HX8 := hide hx8
              clear hx8
              go_wp2
              go_ret
              exact ⟨rfl, ((unhide HEC).2.2.2.1.trans (unhide HX7)).trans (unhide HX8)⟩

theorem copy_owes (H : Type) (enc : TypeId × Value → H) (W : World) (base : Nat) (args : Array Value) (ds : List (DataW H)) (p : List MemPlace) : Owes H enc Try.prog 4 Try.f4 Rows.namesCopySpec W base args ds p := by
  intro hval hA hsz
  rw [Try.params4] at hA hval hsz
  obtain ⟨v0, vs0, d0, ds0, p0, q0, hargs, rfl, rfl, h0, r0⟩ := trodAll_cons hA
  obtain ⟨v1, vs1, d1, ds1, p1, q1, rfl, rfl, rfl, h1, r1⟩ := trodAll_cons r0
  obtain ⟨v2, vs2, d2, ds2, p2, q2, rfl, rfl, rfl, h2, r2⟩ := trodAll_cons r1
  obtain ⟨rfl, rfl, rfl⟩ := trodAll_nil r2
  obtain rfl : args = #[v0, v1, v2] := by cases args; simp_all
  obtain ⟨x0, row0⟩ := open_ops (hval 0 22 v0 rfl rfl) h0
  obtain ⟨x1, row1⟩ := open_ops (hval 1 22 v1 rfl rfl) h1
  obtain ⟨x2, row2⟩ := open_ops (hval 2 22 v2 rfl rfl) h2
  exact ⟨⟨rfl, rfl, rfl⟩, copy_walk v0 v1 v2 x0 x1 x2 W row0 row1 row2⟩

set_option maxRecDepth 100000 in
theorem copy_lifted (os : Os) (started : os.Started) (H : Type) (enc : TypeId × Value → H) :
    ReturnsInHanded {} Try.checked os 4 .any (Rows.namesCopySpec.pre6 enc Try.prog Try.f4 [] false) (Rows.namesCopySpec.post enc Try.prog Try.f4 false true false false) :=
  lift_law (C := Try.checked) own laidOut started (by kernel_rfl) Try.func4 (T := 4) rfl Try.underlying4 rfl (by kernel_rfl)
    (ChangeSpec.witness6 (enc := enc) (C := Try.checked) false ⟨#[], #[.slice none 0 0, .slice none 0 0, .slice none 0 0], []⟩ 8 (by kernel_rfl) (by kernel_rfl) (by kernel_rfl) (by kernel_rfl)) (copy_owes H enc)

theorem namesCopy_holds : Rows.NamesCopySaid :=
  OpenClaim.holds_of_wide 4 Try.f4 rfl rfl rfl rfl rfl rfl rfl ⟨rfl, rfl, rfl, rfl, rfl⟩ rfl rfl rfl rfl rfl (by kernel_rfl) Try.func4 (by kernel_rfl)
    (of_decide_eq_true (by kernel_rfl)) (by unfold Func.isWrapper; rw [if_neg (of_decide_eq_false (by kernel_rfl))]; exact ⟨rfl, rfl⟩)
    (fun os started H enc _ => copy_lifted os started H enc)
#print axioms namesCopy_holds
end Go.Proofs.Ythdjdknhjhkngaa
