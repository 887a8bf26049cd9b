/-
  Whether names are as the document says: the walk of agree; does, whatever is done.
-/
import Derived.Test.YthdjdknhjhkngaaNKb
import Derived.Test.YthdjdknhjhkngaaNKd
import Derived.Test.YthdjdknhjhkngaaNKg
namespace Go.Proofs.Ythdjdknhjhkngaa
open Go.RowKit
set_option linter.unusedVariables false
set_option linter.unusedSimpArgs false

theorem does_any (B Y : Nat) (s : Nat → Int) (b K N : Int) (w : World) (hS : Sane s b) (hb : Blk w B (nms .u8 s b) 55) (hy : Blk w Y (nms .i64 s b) 28) (hne : B ≠ Y) :
    Calls Try.prog 11 #[.pointer (some ⟨B, 0, none⟩), .pointer (some ⟨Y, 0, none⟩), .agg #[.int .i64 K, .int .i64 N]] w fun e w' => e = .returned (.bool true) ∧
      Blk w' B (nms .u8 (opS s K N) (opB b K N)) 55 ∧ Blk w' Y (nms .i64 (opS s K N) (opB b K N)) 28 ∧ Tw B Y w w' := by
  have hk3 : kindI K = 0 ∨ kindI K = 1 ∨ kindI K = 2 := by unfold kindI; split <;> (try split) <;> omega
  unfold opS opB
  rcases hk3 with hk | hk | hk
  · rw [if_pos hk, if_pos hk]
    exact does_gen B Y s b K N w hS hb hy hne hk
  · rw [if_neg (by omega), if_pos hk, if_neg (by omega), if_pos hk]
    exact does_bind B Y s b K N w hS hb hy hne hk
  · rw [if_neg (by omega), if_neg (by omega), if_neg (by omega), if_neg (by omega)]
    exact does_del B Y s b K N w hS hb hy hne hk

set_option maxRecDepth 100000 in
set_option maxHeartbeats 4000000 in
theorem agree_any (B : Nat) (s : Nat → Int) (b : Int) (w : World) (hS : Sane s b) (hb : Blk w B (nms .u8 s b) 55) :
    Calls Try.prog 12 #[.pointer (some ⟨B, 0, none⟩), .agg (nms .i64 s b)] w fun e w' => e = .returned (.bool true) ∧ Ext w w' := by
  go_enter Try.func12, Try.ntmps12
  have hl := hb.lt
  have HB := hide hb
  clear hb
  go_upto_region 1 with fail
  have hb0 := (unhide HB).alloc (.cells (nms .i64 s b) 28)
  have hr0 : Blk (w.alloc (.cells (nms .i64 s b) 28)) w.heap.size (nms .i64 s b) 28 := Blk.at rfl
  have hx0 : Ext w (w.alloc (.cells (nms .i64 s b) 28)) := (Ext.refl w).alloc _
  generalize w.alloc (.cells (nms .i64 s b) 28) = W0 at hb0 hr0 hx0 ⊢
  have HS := hide (And.intro hb0 hr0)
  have HX := hide hx0
  clear hb0 hr0 hx0 HB
  have hbb : (b != b) = false := by simp
  refine wp_region_noPanic ?_
  refine wp_region_held_drew (S := fun w' => Blk w' B (nms .u8 s b) 55 ∧ Blk w' w.heap.size (nms .i64 s b) 28) (by kernel_rfl) (unhide HS) (fun hHeld => ?_)
  refine wpAnyH_take (i := 0) (oi := { dst := some 7, op := Op.move (Operand.tmp 0), type := 24, pos := _, after := #[], guard := none }) (v := .pointer (some ⟨B, 0, none⟩)) rfl (by kernel_rfl) (by kernel_rfl) (by kernel_rfl) (fun _ _ _ h => h) (Or.inl ⟨by rfl, fun _ _ => rfl⟩) hHeld ?_
  try simp only [Act.put, List.setIfInBounds_toArray, List.set_cons_zero, List.set_cons_succ]
  refine wpAnyH_take (i := 2) (oi := { dst := some 9, op := Op.fieldAddr 28 (Operand.tmp 3) 1, type := 0, pos := _, after := #[], guard := none }) (v := .pointer (some ⟨w.heap.size, 65, none⟩)) rfl (by kernel_rfl) (by kernel_rfl) (by kernel_rfl) (fun _ _ _ h => h) (Or.inl ⟨by rfl, fun _ _ => rfl⟩) hHeld ?_
  try simp only [Act.put, List.setIfInBounds_toArray, List.set_cons_zero, List.set_cons_succ]
  refine wpAnyH_take (i := 3) (oi := { dst := some 10, op := Op.load 3 (Operand.tmp 9), type := 3, pos := _, after := #[{ on := 2, ground := Ground.data }], guard := none }) (v := .int .i64 b) rfl (by kernel_rfl) (by kernel_rfl) (by kernel_rfl) (fun _ _ _ h => h) (Or.inl ⟨by rfl, fun w' h => by have c : w'.cell? ⟨w.heap.size, 65, none⟩ = some (.int .i64 b) := h.2.cell (nms_bound .i64 s b); go_simp⟩) hHeld ?_
  try simp only [Act.put, List.setIfInBounds_toArray, List.set_cons_zero, List.set_cons_succ]
  refine wpAnyH_ready (rs := [1]) (by kernel_rfl) (by simp) (AllReadyH.cons (o := { dst := some 8, op := Op.call { callee := Callee.value (Operand.func 18), args := #[Operand.tmp 7], argTypes := #[24] }, type := 3, pos := _, after := #[{ on := 0, ground := Ground.data }], guard := none }) rfl (fun KK hK => ?_) AllReadyH.nil)
  go_simp
  refine (bound_any B s b _ hHeld.1).mono ?_
  rintro e w3 ⟨rfl, rfl⟩
  refine hK.out _ _ hHeld (fun _ => ?_)
  clear hK KK
  try simp only [Act.put, List.setIfInBounds_toArray, List.set_cons_zero, List.set_cons_succ]
  refine wpAnyH_take (i := 4) (oi := { dst := some 11, op := Op.binOp BinOp.neq 3 (Operand.tmp 8) (Operand.tmp 10) 3, type := 4, pos := _, after := #[{ on := 1, ground := Ground.data }, { on := 3, ground := Ground.data }], guard := none }) (v := .bool false) rfl (by kernel_rfl) (by kernel_rfl) (by kernel_rfl) (fun _ _ _ h => h) (Or.inl ⟨by rfl, fun w' h => by go_simp⟩) hHeld ?_
  try simp only [Act.put, List.setIfInBounds_toArray, List.set_cons_zero, List.set_cons_succ]
  refine wpAnyH_take (i := 5) (oi := { dst := some 12, op := Op.move (Operand.tmp 11), type := 4, pos := _, after := #[{ on := 4, ground := Ground.data }, { on := 1, ground := Ground.chain }], guard := none }) (v := .bool false) rfl (by kernel_rfl) (by kernel_rfl) (by kernel_rfl) (fun _ _ _ h => h) (Or.inl ⟨by rfl, fun _ _ => rfl⟩) hHeld ?_
  try simp only [Act.put, List.setIfInBounds_toArray, List.set_cons_zero, List.set_cons_succ]
  refine wpAnyH_take (i := 6) (oi := { dst := some 13, op := Op.move (Operand.tmp 0), type := 24, pos := _, after := #[{ on := 5, ground := Ground.guard }], guard := some (5, false) }) (v := .pointer (some ⟨B, 0, none⟩)) rfl (by kernel_rfl) (by kernel_rfl) (by kernel_rfl) (fun _ _ _ h => h) (Or.inl ⟨by rfl, fun _ _ => rfl⟩) hHeld ?_
  try simp only [Act.put, List.setIfInBounds_toArray, List.set_cons_zero, List.set_cons_succ]
  refine wpAnyH_take (i := 8) (oi := { dst := some 15, op := Op.load 28 (Operand.tmp 3), type := 28, pos := _, after := #[{ on := 5, ground := Ground.guard }], guard := some (5, false) }) (v := .agg (nms .i64 s b)) rfl (by kernel_rfl) (by kernel_rfl) (by kernel_rfl) (fun _ _ _ h => h) (yieldsIf_load_mid (by rfl) 28 (.tmp 3) rfl w.heap.size 0 rfl (nms .i64 s b).toList _ (fun w' h => nms_rangeW h.2) Try.underlying28 rfl (by rw [Array.length_toList, nms_size]; exact size_ref)) hHeld ?_
  try simp only [Act.put, List.setIfInBounds_toArray, List.set_cons_zero, List.set_cons_succ]
  refine wpAnyH_ready (rs := [7]) (by kernel_rfl) (by simp) (AllReadyH.cons (o := { dst := some 14, op := Op.call { callee := Callee.value (Operand.func 21), args := #[Operand.tmp 13], argTypes := #[24] }, type := 3, pos := _, after := #[{ on := 6, ground := Ground.data }, { on := 5, ground := Ground.chain }, { on := 5, ground := Ground.guard }], guard := some (5, false) }) rfl (fun KK hK => ?_) AllReadyH.nil)
  go_simp
  refine (left_any B s b _ hHeld.1).mono ?_
  rintro e w3 ⟨rfl, hx3⟩
  have bx3 : Blk w3 B (nms .u8 s b) 55 ∧ Blk w3 w.heap.size (nms .i64 s b) 28 := ⟨hHeld.1.ext hx3, hHeld.2.ext hx3⟩
  refine hK.out _ _ bx3 (fun _ => ?_)
  clear hK KK
  try simp only [Act.put, List.setIfInBounds_toArray, List.set_cons_zero, List.set_cons_succ]
  refine wpAnyH_ready (rs := [9]) (by kernel_rfl) (by simp) (AllReadyH.cons (o := { dst := some 16, op := Op.call { callee := Callee.value (Operand.func 26), args := #[Operand.tmp 15], argTypes := #[28] }, type := 3, pos := _, after := #[{ on := 8, ground := Ground.data }, { on := 7, ground := Ground.chain }, { on := 5, ground := Ground.guard }], guard := some (5, false) }) rfl (fun KK hK => ?_) AllReadyH.nil)
  go_simp
  refine (refLeft_any s b _).mono ?_
  rintro e w4 ⟨rfl, rfl⟩
  have bx4 : Blk (w3.alloc (.cells (nms .i64 s b) 28)) B (nms .u8 s b) 55 ∧ Blk (w3.alloc (.cells (nms .i64 s b) 28)) w.heap.size (nms .i64 s b) 28 := ⟨bx3.1.alloc _, bx3.2.alloc _⟩
  refine hK.out _ _ bx4 (fun _ => ?_)
  clear hK KK
  try simp only [Act.put, List.setIfInBounds_toArray, List.set_cons_zero, List.set_cons_succ]
  refine wpAnyH_take (i := 10) (oi := { dst := some 17, op := Op.binOp BinOp.neq 3 (Operand.tmp 14) (Operand.tmp 16) 3, type := 4, pos := _, after := #[{ on := 7, ground := Ground.data }, { on := 9, ground := Ground.data }, { on := 5, ground := Ground.guard }], guard := some (5, false) }) (v := .bool false) rfl (by kernel_rfl) (by kernel_rfl) (by kernel_rfl) (fun _ _ _ h => h) (Or.inl ⟨by rfl, fun w' h => by go_simp⟩) bx4 ?_
  try simp only [Act.put, List.setIfInBounds_toArray, List.set_cons_zero, List.set_cons_succ]
  refine wpAnyH_take (i := 11) (oi := { dst := some 18, op := Op.pick (Operand.tmp 12) (Operand.const (Value.bool true)) (Operand.tmp 17), type := 4, pos := _, after := #[{ on := 5, ground := Ground.data }, { on := 10, ground := Ground.data }], guard := none }) (v := .bool false) rfl (by kernel_rfl) (by kernel_rfl) (by kernel_rfl) (fun _ _ _ h => h) (Or.inl ⟨by rfl, fun _ _ => rfl⟩) bx4 ?_
  try simp only [Act.put, List.setIfInBounds_toArray, List.set_cons_zero, List.set_cons_succ]
  refine wpAnyH_done (by kernel_rfl) ?_ _
  refine NoPanic.normal ?_
  have hx4 : Ext w (w3.alloc (.cells (nms .i64 s b) 28)) := ((unhide HX).drew.trans hx3).alloc _
  generalize (w3.alloc (.cells (nms .i64 s b) 28)) = wc at bx4 hx4 ⊢
  have H := hide (And.intro bx4 hx4)
  clear bx3 bx4 hx3 hx4 hHeld HX HS hbb
  go_wp2
  go_loopw [5, 6] (fun i v wr => ∃ k : Nat, k ≤ 67 ∧ i = .int .i64 ((k : Int) - 1) ∧ wr = wc) (fun i _ _ => (66 - intOf i).toNat)
  case atStart => exact ⟨0, by omega, rfl, rfl⟩
  case round =>
    obtain ⟨k, hk, rfl, rfl⟩ := hrel
    by_cases hlt : k < 67
    · have hk1 : (k : Int) - 1 ≤ 65 := by omega
      have hi0 := is_any B s b ((k : Int) - 1) wr (unhide H).1.1
      have hu0 := used_any B s b ((k : Int) - 1) wr (unhide H).1.1
      by_cases hin : 2 ≤ k ∧ k ≤ 65
      · obtain ⟨n, rfl⟩ : ∃ n, k = n + 1 := ⟨k - 1, by omega⟩
        have en : (((n + 1 : Nat) : Int) - 1) = (n : Int) := by omega
        rw [en] at hi0 hu0 hk1 ⊢
        rw [stI_nat s (by omega)] at hi0 hu0
        have hn1 : (1 : Int) ≤ (n : Int) := by omega
        have hn2 : (n : Int) ≤ 64 := by omega
        have hn3 : (n : Int) < 65 := by omega
        have cn := (unhide H).1.2.cell (nms_get .i64 s b (i := n) (by omega))
        have hpos : (s n != 0) = decide (0 < s n) := by
          have := hS.low n
          by_cases h0 : s n = 0
          · rw [h0]; rfl
          · rw [decide_eq_true (by omega)]; simp [h0]
        rw [hpos] at hu0
        have HI := hide hi0
        have HU := hide hu0
        clear hi0 hu0 hpos en
        go_wp2_with (first
          | (go_at_call 19; refine (unhide HI).mono ?_; rintro e w5 ⟨rfl, rfl⟩)
          | (go_at_call 20; refine (unhide HU).mono ?_; rintro e w5 ⟨rfl, rfl⟩))
        go_roundw
        case rel => exact ⟨n + 2, by omega, by go_num, trivial⟩
        case measure => simp [intOf]; omega
      · have hz : stI s ((k : Int) - 1) = 0 := by
          by_cases h1 : k = 1
          · subst h1
            exact (stI_nat s (k := 0) (by omega)).trans hS.zero
          · exact stI_bad s (by omega)
        rw [hz] at hi0 hu0
        have HI := hide hi0
        have HU := hide hu0
        clear hi0 hu0 hz
        have hkk : k = 0 ∨ k = 1 ∨ k = 66 := by omega
        clear hin hlt hk1 hk
        rcases hkk with rfl | rfl | rfl
        · go_wp2_with (first
            | (go_at_call 19; refine (unhide HI).mono ?_; rintro e w5 ⟨rfl, rfl⟩)
            | (go_at_call 20; refine (unhide HU).mono ?_; rintro e w5 ⟨rfl, rfl⟩))
          go_roundw
          case rel => exact ⟨1, by omega, by go_num, trivial⟩
          case measure => decide
        · go_wp2_with (first
            | (go_at_call 19; refine (unhide HI).mono ?_; rintro e w5 ⟨rfl, rfl⟩)
            | (go_at_call 20; refine (unhide HU).mono ?_; rintro e w5 ⟨rfl, rfl⟩))
          go_roundw
          case rel => exact ⟨2, by omega, by go_num, trivial⟩
          case measure => decide
        · go_wp2_with (first
            | (go_at_call 19; refine (unhide HI).mono ?_; rintro e w5 ⟨rfl, rfl⟩)
            | (go_at_call 20; refine (unhide HU).mono ?_; rintro e w5 ⟨rfl, rfl⟩))
          go_roundw
          case rel => exact ⟨67, by omega, by go_num, trivial⟩
          case measure => decide
    · obtain rfl : k = 67 := by omega
      go_wp2
      go_ret
      exact ⟨rfl, (unhide H).2⟩
end Go.Proofs.Ythdjdknhjhkngaa
