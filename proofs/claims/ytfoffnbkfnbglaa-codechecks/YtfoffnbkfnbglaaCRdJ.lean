/- Several texts in one. -/
import Derived.Test.YtfoffnbkfnbglaaCBkJ
import Derived.Test.YtfoffnbkfnbglaaCRm
import Derived.Test.YtfoffnbkfnbglaaCZaJ
import Derived.Deep.QuietTactic
import Derived.BigQuiet
/-
  The document's low, Bytes.
-/
namespace Go.Proofs.Ytfoffnbkfnbglaa
open Go.RowKit
set_option linter.unusedVariables false
set_option linter.unusedSimpArgs false

theorem low4 (x : Int) : low x 4 = [x % 256, x / 256 % 256, x / 65536 % 256, x / 16777216 % 256] := by
  simp only [low]
  rw [show x / 256 / 256 / 256 = x / 16777216 by omega, show x / 256 / 256 = x / 65536 by omega]
theorem low_lo (x : Int) : low (lo32 x) 4 = low x 4 := by
  rw [low4, low4]
  unfold lo32
  congr 1
  · omega
  congr 1
  · omega
  congr 1
  · omega
  congr 1
  omega
theorem bytL_lo (l : List Int) : bytL (l.map lo32) = bytL l := by
  unfold bytL
  rw [List.flatMap_map]
  congr 1
  funext x
  exact low_lo x
theorem bytP_raw (C : Cod) : bytP C = bytL (rawL C) := by
  unfold bytP
  rw [numL_raw, bytL_lo]
theorem inL_len (I : Nat → Int) : (inL I).length = 16 := rfl
theorem inL_at (I : Nat → Int) (k : Nat) (hk : k < 16) : (inL I)[k]? = some (I k) := by
  rcases (by omega : k = 0 ∨ k = 1 ∨ k = 2 ∨ k = 3 ∨ k = 4 ∨ k = 5 ∨ k = 6 ∨ k = 7 ∨ k = 8 ∨ k = 9 ∨ k = 10 ∨ k = 11 ∨ k = 12 ∨ k = 13 ∨ k = 14 ∨ k = 15) with rfl | rfl | rfl | rfl | rfl | rfl | rfl | rfl | rfl | rfl | rfl | rfl | rfl | rfl | rfl | rfl <;> rfl
theorem byt_step (A l : List Int) (k : Nat) (x : Int) (h : l[k]? = some x) : bytL (A ++ l.take k) ++ low x 4 = bytL (A ++ l.take (k + 1)) := by
  obtain ⟨hk, e⟩ := List.getElem?_eq_some_iff.1 h
  rw [List.take_succ_eq_append_getElem hk, e, ← List.append_assoc, bytL_snoc]
theorem hdL_len (C : Cod) (n : Nat) : (hdL C n).length = 7 := rfl
def hdX (C : Cod) (n : Nat) (k : Nat) : Int := (hdL C n).getD k 0
theorem hdX_at (C : Cod) (n k : Nat) (hk : k < 7) : (hdL C n)[k]? = some (hdX C n k) := by
  rcases (by omega : k = 0 ∨ k = 1 ∨ k = 2 ∨ k = 3 ∨ k = 4 ∨ k = 5 ∨ k = 6) with rfl | rfl | rfl | rfl | rfl | rfl | rfl <;> rfl
theorem idx7 (x : Nat → Int) (k : Nat) (hk : k < 7) (w : World) : (Instr.index 52 (.agg #[.int .i64 (x 0), .int .i64 (x 1), .int .i64 (x 2), .int .i64 (x 3), .int .i64 (x 4), .int .i64 (x 5), .int .i64 (x 6)]) (.int .i64 (k : Int))).run Try.prog w = .ok (.int .i64 (x k)) w := by
  rcases (by omega : k = 0 ∨ k = 1 ∨ k = 2 ∨ k = 3 ∨ k = 4 ∨ k = 5 ∨ k = 6) with rfl | rfl | rfl | rfl | rfl | rfl | rfl
  all_goals kernel_rfl
theorem idx8 (x : Nat → Int) (k : Nat) (hk : k < 8) (w : World) : (Instr.index 86 (.agg #[.int .i64 (x 0), .int .i64 (x 1), .int .i64 (x 2), .int .i64 (x 3), .int .i64 (x 4), .int .i64 (x 5), .int .i64 (x 6), .int .i64 (x 7)]) (.int .i64 (k : Int))).run Try.prog w = .ok (.int .i64 (x k)) w := by
  rcases (by omega : k = 0 ∨ k = 1 ∨ k = 2 ∨ k = 3 ∨ k = 4 ∨ k = 5 ∨ k = 6 ∨ k = 7) with rfl | rfl | rfl | rfl | rfl | rfl | rfl | rfl
  all_goals kernel_rfl
theorem idxV (x : Nat → Int) (k : Nat) (hk : k < 4) (w : World) : (Instr.index 36 (.agg #[.int .i32 (x 0), .int .i32 (x 1), .int .i32 (x 2), .int .i32 (x 3)]) (.int .i64 (k : Int))).run Try.prog w = .ok (.int .i32 (x k)) w := by
  rcases (by omega : k = 0 ∨ k = 1 ∨ k = 2 ∨ k = 3) with rfl | rfl | rfl | rfl
  all_goals kernel_rfl
theorem idxP (x : Nat → Int) (k : Nat) (hk : k < 4) (w : World) : (Instr.index 37 (.agg #[.int .i64 (x 0), .int .i64 (x 1), .int .i64 (x 2), .int .i64 (x 3)]) (.int .i64 (k : Int))).run Try.prog w = .ok (.int .i64 (x k)) w := by
  rcases (by omega : k = 0 ∨ k = 1 ∨ k = 2 ∨ k = 3) with rfl | rfl | rfl | rfl
  all_goals kernel_rfl

set_option maxRecDepth 10000 in
set_option maxHeartbeats 4000000 in
theorem refLow_any (x : Int) (w : World) : Calls Try.prog 45 #[.int .i64 x] w fun e w' => ∃ g, e = .returned (.slice (some ⟨g, 0, none⟩) 4 4) ∧ Row .u8 w' (.slice (some ⟨g, 0, none⟩) 4 4) (low x 4) ∧ Ext w w' := by
  have HR : Hid (Row .u8 (w.alloc (.cells #[.int .u8 (x % 256), .int .u8 (x / 256 % 256), .int .u8 (x / 65536 % 256), .int .u8 (x / 16777216 % 256)] 5)) (.slice (some ⟨w.heap.size, 0, none⟩) 4 4) (low x 4)) := by
    rw [Hid, low4]
    exact (Own.block (k := .u8) (e := 5) (base := 0) w [x % 256, x / 256 % 256, x / 65536 % 256, x / 16777216 % 256] (Nat.zero_le _) (by unfold maxLen; simp)).row
  go_enter Try.func45, Try.ntmps45
  go_wp2
  go_ret
  exact ⟨_, rfl, unhide HR, (Ext.refl w).alloc _⟩

/-- The bytes so far, and what stays. -/
def BS (C : Cod) (ao : Option Addr) (ca : Nat) (w : World) (bv : Value) (B : List Int) (wr : World) : Prop := ∃ (l : Nat) (bo : Option Addr) (cb : Nat), bv = .slice bo l cb ∧ Own .u8 wr w.heap.size 5 (.slice bo l cb) (bytL B) ∧ Blk wr w.heap.size #[.int .i64 (C).stage, .slice ao C.ins.length ca, .int .i64 (C).regs, .int .i64 (C).attr, .int .i64 (C).unif, .int .i64 (C).vary] 26 ∧ Ext w wr

set_option maxRecDepth 10000 in
set_option maxHeartbeats 8000000 in
theorem refBytes_any (C : Cod) (v : Value) (w : World) (h : IR w v C.ins) (hok : ∀ I ∈ C.ins, OkI I) (hm : C.ins.length ≤ 4096) : Calls Try.prog 29 #[.agg #[.int .i64 (C).stage, v, .int .i64 (C).regs, .int .i64 (C).attr, .int .i64 (C).unif, .int .i64 (C).vary]] w fun e w' => ∃ bo l cb, e = .returned (.slice bo l cb) ∧ Row .u8 w' (.slice bo l cb) (bytP C) ∧ Ext w w' := by
  have HV := hide h
  obtain ⟨ao, ca, rfl, hn0, hlc, hcm, hat⟩ := h
  clear hat hn0
  obtain ⟨A0, hA0⟩ : ∃ A : List Int, A = [] := ⟨_, rfl⟩
  have HA0 := hide hA0
  have HS0 : Hid (BS C ao ca w (.slice none 0 0) (A0 ++ (hdL C C.ins.length).take 0) (w.alloc (.cells #[.int .i64 (C).stage, .slice ao C.ins.length ca, .int .i64 (C).regs, .int .i64 (C).attr, .int .i64 (C).unif, .int .i64 (C).vary] 26))) := ⟨0, none, 0, rfl, by rw [hA0]; exact Own.nil _ _ _ _, Blk.new _ _ _, (Ext.refl w).alloc _⟩
  clear hA0
  have HRAW : Hid (bytP C = bytL (hdL C C.ins.length ++ (C.ins.take C.ins.length).flatMap inL)) := by rw [Hid, bytP_raw, List.take_length]; rfl
  have HBL := hide bytL_len
  obtain ⟨z0, z1, z2, z3, z4, z5⟩ := cellC (unhide HS0).choose_spec.choose_spec.choose_spec.2.2.1
  obtain ⟨i0, hi, hz0, hz1, hz2⟩ := info_parts infoU8C
  go_enter Try.func29, Try.ntmps29
  go_wp2
  clear z0 z1 z2 z3 z4 z5
  go_loopw [3, 28] (fun bv iv wr => ∃ k : Nat, k ≤ 7 ∧ iv = .int .i64 (k : Int) ∧ BS C ao ca w bv (A0 ++ (hdL C C.ins.length).take k) wr) (fun _ iv _ => 7 - (intOf iv).toNat)
  case atStart => exact ⟨0, by omega, rfl, unhide HS0⟩
  case round =>
    clear HS0
    obtain ⟨k, hk, rfl, hbs⟩ := hrel
    by_cases hlt : k < 7
    · have hk7 : (k : Int) < 7 := by omega
      obtain ⟨x, hx⟩ : ∃ x, x = hdX C C.ins.length k := ⟨_, rfl⟩
      have HXK := hide (hdX_at C C.ins.length k hlt)
      rw [← hx] at HXK
      have xk : ∀ wx, (Instr.index 52 (.agg #[.int .i64 1128353872, .int .i64 C.stage, .int .i64 C.regs, .int .i64 C.attr, .int .i64 C.unif, .int .i64 C.vary, .int .i64 (C.ins.length : Int)]) (.int .i64 (k : Int))).run Try.prog wx = .ok (.int .i64 x) wx := fun wx => by rw [hx]; exact idx7 (hdX C C.ins.length) k hlt wx
      clear hx
      obtain ⟨l, bo, cb, rfl, hown, hblk, hx⟩ := hbs
      have DD := hide (And.intro hown (And.intro hblk hx))
      clear hown hblk hx
      go_wp2_with (go_at_call 9999)
      refine (refLow_any x _).mono ?_
      rintro e w2 ⟨g2, rfl, hrow, hx2⟩
      have hown2 := own_ext (unhide DD).1 hx2
      have hblk2 := (unhide DD).2.1.ext hx2
      have hxx2 := (unhide DD).2.2.trans hx2
      clear DD hx2
      have HB1 := hide (unhide HBL (A0 ++ (hdL C C.ins.length).take (k)))
      go_wp2_with (at_builtin; refine wpList_append_Own rfl (.tmp 31) (.tmp 33) 22 rfl w.heap.size 5 i0 .u8 1 Try.underlying22 hi hz0 hz1 hz2 _ (bytL (A0 ++ (hdL C C.ins.length).take (k))) rfl hown2 _ (low x 4) rfl hrow ?c1 ?c2 ?c3 ?_)
      case c1 => rw [unhide HB1, low_length]; simp [hdL_len, unhide HA0]; unfold maxLen; omega
      case c2 => rw [unhide HB1, low_length]; simp [hdL_len, unhide HA0]; omega
      case c3 => exact hxx2.size
      intro v3 w3 hown3 hg3
      rw [byt_step (A0) (hdL C C.ins.length) (k) x (unhide HXK)] at hown3
      have hx3 : Ext w w3 := hxx2.grown hg3 hxx2.size (fun g e => (World.ownsRow.lt hown2 g e).1)
      have hblk3 := hblk2.grownO hg3 (own_neB hown2 hblk2 (by decide))
      obtain ⟨bo3, cb3, e3⟩ := hown3.shape
      obtain ⟨l3, hl3⟩ : ∃ l, l = (bytL (A0 ++ (hdL C C.ins.length).take (k + 1))).length := ⟨_, rfl⟩
      rw [← hl3] at e3
      subst e3
      clear hl3
      have D3 := hide (And.intro hown3 (And.intro hblk3 hx3))
      clear hown3 hblk3 hx3 hown2 hblk2 hxx2 hrow hg3 HB1
      go_wp2
      go_roundw
      case rel => exact ⟨k + 1, by omega, by go_num, l3, bo3, cb3, rfl, (unhide D3).1, (unhide D3).2.1, (unhide D3).2.2⟩
      case measure => simp [intOf]; omega
    · obtain rfl : k = 7 := by omega
      rw [show ((7 : Nat) : Int) = (7 : Int) from rfl]
      have e : A0 ++ (hdL C C.ins.length).take 7 = hdL C C.ins.length ++ (C.ins.take 0).flatMap inL := by rw [unhide HA0]; simp [hdL]
      rw [e] at hbs
      have z1 : wr.cell? ⟨w.heap.size, 1, none⟩ = some (.slice ao C.ins.length ca) := hbs.choose_spec.choose_spec.choose_spec.2.2.1.cell rfl
      have HBS := hide hbs
      clear hbs e
      go_wp2
      clear z1
      go_loopw [3, 39] (fun bv iv wr => ∃ j : Nat, j ≤ C.ins.length ∧ iv = .int .i64 (j : Int) ∧ BS C ao ca w bv (hdL C C.ins.length ++ (C.ins.take j).flatMap inL) wr) (fun _ iv _ => C.ins.length - (intOf iv).toNat)
      case atStart => exact ⟨0, Nat.zero_le _, rfl, unhide HBS⟩
      case round =>
        clear HBS
        obtain ⟨j, hj, rfl, hbs⟩ := hrel
        by_cases hjt : j < C.ins.length
        · have hji : (j : Int) < (C.ins.length : Int) := by omega
          have hxw : Ext w wr := hbs.choose_spec.choose_spec.choose_spec.2.2.2
          obtain ⟨_, _, e1, _, _, _, hat⟩ := (unhide HV).ext hxw
          have e1' := (Value.slice.inj e1).1
          subst e1'
          obtain ⟨b, off, rfl, hrg⟩ := hat j hjt
          have HRG := hide hrg
          have HNX : Hid (hdL C C.ins.length ++ (C.ins.take (j + 1)).flatMap inL = (hdL C C.ins.length ++ (C.ins.take j).flatMap inL) ++ inL C.ins[j]) := by rw [Hid, List.take_succ_eq_append_getElem hjt, List.flatMap_append, List.append_assoc]; simp
          have HAL : Hid ((hdL C C.ins.length ++ (C.ins.take j).flatMap inL).length = 7 + 16 * j) := by rw [Hid, List.length_append, flat_len, hdL_len, List.length_take]; omega
          have HOK := hide (hok C.ins[j] (List.getElem_mem hjt))
          clear hrg hat e1
          obtain ⟨A, hA⟩ : ∃ A, A = hdL C C.ins.length ++ (C.ins.take j).flatMap inL := ⟨_, rfl⟩
          rw [← hA] at HNX HAL hbs
          clear hA
          generalize C.ins[j] = I at *
          obtain ⟨l, bo, cb, rfl, hown, hblk, hx⟩ := hbs
          have HBI := hide (Blk.new wr (insA I) 39)
          have HBS : Hid (BS C (some ⟨b, off, none⟩) ca w (.slice bo l cb) (A ++ (inL I).take 0) (wr.alloc (.cells (insA I) 39))) := ⟨l, bo, cb, rfl, by rw [List.take_zero, List.append_nil]; exact hown.alloc _, hblk.alloc _, hx.alloc _⟩
          clear hown hblk hx hxw
          go_upto_region 10 with (first
            | (refine wpList_load_mid rfl 39 (.tmp 41) rfl b (off + j * 16) rfl (insA I).toList _ (unhide HRG) Try.underlying39 rfl size16 ?_; rw [Array.toArray_toList])
            | refine wpList_storeLast rfl 39 (.tmp 7) (.tmp 42) rfl _ wr.heap.size rfl rfl (insA I) rfl 16 size16 rfl rfl (insA_one I) ?_)
          clear HRG
          generalize wr.alloc (.cells (insA I) 39) = w4 at HBI HBS ⊢
          generalize wr.heap.size = Bi at *
          obtain ⟨c0, c1, c2, c3, c4, c5, c6, c7⟩ := cellJ (unhide HBI)
          go_wp2
          clear c0 c1 c2 c3 c4 c5 c6 c7
          go_loopw [3, 60] (fun bv iv wr => ∃ k : Nat, k ≤ 8 ∧ iv = .int .i64 (k : Int) ∧ Blk wr Bi (insA I) 39 ∧ BS C (some ⟨b, off, none⟩) ca w bv (A ++ (inL I).take (k)) wr) (fun _ iv _ => 8 - (intOf iv).toNat)
          case atStart => exact ⟨0, by omega, rfl, unhide HBI, unhide HBS⟩
          case round =>
            clear HBI HBS
            obtain ⟨k, hk, rfl, hbi, hbs⟩ := hrel
            have HBI := hide hbi
            clear hbi
            by_cases hlt : k < 8
            · have hkN : (k : Int) < 8 := by omega
              obtain ⟨x, hx⟩ : ∃ x, x = I (k) := ⟨_, rfl⟩
              have HXK := hide (inL_at I (k) (by omega))
              rw [← hx] at HXK
              have xk : ∀ wx, (Instr.index 86 (.agg #[.int .i64 (I 0), .int .i64 (I 1), .int .i64 (I 2), .int .i64 (I 3), .int .i64 (I 4), .int .i64 (I 5), .int .i64 (I 6), .int .i64 (I 7)]) (.int .i64 (k : Int))).run Try.prog wx = .ok (.int .i64 x) wx := fun wx => by rw [hx]; exact idx8 (fun i => I (i)) k hlt wx
              clear hx
              obtain ⟨l, bo, cb, rfl, hown, hblk, hx⟩ := hbs
              have DD := hide (And.intro hown (And.intro hblk hx))
              clear hown hblk hx
              go_wp2_with (go_at_call 9999)
              refine (refLow_any x _).mono ?_
              rintro e w2 ⟨g2, rfl, hrow, hx2⟩
              have hown2 := own_ext (unhide DD).1 hx2
              have hblk2 := (unhide DD).2.1.ext hx2
              have hxx2 := (unhide DD).2.2.trans hx2
              have hbi2 := (unhide HBI).ext hx2
              clear DD hx2
              have HB1 := hide (unhide HBL (A ++ (inL I).take (k)))
              go_wp2_with (at_builtin; refine wpList_append_Own rfl (.tmp 63) (.tmp 65) 22 rfl w.heap.size 5 i0 .u8 1 Try.underlying22 hi hz0 hz1 hz2 _ (bytL (A ++ (inL I).take (k))) rfl hown2 _ (low x 4) rfl hrow ?c1 ?c2 ?c3 ?_)
              case c1 => rw [unhide HB1, low_length]; simp [unhide HAL, inL_len]; unfold maxLen; omega
              case c2 => rw [unhide HB1, low_length]; simp [unhide HAL, inL_len]; omega
              case c3 => exact hxx2.size
              intro v3 w3 hown3 hg3
              rw [byt_step (A) (inL I) (k) x (unhide HXK)] at hown3
              have hx3 : Ext w w3 := hxx2.grown hg3 hxx2.size (fun g e => (World.ownsRow.lt hown2 g e).1)
              have hblk3 := hblk2.grownO hg3 (own_neB hown2 hblk2 (by decide))
              have hbi3 := hbi2.grownO hg3 (own_neB hown2 hbi2 (by decide))
              obtain ⟨bo3, cb3, e3⟩ := hown3.shape
              obtain ⟨l3, hl3⟩ : ∃ l, l = (bytL (A ++ (inL I).take (k + 1))).length := ⟨_, rfl⟩
              rw [← hl3] at e3
              subst e3
              clear hl3
              have D3 := hide (And.intro hown3 (And.intro hblk3 (And.intro hbi3 hx3)))
              clear hown3 hblk3 hx3 hown2 hblk2 hxx2 hrow hg3 HB1 hbi3 hbi2
              go_wp2
              go_roundw
              case rel => exact ⟨k + 1, by omega, by go_num, (unhide D3).2.2.1, l3, bo3, cb3, rfl, (unhide D3).1, (unhide D3).2.1, (unhide D3).2.2.2⟩
              case measure => simp [intOf]; omega
            · obtain rfl : k = 8 := by omega
              rw [show ((8 : Nat) : Int) = (8 : Int) from rfl]
              have HBS := hide hbs
              clear hbs
              obtain ⟨c0, c1, c2, c3⟩ := cellM (unhide HBI)
              go_wp2
              clear c0 c1 c2 c3
              go_loopw [3, 70] (fun bv iv wr => ∃ k : Nat, k ≤ 4 ∧ iv = .int .i64 (k : Int) ∧ Blk wr Bi (insA I) 39 ∧ BS C (some ⟨b, off, none⟩) ca w bv (A ++ (inL I).take (8 + k)) wr) (fun _ iv _ => 4 - (intOf iv).toNat)
              case atStart => exact ⟨0, by omega, rfl, unhide HBI, unhide HBS⟩
              case round =>
                clear HBI HBS
                obtain ⟨k, hk, rfl, hbi, hbs⟩ := hrel
                have HBI := hide hbi
                clear hbi
                by_cases hlt : k < 4
                · have hkN : (k : Int) < 4 := by omega
                  obtain ⟨x, hx⟩ : ∃ x, x = I (8 + k) := ⟨_, rfl⟩
                  have HXK := hide (inL_at I (8 + k) (by omega))
                  rw [← hx] at HXK
                  have xk : ∀ wx, (Instr.index 36 (.agg #[.int .i32 (I 8), .int .i32 (I 9), .int .i32 (I 10), .int .i32 (I 11)]) (.int .i64 (k : Int))).run Try.prog wx = .ok (.int .i32 x) wx := fun wx => by rw [hx]; exact idxV (fun i => I (8 + i)) k hlt wx
                  have hxr := (unhide HOK).2.1 k hlt
                  rw [← hx] at hxr
                  obtain ⟨hx0, hx1⟩ := hxr
                  clear hx
                  obtain ⟨l, bo, cb, rfl, hown, hblk, hx⟩ := hbs
                  have DD := hide (And.intro hown (And.intro hblk hx))
                  clear hown hblk hx
                  go_wp2_with (go_at_call 9999)
                  refine (refLow_any x _).mono ?_
                  rintro e w2 ⟨g2, rfl, hrow, hx2⟩
                  have hown2 := own_ext (unhide DD).1 hx2
                  have hblk2 := (unhide DD).2.1.ext hx2
                  have hxx2 := (unhide DD).2.2.trans hx2
                  have hbi2 := (unhide HBI).ext hx2
                  clear DD hx2
                  have HB1 := hide (unhide HBL (A ++ (inL I).take (8 + k)))
                  go_wp2_with (at_builtin; refine wpList_append_Own rfl (.tmp 73) (.tmp 76) 22 rfl w.heap.size 5 i0 .u8 1 Try.underlying22 hi hz0 hz1 hz2 _ (bytL (A ++ (inL I).take (8 + k))) rfl hown2 _ (low x 4) rfl hrow ?c1 ?c2 ?c3 ?_)
                  case c1 => rw [unhide HB1, low_length]; simp [unhide HAL, inL_len]; unfold maxLen; omega
                  case c2 => rw [unhide HB1, low_length]; simp [unhide HAL, inL_len]; omega
                  case c3 => exact hxx2.size
                  intro v3 w3 hown3 hg3
                  rw [byt_step (A) (inL I) (8 + k) x (unhide HXK)] at hown3
                  have hx3 : Ext w w3 := hxx2.grown hg3 hxx2.size (fun g e => (World.ownsRow.lt hown2 g e).1)
                  have hblk3 := hblk2.grownO hg3 (own_neB hown2 hblk2 (by decide))
                  have hbi3 := hbi2.grownO hg3 (own_neB hown2 hbi2 (by decide))
                  obtain ⟨bo3, cb3, e3⟩ := hown3.shape
                  obtain ⟨l3, hl3⟩ : ∃ l, l = (bytL (A ++ (inL I).take (8 + k + 1))).length := ⟨_, rfl⟩
                  rw [← hl3] at e3
                  subst e3
                  clear hl3
                  have D3 := hide (And.intro hown3 (And.intro hblk3 (And.intro hbi3 hx3)))
                  clear hown3 hblk3 hx3 hown2 hblk2 hxx2 hrow hg3 HB1 hbi3 hbi2
                  go_wp2
                  go_roundw
                  case rel => exact ⟨k + 1, by omega, by go_num, (unhide D3).2.2.1, l3, bo3, cb3, rfl, (unhide D3).1, (unhide D3).2.1, (unhide D3).2.2.2⟩
                  case measure => simp [intOf]; omega
                · obtain rfl : k = 4 := by omega
                  rw [show ((4 : Nat) : Int) = (4 : Int) from rfl]
                  have HBS := hide hbs
                  clear hbs
                  obtain ⟨c0, c1, c2, c3⟩ := cellP (unhide HBI)
                  go_wp2
                  clear c0 c1 c2 c3
                  go_loopw [3, 81] (fun bv iv wr => ∃ k : Nat, k ≤ 4 ∧ iv = .int .i64 (k : Int) ∧ Blk wr Bi (insA I) 39 ∧ BS C (some ⟨b, off, none⟩) ca w bv (A ++ (inL I).take (12 + k)) wr) (fun _ iv _ => 4 - (intOf iv).toNat)
                  case atStart => exact ⟨0, by omega, rfl, unhide HBI, unhide HBS⟩
                  case round =>
                    clear HBI HBS
                    obtain ⟨k, hk, rfl, hbi, hbs⟩ := hrel
                    have HBI := hide hbi
                    clear hbi
                    by_cases hlt : k < 4
                    · have hkN : (k : Int) < 4 := by omega
                      obtain ⟨x, hx⟩ : ∃ x, x = I (12 + k) := ⟨_, rfl⟩
                      have HXK := hide (inL_at I (12 + k) (by omega))
                      rw [← hx] at HXK
                      have xk : ∀ wx, (Instr.index 37 (.agg #[.int .i64 (I 12), .int .i64 (I 13), .int .i64 (I 14), .int .i64 (I 15)]) (.int .i64 (k : Int))).run Try.prog wx = .ok (.int .i64 x) wx := fun wx => by rw [hx]; exact idxP (fun i => I (12 + i)) k hlt wx
                      clear hx
                      obtain ⟨l, bo, cb, rfl, hown, hblk, hx⟩ := hbs
                      have DD := hide (And.intro hown (And.intro hblk hx))
                      clear hown hblk hx
                      go_wp2_with (go_at_call 9999)
                      refine (refLow_any x _).mono ?_
                      rintro e w2 ⟨g2, rfl, hrow, hx2⟩
                      have hown2 := own_ext (unhide DD).1 hx2
                      have hblk2 := (unhide DD).2.1.ext hx2
                      have hxx2 := (unhide DD).2.2.trans hx2
                      have hbi2 := (unhide HBI).ext hx2
                      clear DD hx2
                      have HB1 := hide (unhide HBL (A ++ (inL I).take (12 + k)))
                      go_wp2_with (at_builtin; refine wpList_append_Own rfl (.tmp 84) (.tmp 86) 22 rfl w.heap.size 5 i0 .u8 1 Try.underlying22 hi hz0 hz1 hz2 _ (bytL (A ++ (inL I).take (12 + k))) rfl hown2 _ (low x 4) rfl hrow ?c1 ?c2 ?c3 ?_)
                      case c1 => rw [unhide HB1, low_length]; simp [unhide HAL, inL_len]; unfold maxLen; omega
                      case c2 => rw [unhide HB1, low_length]; simp [unhide HAL, inL_len]; omega
                      case c3 => exact hxx2.size
                      intro v3 w3 hown3 hg3
                      rw [byt_step (A) (inL I) (12 + k) x (unhide HXK)] at hown3
                      have hx3 : Ext w w3 := hxx2.grown hg3 hxx2.size (fun g e => (World.ownsRow.lt hown2 g e).1)
                      have hblk3 := hblk2.grownO hg3 (own_neB hown2 hblk2 (by decide))
                      have hbi3 := hbi2.grownO hg3 (own_neB hown2 hbi2 (by decide))
                      obtain ⟨bo3, cb3, e3⟩ := hown3.shape
                      obtain ⟨l3, hl3⟩ : ∃ l, l = (bytL (A ++ (inL I).take (12 + k + 1))).length := ⟨_, rfl⟩
                      rw [← hl3] at e3
                      subst e3
                      clear hl3
                      have D3 := hide (And.intro hown3 (And.intro hblk3 (And.intro hbi3 hx3)))
                      clear hown3 hblk3 hx3 hown2 hblk2 hxx2 hrow hg3 HB1 hbi3 hbi2
                      go_wp2
                      go_roundw
                      case rel => exact ⟨k + 1, by omega, by go_num, (unhide D3).2.2.1, l3, bo3, cb3, rfl, (unhide D3).1, (unhide D3).2.1, (unhide D3).2.2.2⟩
                      case measure => simp [intOf]; omega
                    · obtain rfl : k = 4 := by omega
                      rw [show ((4 : Nat) : Int) = (4 : Int) from rfl]
                      have e : (inL I).take (12 + 4) = inL I := by rw [List.take_of_length_le (by rw [inL_len]; omega)]
                      rw [e, ← unhide HNX] at hbs
                      have HBS := hide hbs
                      clear hbs e
                      go_wp2
                      go_roundw
                      case rel => exact ⟨j + 1, by omega, by go_num, unhide HBS⟩
                      case measure => simp [intOf]; omega
        · obtain rfl : j = C.ins.length := by omega
          obtain ⟨l, bo, cb, rfl, hown, hblk, hx⟩ := hbs
          go_wp2
          go_ret
          rw [unhide HRAW]
          exact ⟨bo, l, cb, rfl, hown.row, hx⟩
end Go.Proofs.Ytfoffnbkfnbglaa

/-
  whole: a code is as it was.
-/
namespace Go.Proofs.Ytfoffnbkfnbglaa
open Go.RowKit
set_option linter.unusedVariables false
set_option linter.unusedSimpArgs false

set_option maxRecDepth 10000 in
set_option maxHeartbeats 4000000 in
theorem whole_any (C D : Cod) (am an : Option Addr) (cm cn : Nat) (w : World) (hl : C.ins.length ≤ 5000) (hA : IR w (.slice am (C.ins.length + 1) cm) (C.ins ++ [i77])) (hB : IR w (.slice an D.ins.length cn) D.ins) (hs : sameC C D = true) : Calls Try.prog 27 #[.agg #[.int .i64 (C).stage, .slice am C.ins.length cm, .int .i64 (C).regs, .int .i64 (C).attr, .int .i64 (C).unif, .int .i64 (C).vary], .agg #[.int .i64 (D).stage, .slice an D.ins.length cn, .int .i64 (D).regs, .int .i64 (D).attr, .int .i64 (D).unif, .int .i64 (D).vary]] w fun e w' => e = .returned (.bool true) ∧ Ext w w' := by
  have hA2 : IR w (.slice am C.ins.length cm) C.ins := by
    have h2 := hA.take C.ins.length (by simp)
    simpa using h2
  obtain ⟨_, _, e1, _, hcp, hmx, hat⟩ := hA
  have e1a := (Value.slice.inj e1).1
  have e1c := (Value.slice.inj e1).2.2
  subst e1a
  subst e1c
  obtain ⟨g, off, rfl, hrg⟩ := hat C.ins.length (by simp)
  have hcp1 : C.ins.length + 1 ≤ cm := by simpa using hcp
  unfold maxLen at hmx
  have hel : (C.ins ++ [i77])[C.ins.length]'(by simp) = i77 := by simp
  rw [hel] at hrg
  have HSM := hide hs
  have HX := hide (((Ext.refl w).alloc (.cells #[.int .i64 (C).stage, .slice (some ⟨g, off, none⟩) C.ins.length cm, .int .i64 (C).regs, .int .i64 (C).attr, .int .i64 (C).unif, .int .i64 (C).vary] 26)).alloc (.cells #[.int .i64 (D).stage, .slice an D.ins.length cn, .int .i64 (D).regs, .int .i64 (D).attr, .int .i64 (D).unif, .int .i64 (D).vary] 26))
  have HA : Hid (Blk ((w.alloc (.cells #[.int .i64 (C).stage, .slice (some ⟨g, off, none⟩) C.ins.length cm, .int .i64 (C).regs, .int .i64 (C).attr, .int .i64 (C).unif, .int .i64 (C).vary] 26)).alloc (.cells #[.int .i64 (D).stage, .slice an D.ins.length cn, .int .i64 (D).regs, .int .i64 (D).attr, .int .i64 (D).unif, .int .i64 (D).vary] 26)) w.heap.size #[.int .i64 (C).stage, .slice (some ⟨g, off, none⟩) C.ins.length cm, .int .i64 (C).regs, .int .i64 (C).attr, .int .i64 (C).unif, .int .i64 (C).vary] 26) := (Blk.new w _ _).alloc _
  have HB : Hid (Blk ((w.alloc (.cells #[.int .i64 (C).stage, .slice (some ⟨g, off, none⟩) C.ins.length cm, .int .i64 (C).regs, .int .i64 (C).attr, .int .i64 (C).unif, .int .i64 (C).vary] 26)).alloc (.cells #[.int .i64 (D).stage, .slice an D.ins.length cn, .int .i64 (D).regs, .int .i64 (D).attr, .int .i64 (D).unif, .int .i64 (D).vary] 26)) (w.heap.size + 1) #[.int .i64 (D).stage, .slice an D.ins.length cn, .int .i64 (D).regs, .int .i64 (D).attr, .int .i64 (D).unif, .int .i64 (D).vary] 26) := Blk.here (by simp)
  have HIA := hide (hA2.ext (unhide HX))
  have HIB := hide (hB.ext (unhide HX))
  have HRG := hide (rng_ext hrg (unhide HX))
  clear hrg hat e1 hA2 hB hs hel hcp
  go_enter Try.func27, Try.ntmps27
  go_upto_region 1 with fail
  generalize (w.alloc (.cells #[.int .i64 (C).stage, .slice (some ⟨g, off, none⟩) C.ins.length cm, .int .i64 (C).regs, .int .i64 (C).attr, .int .i64 (C).unif, .int .i64 (C).vary] 26)).alloc (.cells #[.int .i64 (D).stage, .slice an D.ins.length cn, .int .i64 (D).regs, .int .i64 (D).attr, .int .i64 (D).unif, .int .i64 (D).vary] 26) = w2 at HX HA HB HIA HIB HRG ⊢
  have H77 : Hid (∀ wx, Ext w2 wx → wx.cell? ⟨g, off + C.ins.length * 16, none⟩ = some (.int .i64 77)) := fun wx hx => by
    have := rng_ext (unhide HRG) hx 0 (.int .i64 77) rfl
    simpa using this
  clear HRG
  refine wp_region_noPanic ?_
  refine wp_region_held_drew (S := fun wx => Ext w2 wx) (by kernel_rfl) ((Ext.refl _).drew) (fun HS => ?_)
  refine wpAnyH_take (i := 0) (oi := { dst := some 5, op := Op.load _ (Operand.tmp 2), type := _, pos := _, after := _, guard := none }) (v := .agg #[.int .i64 (C).stage, .slice (some ⟨g, off, none⟩) C.ins.length cm, .int .i64 (C).regs, .int .i64 (C).attr, .int .i64 (C).unif, .int .i64 (C).vary]) rfl (by kernel_rfl) (by kernel_rfl) (by kernel_rfl) (fun _ _ _ h => h) (yieldsIf_load_mid (by rfl) 26 (.tmp 2) rfl w.heap.size 0 rfl (#[.int .i64 (C).stage, .slice (some ⟨g, off, none⟩) C.ins.length cm, .int .i64 (C).regs, .int .i64 (C).attr, .int .i64 (C).unif, .int .i64 (C).vary]).toList _ (fun wx hx => ((unhide HA).ext hx).rng) Try.underlying26 rfl size6) HS ?_
  simp only [Act.put, List.setIfInBounds_toArray, List.set_cons_zero, List.set_cons_succ]
  refine wpAnyH_take (i := 1) (oi := { dst := some 6, op := Op.load _ (Operand.tmp 3), type := _, pos := _, after := _, guard := none }) (v := .agg #[.int .i64 (D).stage, .slice an D.ins.length cn, .int .i64 (D).regs, .int .i64 (D).attr, .int .i64 (D).unif, .int .i64 (D).vary]) rfl (by kernel_rfl) (by kernel_rfl) (by kernel_rfl) (fun _ _ _ h => h) (yieldsIf_load_mid (by rfl) 26 (.tmp 3) rfl (w.heap.size + 1) 0 rfl (#[.int .i64 (D).stage, .slice an D.ins.length cn, .int .i64 (D).regs, .int .i64 (D).attr, .int .i64 (D).unif, .int .i64 (D).vary]).toList _ (fun wx hx => ((unhide HB).ext hx).rng) Try.underlying26 rfl size6) HS ?_
  simp only [Act.put, List.setIfInBounds_toArray, List.set_cons_zero, List.set_cons_succ]
  refine wpAnyH_ready (rs := [2]) (by kernel_rfl) (by simp) (AllReadyH.cons (o := { dst := some 7, op := Op.call { callee := Callee.value (Operand.func _), args := #[Operand.tmp 5, Operand.tmp 6], argTypes := _ }, type := _, pos := _, after := _, guard := none }) rfl (fun KK hK => ?_) AllReadyH.nil)
  go_simp
  refine (refSame_any C D _ _ _ ((unhide HIA).ext HS) ((unhide HIB).ext HS)).mono ?_
  rintro e ws ⟨rfl, hxs⟩
  rw [unhide HSM]
  have HS2 := HS.trans hxs
  clear hxs HS
  have HS := HS2
  clear HS2
  refine hK.out _ _ HS (fun _ => ?_)
  clear hK KK
  try simp only [Act.put, List.setIfInBounds_toArray, List.set_cons_zero, List.set_cons_succ]
  refine wpAnyH_take (i := 3) (oi := { dst := some 8, op := Op.move (Operand.tmp 7), type := _, pos := _, after := _, guard := none }) (v := .bool true) rfl (by kernel_rfl) (by kernel_rfl) (by kernel_rfl) (fun _ _ _ h => h) (Or.inl ⟨by rfl, fun _ _ => rfl⟩) HS ?_
  simp only [Act.put, List.setIfInBounds_toArray, List.set_cons_zero, List.set_cons_succ]
  refine wpAnyH_take (i := 4) (oi := { dst := some 9, op := Op.fieldAddr _ (Operand.tmp 2) 1, type := _, pos := _, after := _, guard := some (3, true) }) (v := .pointer (some ⟨w.heap.size, 1, none⟩)) rfl (by kernel_rfl) (by kernel_rfl) (by kernel_rfl) (fun _ _ _ h => h) (Or.inl ⟨by rfl, fun _ _ => rfl⟩) HS ?_
  simp only [Act.put, List.setIfInBounds_toArray, List.set_cons_zero, List.set_cons_succ]
  refine wpAnyH_take (i := 5) (oi := { dst := some 10, op := Op.load _ (Operand.tmp 9), type := _, pos := _, after := _, guard := some (3, true) }) (v := .slice (some ⟨g, off, none⟩) C.ins.length cm) rfl (by kernel_rfl) (by kernel_rfl) (by kernel_rfl) (fun _ _ _ h => h) (Or.inl ⟨by rfl, fun wx hx => by have c := ((unhide HA).ext hx).cell (i := 1) rfl; go_simp⟩) HS ?_
  simp only [Act.put, List.setIfInBounds_toArray, List.set_cons_zero, List.set_cons_succ]
  refine wpAnyH_take (i := 6) (oi := { dst := some 11, op := Op.fieldAddr _ (Operand.tmp 2) 1, type := _, pos := _, after := _, guard := some (3, true) }) (v := .pointer (some ⟨w.heap.size, 1, none⟩)) rfl (by kernel_rfl) (by kernel_rfl) (by kernel_rfl) (fun _ _ _ h => h) (Or.inl ⟨by rfl, fun _ _ => rfl⟩) HS ?_
  simp only [Act.put, List.setIfInBounds_toArray, List.set_cons_zero, List.set_cons_succ]
  refine wpAnyH_take (i := 7) (oi := { dst := some 12, op := Op.load _ (Operand.tmp 11), type := _, pos := _, after := _, guard := some (3, true) }) (v := .slice (some ⟨g, off, none⟩) C.ins.length cm) rfl (by kernel_rfl) (by kernel_rfl) (by kernel_rfl) (fun _ _ _ h => h) (Or.inl ⟨by rfl, fun wx hx => by have c := ((unhide HA).ext hx).cell (i := 1) rfl; go_simp⟩) HS ?_
  simp only [Act.put, List.setIfInBounds_toArray, List.set_cons_zero, List.set_cons_succ]
  refine wpAnyH_take (i := 8) (oi := { dst := some 13, op := Op.call { callee := Callee.builtin Builtin.len, args := #[Operand.tmp 12], argTypes := _ }, type := _, pos := _, after := _, guard := some (3, true) }) (v := .int .i64 (C.ins.length : Int)) rfl (by kernel_rfl) (by kernel_rfl) (by kernel_rfl) (fun _ _ _ h => h) (Or.inl ⟨by rfl, fun wx hx => by go_simp⟩) HS ?_
  simp only [Act.put, List.setIfInBounds_toArray, List.set_cons_zero, List.set_cons_succ]
  refine wpAnyH_take (i := 9) (oi := { dst := some 14, op := Op.binOp BinOp.add _ (Operand.tmp 13) (Operand.const (Value.int IntKind.i64 1)) _, type := _, pos := _, after := _, guard := some (3, true) }) (v := .int .i64 ((C.ins.length : Int) + 1)) rfl (by kernel_rfl) (by kernel_rfl) (by kernel_rfl) (fun _ _ _ h => h) (Or.inl ⟨by rfl, fun wx hx => by go_simp; exact wrapIdC (by omega) (by omega)⟩) HS ?_
  simp only [Act.put, List.setIfInBounds_toArray, List.set_cons_zero, List.set_cons_succ]
  refine wpAnyH_take (i := 10) (oi := { dst := some 15, op := Op.slice _ (Operand.tmp 10) none (some (Operand.tmp 14)) none, type := _, pos := _, after := _, guard := some (3, true) }) (v := .slice (some ⟨g, off, none⟩) (C.ins.length + 1) cm) rfl (by kernel_rfl) (by kernel_rfl) (by kernel_rfl) (fun _ _ _ h => h) (Or.inl ⟨by rfl, fun wx hx => by go_simp <;> omega⟩) HS ?_
  simp only [Act.put, List.setIfInBounds_toArray, List.set_cons_zero, List.set_cons_succ]
  refine wpAnyH_take (i := 11) (oi := { dst := some 16, op := Op.fieldAddr _ (Operand.tmp 2) 1, type := _, pos := _, after := _, guard := some (3, true) }) (v := .pointer (some ⟨w.heap.size, 1, none⟩)) rfl (by kernel_rfl) (by kernel_rfl) (by kernel_rfl) (fun _ _ _ h => h) (Or.inl ⟨by rfl, fun _ _ => rfl⟩) HS ?_
  simp only [Act.put, List.setIfInBounds_toArray, List.set_cons_zero, List.set_cons_succ]
  refine wpAnyH_take (i := 12) (oi := { dst := some 17, op := Op.load _ (Operand.tmp 16), type := _, pos := _, after := _, guard := some (3, true) }) (v := .slice (some ⟨g, off, none⟩) C.ins.length cm) rfl (by kernel_rfl) (by kernel_rfl) (by kernel_rfl) (fun _ _ _ h => h) (Or.inl ⟨by rfl, fun wx hx => by have c := ((unhide HA).ext hx).cell (i := 1) rfl; go_simp⟩) HS ?_
  simp only [Act.put, List.setIfInBounds_toArray, List.set_cons_zero, List.set_cons_succ]
  refine wpAnyH_take (i := 13) (oi := { dst := some 18, op := Op.call { callee := Callee.builtin Builtin.len, args := #[Operand.tmp 17], argTypes := _ }, type := _, pos := _, after := _, guard := some (3, true) }) (v := .int .i64 (C.ins.length : Int)) rfl (by kernel_rfl) (by kernel_rfl) (by kernel_rfl) (fun _ _ _ h => h) (Or.inl ⟨by rfl, fun wx hx => by go_simp⟩) HS ?_
  simp only [Act.put, List.setIfInBounds_toArray, List.set_cons_zero, List.set_cons_succ]
  refine wpAnyH_take (i := 14) (oi := { dst := some 19, op := Op.indexAddr _ (Operand.tmp 15) (Operand.tmp 18), type := _, pos := _, after := _, guard := some (3, true) }) (v := .pointer (some ⟨g, off + C.ins.length * 16, none⟩)) rfl (by kernel_rfl) (by kernel_rfl) (by kernel_rfl) (fun _ _ _ h => h) (Or.inl ⟨by rfl, fun wx hx => by go_simp <;> omega⟩) HS ?_
  simp only [Act.put, List.setIfInBounds_toArray, List.set_cons_zero, List.set_cons_succ]
  refine wpAnyH_take (i := 15) (oi := { dst := some 20, op := Op.fieldAddr _ (Operand.tmp 19) 0, type := _, pos := _, after := _, guard := some (3, true) }) (v := .pointer (some ⟨g, off + C.ins.length * 16, none⟩)) rfl (by kernel_rfl) (by kernel_rfl) (by kernel_rfl) (fun _ _ _ h => h) (Or.inl ⟨by rfl, fun _ _ => rfl⟩) HS ?_
  simp only [Act.put, List.setIfInBounds_toArray, List.set_cons_zero, List.set_cons_succ]
  refine wpAnyH_take (i := 16) (oi := { dst := some 21, op := Op.load _ (Operand.tmp 20), type := _, pos := _, after := _, guard := some (3, true) }) (v := .int .i64 77) rfl (by kernel_rfl) (by kernel_rfl) (by kernel_rfl) (fun _ _ _ h => h) (Or.inl ⟨by rfl, fun wx hx => by have c := unhide H77 wx hx; go_simp⟩) HS ?_
  simp only [Act.put, List.setIfInBounds_toArray, List.set_cons_zero, List.set_cons_succ]
  refine wpAnyH_take (i := 17) (oi := { dst := some 22, op := Op.binOp BinOp.eql _ (Operand.tmp 21) (Operand.const (Value.int IntKind.i64 77)) _, type := _, pos := _, after := _, guard := some (3, true) }) (v := .bool true) rfl (by kernel_rfl) (by kernel_rfl) (by kernel_rfl) (fun _ _ _ h => h) (Or.inl ⟨by rfl, fun wx hx => by go_simp⟩) HS ?_
  simp only [Act.put, List.setIfInBounds_toArray, List.set_cons_zero, List.set_cons_succ]
  refine wpAnyH_take (i := 18) (oi := { dst := some 23, op := Op.pick (Operand.tmp 8) (Operand.tmp 22) (Operand.const (Value.bool false)), type := _, pos := _, after := _, guard := none }) (v := .bool true) rfl (by kernel_rfl) (by kernel_rfl) (by kernel_rfl) (fun _ _ _ h => h) (Or.inl ⟨by rfl, fun _ _ => rfl⟩) HS ?_
  simp only [Act.put, List.setIfInBounds_toArray, List.set_cons_zero, List.set_cons_succ]
  refine wpAnyH_take (i := 19) (oi := { dst := some 4, op := Op.assign (Operand.tmp 23), type := _, pos := _, after := _, guard := none }) (v := .bool true) rfl (by kernel_rfl) (by kernel_rfl) (by kernel_rfl) (fun _ _ _ h => h) (Or.inl ⟨by rfl, fun _ _ => rfl⟩) HS ?_
  simp only [Act.put, List.setIfInBounds_toArray, List.set_cons_zero, List.set_cons_succ]
  refine wpAnyH_done (by kernel_rfl) ?_ _
  refine NoPanic.normal ?_
  go_wp2
  go_ret
  exact ⟨rfl, (unhide HX).trans HS⟩
end Go.Proofs.Ytfoffnbkfnbglaa

/-
  checks: a code is checked, encoded and gone through as the document says.
-/
namespace Go.Proofs.Ytfoffnbkfnbglaa
open Go.RowKit
set_option linter.unusedVariables false
set_option linter.unusedSimpArgs false

theorem fewC_len (C : Cod) : (fewC C).ins.length ≤ 4097 := by
  unfold fewC
  simp
  omega
/-- What stays while a code is looked at. -/
def CkS (w : World) (F : Cod) (am an : Option Addr) (cm cn B3 : Nat) (wx : World) : Prop :=
  Ext w wx ∧ Blk wx w.heap.size #[.int .i64 (F).stage, .slice am F.ins.length cm, .int .i64 (F).regs, .int .i64 (F).attr, .int .i64 (F).unif, .int .i64 (F).vary] 26 ∧ Blk wx B3 #[.int .i64 (F).stage, .slice an F.ins.length cn, .int .i64 (F).regs, .int .i64 (F).attr, .int .i64 (F).unif, .int .i64 (F).vary] 26 ∧ IR wx (.slice am (F.ins.length + 1) cm) (F.ins ++ [i77]) ∧ IR wx (.slice am F.ins.length cm) F.ins ∧ IR wx (.slice an F.ins.length cn) F.ins
theorem CkS.ext {w : World} {F : Cod} {am an : Option Addr} {cm cn B3 : Nat} {wx wy : World} (h : CkS w F am an cm cn B3 wx) (hx : Ext wx wy) : CkS w F am an cm cn B3 wy :=
  ⟨h.1.trans hx, h.2.1.ext hx, h.2.2.1.ext hx, h.2.2.2.1.ext hx, h.2.2.2.2.1.ext hx, h.2.2.2.2.2.ext hx⟩

set_option maxRecDepth 10000 in
set_option maxHeartbeats 8000000 in
theorem checks_any (C : Cod) (v : Value) (w : World) (h : IR w v C.ins) (hok : ∀ I ∈ C.ins, OkI I) : Calls Try.prog 10 #[.agg #[.int .i64 (C).stage, v, .int .i64 (C).regs, .int .i64 (C).attr, .int .i64 (C).unif, .int .i64 (C).vary]] w fun e w' => e = .returned (.bool true) ∧ Ext w w' := by
  have HV := hide h
  obtain ⟨ao, ca, rfl, _⟩ := h
  have HX : Hid (Ext w (w.alloc (.cells #[.int .i64 (C).stage, .slice ao C.ins.length ca, .int .i64 (C).regs, .int .i64 (C).attr, .int .i64 (C).unif, .int .i64 (C).vary] 26))) := (Ext.refl w).alloc _
  have HCA : Hid (Blk (w.alloc (.cells #[.int .i64 (C).stage, .slice ao C.ins.length ca, .int .i64 (C).regs, .int .i64 (C).attr, .int .i64 (C).unif, .int .i64 (C).vary] 26)) w.heap.size #[.int .i64 (C).stage, .slice ao C.ins.length ca, .int .i64 (C).regs, .int .i64 (C).attr, .int .i64 (C).unif, .int .i64 (C).vary] 26) := Blk.new w _ _
  obtain ⟨F, hF⟩ : ∃ F, F = fewC C := ⟨_, rfl⟩
  have HOF : Hid (∀ I ∈ F.ins, OkI I) := by subst hF; exact few_ok hok
  have hFl : F.ins.length ≤ 4097 := by subst hF; exact fewC_len C
  have HFC : Hid (∀ wx, Ext w wx → Calls Try.prog 24 #[.agg #[.int .i64 (C).stage, .slice ao C.ins.length ca, .int .i64 (C).regs, .int .i64 (C).attr, .int .i64 (C).unif, .int .i64 (C).vary]] wx (FewR F wx)) := fun wx hx => by subst hF; exact few_any C _ wx ((unhide HV).ext hx)
  clear hF HV hok
  go_enter Try.func10, Try.ntmps10
  go_wp2_with (first
    | refine wpList_load_row rfl 26 (.tmp 1) rfl w.heap.size rfl 26 #[.int .i64 (C).stage, .slice ao C.ins.length ca, .int .i64 (C).regs, .int .i64 (C).attr, .int .i64 (C).unif, .int .i64 (C).vary] (0, 0) _ (unhide HCA) Try.underlying26 rfl size6 ?_
    | (go_at_call 9999))
  generalize w.alloc (.cells #[.int .i64 (C).stage, .slice ao C.ins.length ca, .int .i64 (C).regs, .int .i64 (C).attr, .int .i64 (C).unif, .int .i64 (C).vary] 26) = w0 at HX HCA ⊢
  refine (unhide HFC _ (unhide HX)).mono ?_
  rintro e w1 ⟨am, cm, rfl, hio, hx1⟩
  have HB1 := hide ((unhide HCA).ext hx1)
  have hxw1 := (unhide HX).trans hx1
  have HX2 := hide (extRow (b := w.heap.size) (cs := #[.int .i64 (F).stage, .slice am F.ins.length cm, .int .i64 (F).regs, .int .i64 (F).attr, .int .i64 (F).unif, .int .i64 (F).vary]) hxw1 (Nat.le_refl _))
  have HB2 := hide ((unhide HB1).rowC (cs' := #[.int .i64 (F).stage, .slice am F.ins.length cm, .int .i64 (F).regs, .int .i64 (F).attr, .int .i64 (F).unif, .int .i64 (F).vary]))
  have HIO := hide (hio.kept9 (grownBy_row _ _ #[.int .i64 (F).stage, .slice am F.ins.length cm, .int .i64 (F).regs, .int .i64 (F).attr, .int .i64 (F).unif, .int .i64 (F).vary]) (hio.neB (unhide HB1) (by decide)))
  clear hio hx1 hxw1 HX HCA HFC
  go_upto_region 2 with (refine wpList_store_row rfl 26 (.tmp 1) (.tmp 12) rfl w.heap.size #[.int .i64 (F).stage, .slice am F.ins.length cm, .int .i64 (F).regs, .int .i64 (F).attr, .int .i64 (F).unif, .int .i64 (F).vary] rfl rfl 26 _ (unhide HB1) size6 rfl (by simp [Value.oneCell']) ?_)
  generalize w1.setRow w.heap.size #[.int .i64 (F).stage, .slice am F.ins.length cm, .int .i64 (F).regs, .int .i64 (F).attr, .int .i64 (F).unif, .int .i64 (F).vary] = w2 at HX2 HB2 HIO ⊢
  have HI1 := hide (unhide HIO).ir
  have HI2 := hide (few_readB (unhide HIO))
  clear HB1 HIO
  go_wp2_with (first
    | refine wpList_load_row rfl 26 (.tmp 1) rfl w.heap.size rfl 26 #[.int .i64 (F).stage, .slice am F.ins.length cm, .int .i64 (F).regs, .int .i64 (F).attr, .int .i64 (F).unif, .int .i64 (F).vary] (0, 0) _ (unhide HB2) Try.underlying26 rfl size6 ?_
    | (go_at_call 9999))
  refine (copied_any F _ w2 (unhide HI2) hFl).mono ?_
  rintro e w3 ⟨an, cn, rfl, hir3, hx3⟩
  have hi1 := unhide HI1
  have HS0 : Hid (CkS w F am an cm cn w3.heap.size (w3.alloc (.cells #[.int .i64 (F).stage, .slice an F.ins.length cn, .int .i64 (F).regs, .int .i64 (F).attr, .int .i64 (F).unif, .int .i64 (F).vary] 26))) := ⟨((unhide HX2).trans hx3).alloc _, ((unhide HB2).ext hx3).alloc _, Blk.new _ _ _, (hi1.ext hx3).ext ((Ext.refl w3).alloc _), ((unhide HI2).ext hx3).ext ((Ext.refl w3).alloc _), hir3.ext ((Ext.refl w3).alloc _)⟩
  clear hir3 hx3 hi1 HI1 HI2 HX2 HB2
  go_upto_region 3 with (refine wpList_storeLast rfl 26 (.tmp 3) (.tmp 14) rfl _ w3.heap.size rfl rfl #[.int .i64 (F).stage, .slice an F.ins.length cn, .int .i64 (F).regs, .int .i64 (F).attr, .int .i64 (F).unif, .int .i64 (F).vary] rfl 6 size6 rfl rfl (by simp [Value.oneCell']) ?_)
  generalize w3.alloc (.cells #[.int .i64 (F).stage, .slice an F.ins.length cn, .int .i64 (F).regs, .int .i64 (F).attr, .int .i64 (F).unif, .int .i64 (F).vary] 26) = w4 at HS0 ⊢
  generalize w3.heap.size = B3 at *
  have HLM := hide (fun hm => (may_regs (C := F) hm).1)
  cases hm : mayP F
  case false =>
    go_wp2_with (first
      | refine wpList_load_row rfl 26 (.tmp 3) rfl B3 rfl 26 #[.int .i64 (F).stage, .slice an F.ins.length cn, .int .i64 (F).regs, .int .i64 (F).attr, .int .i64 (F).unif, .int .i64 (F).vary] (0, 0) _ (unhide HS0).2.2.1 Try.underlying26 rfl size6 ?_
      | (go_at_call 9999))
    refine (refMay_any F _ w4 (unhide HS0).2.2.2.2.2).mono ?_
    rintro e w5 ⟨rfl, hx5⟩
    have HS5 := hide ((unhide HS0).ext hx5)
    clear hx5 HS0
    rw [hm]
    go_wp2_with (first
      | refine wpList_load_row rfl 26 (.tmp 1) rfl w.heap.size rfl 26 #[.int .i64 (F).stage, .slice am F.ins.length cm, .int .i64 (F).regs, .int .i64 (F).attr, .int .i64 (F).unif, .int .i64 (F).vary] (0, 0) _ (unhide HS5).2.1 Try.underlying26 rfl size6 ?_
      | (go_at_call 9999))
    refine (check_any F _ w5 (unhide HS5).2.2.2.2.1).mono ?_
    rintro e w6 ⟨rfl, hx6⟩
    have HS6 := hide ((unhide HS5).ext hx6)
    clear hx6 HS5
    rw [hm]
    rw [show chkI false = 260 from rfl]
    go_wp2_with (first
      | refine wpList_load_row rfl 26 (.tmp 1) rfl w.heap.size rfl 26 #[.int .i64 (F).stage, .slice am F.ins.length cm, .int .i64 (F).regs, .int .i64 (F).attr, .int .i64 (F).unif, .int .i64 (F).vary] (0, 0) _ (unhide HS6).2.1 Try.underlying26 rfl size6 ?_
      | (go_at_call 9999))
    refine (encode_bad F _ w6 (unhide HS6).2.2.2.2.1 hm).mono ?_
    rintro e w7 ⟨rfl, hx7⟩
    have HS7 := hide ((unhide HS6).ext hx7)
    clear hx7 HS6
    go_wp2_with (first
      | refine wpList_load_row rfl 26 (.tmp 1) rfl w.heap.size rfl 26 #[.int .i64 (F).stage, .slice am F.ins.length cm, .int .i64 (F).regs, .int .i64 (F).attr, .int .i64 (F).unif, .int .i64 (F).vary] (0, 0) _ (unhide HS7).2.1 Try.underlying26 rfl size6 ?_
      | (go_at_call 9999))
    refine (reach_bad F _ w7 (unhide HS7).2.2.2.2.1 hm).mono ?_
    rintro e w8 ⟨rfl, hx8⟩
    have HS8 := hide ((unhide HS7).ext hx8)
    clear hx8 HS7
    go_wp2_with (first
      | refine wpList_load_row rfl 26 (.tmp 1) rfl w.heap.size rfl 26 #[.int .i64 (F).stage, .slice am F.ins.length cm, .int .i64 (F).regs, .int .i64 (F).attr, .int .i64 (F).unif, .int .i64 (F).vary] (0, 0) _ (unhide HS8).2.1 Try.underlying26 rfl size6 ?_
      | refine wpList_load_row rfl 26 (.tmp 3) rfl B3 rfl 26 #[.int .i64 (F).stage, .slice an F.ins.length cn, .int .i64 (F).regs, .int .i64 (F).attr, .int .i64 (F).unif, .int .i64 (F).vary] (0, 0) _ (unhide HS8).2.2.1 Try.underlying26 rfl size6 ?_
      | (go_at_call 9999))
    refine (whole_any F F am an cm cn w8 (by omega) (unhide HS8).2.2.2.1 (unhide HS8).2.2.2.2.2 (sameC_refl F)).mono ?_
    rintro e w9 ⟨rfl, hx9⟩
    have HS9 := hide ((unhide HS8).ext hx9)
    clear hx9 HS8
    go_wp2
    go_ret
    exact ⟨rfl, (unhide HS9).1⟩
  case true =>
    have hFm := unhide HLM hm
    go_wp2_with (first
      | refine wpList_load_row rfl 26 (.tmp 3) rfl B3 rfl 26 #[.int .i64 (F).stage, .slice an F.ins.length cn, .int .i64 (F).regs, .int .i64 (F).attr, .int .i64 (F).unif, .int .i64 (F).vary] (0, 0) _ (unhide HS0).2.2.1 Try.underlying26 rfl size6 ?_
      | (go_at_call 9999))
    refine (refMay_any F _ w4 (unhide HS0).2.2.2.2.2).mono ?_
    rintro e w5 ⟨rfl, hx5⟩
    have HS5 := hide ((unhide HS0).ext hx5)
    clear hx5 HS0
    rw [hm]
    go_wp2_with (first
      | refine wpList_load_row rfl 26 (.tmp 1) rfl w.heap.size rfl 26 #[.int .i64 (F).stage, .slice am F.ins.length cm, .int .i64 (F).regs, .int .i64 (F).attr, .int .i64 (F).unif, .int .i64 (F).vary] (0, 0) _ (unhide HS5).2.1 Try.underlying26 rfl size6 ?_
      | (go_at_call 9999))
    refine (check_any F _ w5 (unhide HS5).2.2.2.2.1).mono ?_
    rintro e w6 ⟨rfl, hx6⟩
    have HS6 := hide ((unhide HS5).ext hx6)
    clear hx6 HS5
    rw [hm]
    rw [show chkI true = 0 from rfl]
    go_wp2_with (first
      | refine wpList_load_row rfl 26 (.tmp 1) rfl w.heap.size rfl 26 #[.int .i64 (F).stage, .slice am F.ins.length cm, .int .i64 (F).regs, .int .i64 (F).attr, .int .i64 (F).unif, .int .i64 (F).vary] (0, 0) _ (unhide HS6).2.1 Try.underlying26 rfl size6 ?_
      | (go_at_call 9999))
    refine (encode_ok F _ w6 (unhide HS6).2.2.2.2.1 (unhide HOF) hm).mono ?_
    rintro e w7 ⟨ae, ce, rfl, hoe, hx7⟩
    have HS7 := hide ((unhide HS6).ext hx7)
    have HBY := hide (bytP_len F)
    obtain ⟨Y, hY⟩ : ∃ Y, Y = bytP F := ⟨_, rfl⟩
    rw [← hY] at hoe ⊢
    have HY := hide hY
    have HRE := hide hoe.row
    clear hx7 HS6 hoe hY
    obtain ⟨ny, hny⟩ : ∃ ny, ny = Y.length := ⟨_, rfl⟩
    rw [← hny]
    have HNY := hide hny
    clear hny
    go_wp2_with (first
      | refine wpList_load_row rfl 26 (.tmp 1) rfl w.heap.size rfl 26 #[.int .i64 (F).stage, .slice am F.ins.length cm, .int .i64 (F).regs, .int .i64 (F).attr, .int .i64 (F).unif, .int .i64 (F).vary] (0, 0) _ (unhide HS7).2.1 Try.underlying26 rfl size6 ?_
      | (go_at_call 9999))
    refine (reach_ok F _ w7 (unhide HS7).2.2.2.2.1 hm).mono ?_
    rintro e w8 ⟨g8, rfl, hb8, _, hx8⟩
    have HS8 := hide ((unhide HS7).ext hx8)
    have HRE8 := hide ((unhide HRE).below hx8)
    have HG8 := hide hb8
    clear hx8 HS7 hb8 HRE
    go_wp2_with (first
      | refine wpList_load_row rfl 26 (.tmp 1) rfl w.heap.size rfl 26 #[.int .i64 (F).stage, .slice am F.ins.length cm, .int .i64 (F).regs, .int .i64 (F).attr, .int .i64 (F).unif, .int .i64 (F).vary] (0, 0) _ (unhide HS8).2.1 Try.underlying26 rfl size6 ?_
      | refine wpList_load_row rfl 26 (.tmp 3) rfl B3 rfl 26 #[.int .i64 (F).stage, .slice an F.ins.length cn, .int .i64 (F).regs, .int .i64 (F).attr, .int .i64 (F).unif, .int .i64 (F).vary] (0, 0) _ (unhide HS8).2.2.1 Try.underlying26 rfl size6 ?_
      | (go_at_call 9999))
    refine (whole_any F F am an cm cn w8 (by omega) (unhide HS8).2.2.2.1 (unhide HS8).2.2.2.2.2 (sameC_refl F)).mono ?_
    rintro e w9 ⟨rfl, hx9⟩
    have HS9 := hide ((unhide HS8).ext hx9)
    have HRE9 := hide ((unhide HRE8).below hx9)
    have HG9 := hide ((unhide HG8).ext hx9)
    clear hx9 HS8 HRE8 HG8
    go_wp2_with (first
      | refine wpList_load_row rfl 26 (.tmp 3) rfl B3 rfl 26 #[.int .i64 (F).stage, .slice an F.ins.length cn, .int .i64 (F).regs, .int .i64 (F).attr, .int .i64 (F).unif, .int .i64 (F).vary] (0, 0) _ (unhide HS9).2.2.1 Try.underlying26 rfl size6 ?_
      | (go_at_call 9999))
    refine (refReach_any F _ w9 (unhide HS9).2.2.2.2.2 hm).mono ?_
    rintro e wa ⟨ga, rfl, hba, _, hxa⟩
    have HSa := hide ((unhide HS9).ext hxa)
    have HREa := hide ((unhide HRE9).below hxa)
    have HGa := hide ((unhide HG9).ext hxa)
    have HHa := hide hba
    clear hxa HS9 HRE9 HG9 hba
    go_wp2_with (first
      | refine wpList_load_row_wantC rfl 26 (.tmp 3) rfl B3 rfl 26 #[.int .i64 (F).stage, .slice an F.ins.length cn, .int .i64 (F).regs, .int .i64 (F).attr, .int .i64 (F).unif, .int .i64 (F).vary] (0, 0) _ (unhide HSa).2.2.1 Try.underlying26 rfl size6 ?_
      | (go_at_call 9999))
    refine (refBytes_any F _ wa (unhide HSa).2.2.2.2.2 (unhide HOF) hFm).mono ?_
    rintro e wb ⟨bo, l, cb, rfl, hrow, hxb⟩
    rw [← unhide HY] at hrow
    obtain ⟨_, _, el, _, _, _⟩ := hrow.shape
    have el2 := (Value.slice.inj el).2.1
    have HSb := hide ((unhide HSa).ext hxb)
    have HGb := hide ((unhide HGa).ext hxb)
    have HHb := hide ((unhide HHa).ext hxb)
    have HEQ : Hid (Calls Try.prog 8 #[.slice ae ny ce, .slice bo l cb] wb fun e w' => e = .returned (.bool true) ∧ w' = wb) := by
      have h1 := (unhide HREa).below hxb
      rw [el2] at hrow
      rw [Hid, el2, unhide HNY]
      exact equal_sameC ae bo ce cb Y wb h1 hrow
    clear hxb HSa HGa HHa HREa hrow el el2
    go_wp2_with (go_at_call 9999)
    refine (unhide HEQ).mono ?_
    rintro e wc ⟨rfl, rfl⟩
    clear HEQ
    obtain ⟨R, hR⟩ : ∃ R, R = reachP F.ins := ⟨_, rfl⟩
    rw [← hR] at HGb HHb
    have HRL : Hid (R.length = F.ins.length + 1) := by rw [Hid, hR]; exact reachTo_len _ _
    clear hR
    go_wp2
    go_loopw [72] (fun iv wr => ∃ k : Nat, k ≤ F.ins.length + 1 ∧ iv = .int .i64 (k : Int) ∧ Ext w wr ∧ Blk wr g8 (bcells R) 4 ∧ Blk wr ga (bcells R) 4) (fun iv _ => F.ins.length + 1 - (intOf iv).toNat)
    case atStart => exact ⟨0, Nat.zero_le _, rfl, (unhide HSb).1, unhide HGb, unhide HHb⟩
    case round =>
      clear HSb HGb HHb
      obtain ⟨k, hk, rfl, hx, hb1, hb2⟩ := hrel
      have D := hide (And.intro hx (And.intro hb1 hb2))
      by_cases hlt : k < F.ins.length + 1
      · have hk1 : (k : Int) < (F.ins.length : Int) + 1 := by omega
        have c1 := hb1.cell (bcells_at (r := R) (i := k) (by rw [unhide HRL]; omega))
        have c2 := hb2.cell (bcells_at (r := R) (i := k) (by rw [unhide HRL]; omega))
        clear hx hb1 hb2
        generalize R.getD k false = rk at *
        have hne : (rk != rk) = false := by simp
        go_upto_region 17 with fail
        go_quiet (fail)
        go_wp2
        go_roundw
        case rel => exact ⟨k + 1, by omega, by go_num, (unhide D).1.drewN _, (unhide D).2.1.drewN _, (unhide D).2.2.drewN _⟩
        case measure => simp [intOf]; omega
      · obtain rfl : k = F.ins.length + 1 := by omega
        clear hx hb1 hb2
        go_wp2
        go_ret
        exact ⟨rfl, (unhide D).1⟩
end Go.Proofs.Ytfoffnbkfnbglaa
