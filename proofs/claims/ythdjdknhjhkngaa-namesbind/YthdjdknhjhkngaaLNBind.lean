/-
  Proved: NamesBind answers true for every row of what is done, and turns nothing that was there: what is bound is an object, and is the one that was bound last, till it is deleted. No condition but the form's own bound on what is read.
-/
import Derived.Test.YthdjdknhjhkngaaNM
namespace Go.Proofs.Ythdjdknhjhkngaa
open Go.ChangeShapes Go.WideShapes Go.ChangeAt Go.RowKit
set_option linter.unusedVariables false
set_option linter.unusedSimpArgs false

set_option maxRecDepth 100000 in
set_option maxHeartbeats 4000000 in
theorem bind_walk (v : Value) (xs : List (Int × Int)) (w : World) (hr : ORow w v xs) :
    Calls Try.prog 7 #[v] w fun e w' => e = .returned (.bool true) ∧ Ext w w' := by
  go_enter Try.func7, Try.ntmps7
  go_wp2_with fail
  refine (wakes_any _).mono ?_
  rintro e w1 ⟨rfl, hx1⟩
  have HX1 := hide hx1
  have hs1 := hx1.size
  clear hx1
  go_wp2_with (first
    | (go_at_call 9; refine (new_any _).mono ?_; rintro e w2 ⟨rfl, rfl⟩)
    | (go_at_call 10; refine (few_some v xs w _ hr).mono ?_; rintro e w2 ⟨ys, ao, cap, rfl, hrow, hlen, rfl⟩; replace hrow := hide hrow))
  have hB0 : Blk (w1.alloc (.cells (nms .u8 nul 0) 55)) w1.heap.size (nms .u8 nul 0) 55 := Blk.at rfl
  have hX0 : Ext w (w1.alloc (.cells (nms .u8 nul 0) 55)) := (unhide HX1).alloc _
  have HX0 := hide (And.intro hB0 hX0)
  clear hB0 hX0 hr HX1
  go_loopw [19, 4] (fun i bv wr => ∃ (k : Nat) (s : Nat → Int) (b : Int), k ≤ ys.length ∧ i = .int .i64 (k : Int) ∧ bv = .int .i64 b ∧ Sane s b ∧ Blk wr w1.heap.size (nms .u8 s b) 55 ∧ Ext w wr) (fun i _ _ => ys.length - (intOf i).toNat)
  case atStart => exact ⟨0, nul, 0, Nat.zero_le _, rfl, rfl, Sane.new, (unhide HX0).1, (unhide HX0).2⟩
  case round =>
    clear HX0
    obtain ⟨k, s, b, hk, rfl, rfl, hS, hB, hX⟩ := hrel
    by_cases hlt : k < ys.length
    · obtain ⟨rb, ro, rfl, ck, cn⟩ := ((unhide hrow).ext hX).at k hlt
      obtain ⟨K, hK⟩ : ∃ K, ys[k].1 = K := ⟨_, rfl⟩
      obtain ⟨N, hN⟩ : ∃ N, ys[k].2 = N := ⟨_, rfl⟩
      rw [hK] at ck
      rw [hN] at cn
      have hszw := hX.size
      have hlB := hB.lt
      have H := hide (And.intro hB hX)
      clear hB hX hK hN
      have hkn : (k : Int) < (ys.length : Int) := by omega
      go_wp2_with fail
      have hkk := kind_any K N (wr.alloc (.cells #[.int .i64 K, .int .i64 N] 31))
      have ho : Blk (wr.alloc (.cells #[.int .i64 K, .int .i64 N] 31)) wr.heap.size #[.int .i64 K, .int .i64 N] 31 := Blk.at rfl
      have hb1 := (unhide H).1.alloc (.cells #[.int .i64 K, .int .i64 N] 31)
      have hx1 := (unhide H).2.alloc (.cells #[.int .i64 K, .int .i64 N] 31)
      have hk3 : kindI K = 0 ∨ kindI K = 1 ∨ kindI K = 2 := by unfold kindI; split <;> (try split) <;> omega
      rcases hk3 with hk3 | hk3 | hk3
      all_goals
        rw [hk3] at hkk
        refine hkk.mono ?_
        rintro e w3 ⟨rfl, hx3⟩
        replace ho := ho.ext hx3
        replace hb1 := hb1.ext hx3
        replace hx1 := hx1.trans hx3
        have cN : w3.cell? ⟨wr.heap.size, 1, none⟩ = some (.int .i64 N) := ho.cell (i := 1) rfl
        have hlo := ho.lt
        have HO := hide (And.intro ho (And.intro hb1 hx1))
        clear hkk ho hb1 hx1 hx3 hk3 ck cn H
      · go_wp2_with fail
        refine (gen_any w1.heap.size s b N _ (unhide HO).2.1).mono ?_
        rintro e w4 ⟨ao4, cap4, rfl, hown4, hbT, hg4⟩
        have hxT : Ext w w4 := Below.grown (unhide HO).2.2 hg4 (unhide HO).2.2.size (fun r e => by cases e; exact hs1)
        have hST := hS.gen (genN s N)
        generalize setL s (genL s (genN s N)) = sT at *
        have HST := hide hST
        clear hown4 hg4 hST HO cN
        have HT := hide (And.intro hbT hxT)
        clear hbT hxT
        by_cases hb0 : b = 0
        · have hd0 : (b != 0) = false := by simp [hb0]
          have HB0 := hide hb0
          clear hb0
          go_wp2_with (first
            | (go_at_call 18; refine (bound_any w1.heap.size (sT) (b) _ (unhide HT).1).mono ?_; rintro e w9 ⟨rfl, rfl⟩))
          go_roundw
          case rel => exact ⟨k + 1, sT, b, by omega, by go_num, rfl, unhide HST, (unhide HT).1, (unhide HT).2⟩
          case measure => simp [intOf]; omega
        · have hd0 : (b != 0) = true := by simp [hb0]
          have hd1 : (stI (sT) (b) == 2) = true := by
            have h1 := (unhide HST).bobj hb0
            have h2 := (unhide HST).blow
            have h3 := (unhide HST).bhigh
            unfold stI
            rw [if_pos ⟨h2, h3⟩, h1]
            rfl
          have HB0 := hide hb0
          clear hb0
          go_wp2_with (first
            | (go_at_call 18; refine (bound_any w1.heap.size (sT) (b) _ (unhide HT).1).mono ?_; rintro e w9 ⟨rfl, rfl⟩)
            | (go_at_call 19; refine (is_any w1.heap.size (sT) (b) _ _ (unhide HT).1).mono ?_; rintro e w9 ⟨rfl, rfl⟩))
          go_roundw
          case rel => exact ⟨k + 1, sT, b, by omega, by go_num, rfl, unhide HST, (unhide HT).1, (unhide HT).2⟩
          case measure => simp [intOf]; omega
      · go_wp2_with fail
        refine (is_any w1.heap.size s b N _ (unhide HO).2.1).mono ?_
        rintro e w5 ⟨rfl, rfl⟩
        have hc := bind_any w1.heap.size s b N w5 (unhide HO).2.1
        have hST := hS.bnd N
        by_cases hbad : N < 0 ∨ 64 < N
        · have eM : bndM s N = false := by unfold bndM; rw [decide_eq_false (by omega), Bool.false_and]
          have eB : bndB b N = b := by unfold bndB; rw [if_neg (by omega)]
          rw [eM, eB, refI_bad hbad] at hc
          rw [eB] at hST
          clear eM eB hbad
          generalize bndS s N = sT at *
          go_wp2_with fail
          refine hc.mono ?_
          rintro e w4 ⟨rfl, hbT, hg4⟩
          have hxT : Ext w w4 := Below.grown (unhide HO).2.2 hg4 (unhide HO).2.2.size (fun r e => by cases e; exact hs1)
          have ho4 := (unhide HO).1.grown hg4 (by omega)
          have cN4 : w4.cell? ⟨wr.heap.size, 1, none⟩ = some (.int .i64 N) := ho4.cell (i := 1) rfl
          have HST := hide hST
          clear hg4 hST HO cN ho4 hc
          have HT := hide (And.intro hbT hxT)
          clear hbT hxT
          by_cases hb0 : b = 0
          · have hd0 : (b != 0) = false := by simp [hb0]
            have HB0 := hide hb0
            clear hb0
            go_wp2_with (first
              | (go_at_call 18; refine (bound_any w1.heap.size (sT) (b) _ (unhide HT).1).mono ?_; rintro e w9 ⟨rfl, rfl⟩))
            go_roundw
            case rel => exact ⟨k + 1, sT, b, by omega, by go_num, rfl, unhide HST, (unhide HT).1, (unhide HT).2⟩
            case measure => simp [intOf]; omega
          · have hd0 : (b != 0) = true := by simp [hb0]
            have hd1 : (stI (sT) (b) == 2) = true := by
              have h1 := (unhide HST).bobj hb0
              have h2 := (unhide HST).blow
              have h3 := (unhide HST).bhigh
              unfold stI
              rw [if_pos ⟨h2, h3⟩, h1]
              rfl
            have HB0 := hide hb0
            clear hb0
            go_wp2_with (first
              | (go_at_call 18; refine (bound_any w1.heap.size (sT) (b) _ (unhide HT).1).mono ?_; rintro e w9 ⟨rfl, rfl⟩)
              | (go_at_call 19; refine (is_any w1.heap.size (sT) (b) _ _ (unhide HT).1).mono ?_; rintro e w9 ⟨rfl, rfl⟩))
            go_roundw
            case rel => exact ⟨k + 1, sT, b, by omega, by go_num, rfl, unhide HST, (unhide HT).1, (unhide HT).2⟩
            case measure => simp [intOf]; omega
        · by_cases hN0 : N = 0
          · subst hN0
            have eM : bndM s 0 = false := by unfold bndM; rw [decide_eq_false (by omega), Bool.false_and]
            have eB : bndB b 0 = 0 := by unfold bndB; rw [if_pos (by omega)]
            rw [eM, eB, refI_ok (by omega) (by omega)] at hc
            rw [eB] at hST
            clear eM eB hbad
            generalize bndS s 0 = sT at *
            go_wp2_with fail
            refine hc.mono ?_
            rintro e w4 ⟨rfl, hbT, hg4⟩
            have hxT : Ext w w4 := Below.grown (unhide HO).2.2 hg4 (unhide HO).2.2.size (fun r e => by cases e; exact hs1)
            have ho4 := (unhide HO).1.grown hg4 (by omega)
            have cN4 : w4.cell? ⟨wr.heap.size, 1, none⟩ = some (.int .i64 0) := ho4.cell (i := 1) rfl
            have HST := hide hST
            clear hg4 hST HO cN ho4 hc
            have HT := hide (And.intro hbT hxT)
            clear hbT hxT
            go_wp2_with (first
              | (go_at_call 18; refine (bound_any w1.heap.size (sT) (0) _ (unhide HT).1).mono ?_; rintro e w9 ⟨rfl, rfl⟩))
            go_roundw
            case rel => exact ⟨k + 1, sT, 0, by omega, by go_num, rfl, unhide HST, (unhide HT).1, (unhide HT).2⟩
            case measure => simp [intOf]; omega
          · have eM : bndM s N = (stI s N != 2) := by unfold bndM; rw [decide_eq_true (by omega), Bool.true_and]
            have eB : bndB b N = N := by unfold bndB; rw [if_pos (by omega)]
            rw [eM, eB, refI_ok (by omega) (by omega)] at hc
            rw [eB] at hST
            have hN1 : (N != 0) = true := by simp [hN0]
            have hb0 := hN0
            have hcmp : (stI s N != 2) = !(stI s N == 2) := rfl
            rw [hcmp] at hc
            have hbool : ((!(stI s N == 2)) != !(stI s N == 2)) = false := by simp
            clear eM eB hbad hN0 hcmp
            generalize bndS s N = sT at *
            generalize (stI s N == 2) = was at *
            go_wp2_with fail
            refine hc.mono ?_
            rintro e w4 ⟨rfl, hbT, hg4⟩
            have hxT : Ext w w4 := Below.grown (unhide HO).2.2 hg4 (unhide HO).2.2.size (fun r e => by cases e; exact hs1)
            have ho4 := (unhide HO).1.grown hg4 (by omega)
            have cN4 : w4.cell? ⟨wr.heap.size, 1, none⟩ = some (.int .i64 N) := ho4.cell (i := 1) rfl
            have HST := hide hST
            clear hg4 hST HO cN ho4 hc
            have HT := hide (And.intro hbT hxT)
            clear hbT hxT
            have hd0 : (N != 0) = true := by simp [hb0]
            have hd1 : (stI (sT) (N) == 2) = true := by
              have h1 := (unhide HST).bobj hb0
              have h2 := (unhide HST).blow
              have h3 := (unhide HST).bhigh
              unfold stI
              rw [if_pos ⟨h2, h3⟩, h1]
              rfl
            have HB0 := hide hb0
            clear hb0
            go_wp2_with (first
              | (go_at_call 18; refine (bound_any w1.heap.size (sT) (N) _ (unhide HT).1).mono ?_; rintro e w9 ⟨rfl, rfl⟩)
              | (go_at_call 19; refine (is_any w1.heap.size (sT) (N) _ _ (unhide HT).1).mono ?_; rintro e w9 ⟨rfl, rfl⟩))
            go_roundw
            case rel => exact ⟨k + 1, sT, N, by omega, by go_num, rfl, unhide HST, (unhide HT).1, (unhide HT).2⟩
            case measure => simp [intOf]; omega
      · go_wp2_with fail
        refine (is_any w1.heap.size s b N _ (unhide HO).2.1).mono ?_
        rintro e w5 ⟨rfl, rfl⟩
        have hc := delete_any w1.heap.size s b N w5 hS (unhide HO).2.1
        have hST := hS.dele N
        have hbl := hS.blow
        have hbh := hS.bhigh
        have hU : (stI (delS s N) N != 0) = false := by
          by_cases hbad : N < 0 ∨ 64 < N
          · rw [stI_bad _ hbad]; rfl
          · obtain ⟨n, rfl⟩ := Int.eq_ofNat_of_zero_le (show 0 ≤ N by omega)
            rw [delS_all s hS.zero (by omega), stI_nat _ (by omega)]
            unfold upd
            simp
        generalize hds : delS s N = sT at *
        generalize hws : (stI s N == 2) = was at *
        have hww : (was != was) = false := by simp
        clear hds hws
        by_cases hbad : N < 0 ∨ 64 < N
        · have eB : delB b N = b := by unfold delB; rw [if_neg (by omega)]
          rw [eB, refI_bad hbad] at hc
          rw [eB] at hST
          clear eB hbad
          go_wp2_with fail
          refine hc.mono ?_
          rintro e w4 ⟨rfl, hbT, hg4⟩
          have hxT : Ext w w4 := Below.grown (unhide HO).2.2 hg4 (unhide HO).2.2.size (fun r e => by cases e; exact hs1)
          have ho4 := (unhide HO).1.grown hg4 (by omega)
          have cN4 : w4.cell? ⟨wr.heap.size, 1, none⟩ = some (.int .i64 N) := ho4.cell (i := 1) rfl
          have HST := hide hST
          clear hg4 hST HO cN ho4 hc
          go_wp2_with (first
            | (go_at_call 20; refine (used_any w1.heap.size sT b N _ hbT).mono ?_; rintro e w9 ⟨rfl, rfl⟩))
          have HT := hide (And.intro hbT hxT)
          clear hbT hxT
          by_cases hb0 : b = 0
          · have hd0 : (b != 0) = false := by simp [hb0]
            have HB0 := hide hb0
            clear hb0
            go_wp2_with (first
              | (go_at_call 18; refine (bound_any w1.heap.size (sT) (b) _ (unhide HT).1).mono ?_; rintro e w9 ⟨rfl, rfl⟩))
            go_roundw
            case rel => exact ⟨k + 1, sT, b, by omega, by go_num, rfl, unhide HST, (unhide HT).1, (unhide HT).2⟩
            case measure => simp [intOf]; omega
          · have hd0 : (b != 0) = true := by simp [hb0]
            have hd1 : (stI (sT) (b) == 2) = true := by
              have h1 := (unhide HST).bobj hb0
              have h2 := (unhide HST).blow
              have h3 := (unhide HST).bhigh
              unfold stI
              rw [if_pos ⟨h2, h3⟩, h1]
              rfl
            have HB0 := hide hb0
            clear hb0
            go_wp2_with (first
              | (go_at_call 18; refine (bound_any w1.heap.size (sT) (b) _ (unhide HT).1).mono ?_; rintro e w9 ⟨rfl, rfl⟩)
              | (go_at_call 19; refine (is_any w1.heap.size (sT) (b) _ _ (unhide HT).1).mono ?_; rintro e w9 ⟨rfl, rfl⟩))
            go_roundw
            case rel => exact ⟨k + 1, sT, b, by omega, by go_num, rfl, unhide HST, (unhide HT).1, (unhide HT).2⟩
            case measure => simp [intOf]; omega
        · rw [refI_ok (by omega) (by omega)] at hc
          by_cases hbN : N = b
          · have eB : delB b N = 0 := by unfold delB; rw [if_pos hbN.symm]
            rw [eB] at hc hST
            have hd : (N == b) = true := by simp [hbN]
            have HBN := hide hbN
            clear eB hbad hbN
            go_wp2_with fail
            refine hc.mono ?_
            rintro e w4 ⟨rfl, hbT, hg4⟩
            have hxT : Ext w w4 := Below.grown (unhide HO).2.2 hg4 (unhide HO).2.2.size (fun r e => by cases e; exact hs1)
            have ho4 := (unhide HO).1.grown hg4 (by omega)
            have cN4 : w4.cell? ⟨wr.heap.size, 1, none⟩ = some (.int .i64 N) := ho4.cell (i := 1) rfl
            have HST := hide hST
            clear hg4 hST HO cN ho4 hc
            go_wp2_with (first
              | (go_at_call 20; refine (used_any w1.heap.size sT 0 N _ hbT).mono ?_; rintro e w9 ⟨rfl, rfl⟩))
            have HT := hide (And.intro hbT hxT)
            clear hbT hxT
            go_wp2_with (first
              | (go_at_call 18; refine (bound_any w1.heap.size (sT) (0) _ (unhide HT).1).mono ?_; rintro e w9 ⟨rfl, rfl⟩))
            go_roundw
            case rel => exact ⟨k + 1, sT, 0, by omega, by go_num, rfl, unhide HST, (unhide HT).1, (unhide HT).2⟩
            case measure => simp [intOf]; omega
          · have eB : delB b N = b := by unfold delB; rw [if_neg (Ne.symm hbN)]
            rw [eB] at hc hST
            have hd : (N == b) = false := by simp [hbN]
            have HBN := hide hbN
            clear eB hbad hbN
            go_wp2_with fail
            refine hc.mono ?_
            rintro e w4 ⟨rfl, hbT, hg4⟩
            have hxT : Ext w w4 := Below.grown (unhide HO).2.2 hg4 (unhide HO).2.2.size (fun r e => by cases e; exact hs1)
            have ho4 := (unhide HO).1.grown hg4 (by omega)
            have cN4 : w4.cell? ⟨wr.heap.size, 1, none⟩ = some (.int .i64 N) := ho4.cell (i := 1) rfl
            have HST := hide hST
            clear hg4 hST HO cN ho4 hc
            go_wp2_with (first
              | (go_at_call 20; refine (used_any w1.heap.size sT b N _ hbT).mono ?_; rintro e w9 ⟨rfl, rfl⟩))
            have HT := hide (And.intro hbT hxT)
            clear hbT hxT
            by_cases hb0 : b = 0
            · have hd0 : (b != 0) = false := by simp [hb0]
              have HB0 := hide hb0
              clear hb0
              go_wp2_with (first
                | (go_at_call 18; refine (bound_any w1.heap.size (sT) (b) _ (unhide HT).1).mono ?_; rintro e w9 ⟨rfl, rfl⟩))
              go_roundw
              case rel => exact ⟨k + 1, sT, b, by omega, by go_num, rfl, unhide HST, (unhide HT).1, (unhide HT).2⟩
              case measure => simp [intOf]; omega
            · have hd0 : (b != 0) = true := by simp [hb0]
              have hd1 : (stI (sT) (b) == 2) = true := by
                have h1 := (unhide HST).bobj hb0
                have h2 := (unhide HST).blow
                have h3 := (unhide HST).bhigh
                unfold stI
                rw [if_pos ⟨h2, h3⟩, h1]
                rfl
              have HB0 := hide hb0
              clear hb0
              go_wp2_with (first
                | (go_at_call 18; refine (bound_any w1.heap.size (sT) (b) _ (unhide HT).1).mono ?_; rintro e w9 ⟨rfl, rfl⟩)
                | (go_at_call 19; refine (is_any w1.heap.size (sT) (b) _ _ (unhide HT).1).mono ?_; rintro e w9 ⟨rfl, rfl⟩))
              go_roundw
              case rel => exact ⟨k + 1, sT, b, by omega, by go_num, rfl, unhide HST, (unhide HT).1, (unhide HT).2⟩
              case measure => simp [intOf]; omega
    · obtain rfl : k = ys.length := by omega
      clear hS hB
      have HX := hide hX
      clear hX
      go_wp2
      go_ret
      exact ⟨rfl, unhide HX⟩

theorem bind_owes (H : Type) (enc : TypeId × Value → H) (W : World) (base : Nat) (args : Array Value) (ds : List (DataW H)) (p : List MemPlace) : Owes H enc Try.prog 7 Try.f7 Rows.namesBindSpec W base args ds p := by
  intro hval hA hsz
  rw [Try.params7] at hA hval hsz
  obtain ⟨v0, vs0, d0, ds0, p0, q0, hargs, rfl, rfl, h0, r0⟩ := trodAll_cons hA
  obtain ⟨rfl, rfl, rfl⟩ := trodAll_nil r0
  obtain rfl : args = #[v0] := by cases args; simp_all
  obtain ⟨xs, hrow⟩ := open_ops (hval 0 22 v0 rfl rfl) h0
  exact ⟨⟨rfl, rfl, rfl⟩, bind_walk v0 xs W hrow⟩

set_option maxRecDepth 100000 in
theorem bind_lifted (os : Os) (started : os.Started) (H : Type) (enc : TypeId × Value → H) :
    ReturnsInHanded {} Try.checked os 7 .any (Rows.namesBindSpec.pre6 enc Try.prog Try.f7 [] false) (Rows.namesBindSpec.post enc Try.prog Try.f7 false true false false) :=
  lift_law (C := Try.checked) own laidOut started (by kernel_rfl) Try.func7 (T := 4) rfl Try.underlying4 rfl (by kernel_rfl)
    (ChangeSpec.witness6 (enc := enc) (C := Try.checked) false ⟨#[], #[.slice none 0 0], []⟩ 8 (by kernel_rfl) (by kernel_rfl) (by kernel_rfl) (by kernel_rfl)) (bind_owes H enc)

theorem namesBind_holds : Rows.NamesBindSaid :=
  OpenClaim.holds_of_wide 7 Try.f7 rfl rfl rfl rfl rfl rfl rfl ⟨rfl, rfl, rfl, rfl, rfl⟩ rfl rfl rfl rfl rfl (by kernel_rfl) Try.func7 (by kernel_rfl)
    (of_decide_eq_true (by kernel_rfl)) (by unfold Func.isWrapper; rw [if_neg (of_decide_eq_false (by kernel_rfl))]; exact ⟨rfl, rfl⟩)
    (fun os started H enc _ => bind_lifted os started H enc)
#print axioms namesBind_holds
end Go.Proofs.Ythdjdknhjhkngaa
