/-
  Proved: NamesLeast answers true for every row of what is done and every count, and turns nothing that was there: the least free names are given out, as many as are asked for, or none. No condition but the form's own bound on what is read.
-/
import Derived.Test.YthdjdknhjhkngaaNO
namespace Go.Proofs.Ythdjdknhjhkngaa
open Go.ChangeShapes Go.WideShapes Go.ChangeAt Go.RowKit
set_option linter.unusedVariables false
set_option linter.unusedSimpArgs false

set_option maxRecDepth 100000 in
set_option maxHeartbeats 4000000 in
theorem least_walk (v : Value) (count : Int) (xs : List (Int × Int)) (w : World) (hr : ORow w v xs) :
    Calls Try.prog 6 #[v, .int .i64 count] w fun e w' => e = .returned (.bool true) ∧ Ext w w' := by
  go_enter Try.func6, Try.ntmps6
  go_wp2_with fail
  refine (wakes_any _).mono ?_
  rintro e w1 ⟨rfl, hx1⟩
  have HX1 := hide hx1
  have hs1 := hx1.size
  clear hx1
  go_wp2_with (first
    | (go_at_call 9; refine (new_any _).mono ?_; rintro e w2 ⟨rfl, rfl⟩)
    | (go_at_call 10; refine (few_some v xs w _ hr).mono ?_; rintro e w2 ⟨ys, ao, cap, rfl, hrow, hlen, rfl⟩; replace hrow := hide hrow))
  have hB0 : Blk (w1.alloc (.cells (nms .u8 nul 0) 55)) w1.heap.size (nms .u8 nul 0) 55 := Blk.at rfl
  have hX0 : Ext w (w1.alloc (.cells (nms .u8 nul 0) 55)) := (unhide HX1).alloc _
  have HX0 := hide (And.intro hB0 hX0)
  clear hB0 hX0 hr HX1
  go_loopw [23] (fun i wr => ∃ (k : Nat) (s : Nat → Int) (b : Int), k ≤ ys.length ∧ i = .int .i64 (k : Int) ∧ Sane s b ∧ Blk wr w1.heap.size (nms .u8 s b) 55 ∧ Ext w wr) (fun i _ => ys.length - (intOf i).toNat)
  case atStart => exact ⟨0, nul, 0, Nat.zero_le _, rfl, Sane.new, (unhide HX0).1, (unhide HX0).2⟩
  case round =>
    clear HX0
    obtain ⟨k, s, b, hk, rfl, hS, hB, hX⟩ := hrel
    by_cases hlt : k < ys.length
    · obtain ⟨rb, ro, rfl, ck, cn⟩ := ((unhide hrow).ext hX).at k hlt
      obtain ⟨K, hK⟩ : ∃ K, ys[k].1 = K := ⟨_, rfl⟩
      obtain ⟨N, hN⟩ : ∃ N, ys[k].2 = N := ⟨_, rfl⟩
      rw [hK] at ck
      rw [hN] at cn
      have hszw := hX.size
      have hlB := hB.lt
      have H := hide (And.intro hB hX)
      clear hB hX hK hN
      have hkn : (k : Int) < (ys.length : Int) := by omega
      go_wp2_with fail
      have hkk := kind_any K N (wr.alloc (.cells #[.int .i64 K, .int .i64 N] 31))
      have ho : Blk (wr.alloc (.cells #[.int .i64 K, .int .i64 N] 31)) wr.heap.size #[.int .i64 K, .int .i64 N] 31 := Blk.at rfl
      have hb1 := (unhide H).1.alloc (.cells #[.int .i64 K, .int .i64 N] 31)
      have hx1 := (unhide H).2.alloc (.cells #[.int .i64 K, .int .i64 N] 31)
      have hk3 : kindI K = 0 ∨ kindI K = 1 ∨ kindI K = 2 := by unfold kindI; split <;> (try split) <;> omega
      rcases hk3 with hk3 | hk3 | hk3
      all_goals
        rw [hk3] at hkk
        refine hkk.mono ?_
        rintro e w3 ⟨rfl, hx3⟩
        replace ho := ho.ext hx3
        replace hb1 := hb1.ext hx3
        replace hx1 := hx1.trans hx3
        have cN : w3.cell? ⟨wr.heap.size, 1, none⟩ = some (.int .i64 N) := ho.cell (i := 1) rfl
        have hlo := ho.lt
        have HO := hide (And.intro ho (And.intro hb1 hx1))
        clear hkk ho hb1 hx1 hx3 hk3 ck cn H
      · go_wp2_with fail
        refine (gen_any w1.heap.size s b N _ (unhide HO).2.1).mono ?_
        rintro e w4 ⟨ao4, cap4, rfl, hown4, hbT, hg4⟩
        have hxT : Ext w w4 := Below.grown (unhide HO).2.2 hg4 (unhide HO).2.2.size (fun r e => by cases e; exact hs1)
        have HT := hide (And.intro hbT hxT)
        have HST := hide (hS.gen (genN s N))
        clear hbT hxT hg4 HO cN
        go_wp2
        go_roundw
        case rel => exact ⟨k + 1, _, _, by omega, by go_num, unhide HST, (unhide HT).1, (unhide HT).2⟩
        case measure => simp [intOf]; omega
      · go_wp2_with fail
        refine (bind_any w1.heap.size s b N _ (unhide HO).2.1).mono ?_
        rintro e w4 ⟨rfl, hbT, hg4⟩
        have hxT : Ext w w4 := Below.grown (unhide HO).2.2 hg4 (unhide HO).2.2.size (fun r e => by cases e; exact hs1)
        have HT := hide (And.intro hbT hxT)
        have HST := hide (hS.bnd N)
        clear hbT hxT hg4 HO cN
        go_wp2
        go_roundw
        case rel => exact ⟨k + 1, _, _, by omega, by go_num, unhide HST, (unhide HT).1, (unhide HT).2⟩
        case measure => simp [intOf]; omega
      · go_wp2_with fail
        refine (delete_any w1.heap.size s b N _ hS (unhide HO).2.1).mono ?_
        rintro e w4 ⟨rfl, hbT, hg4⟩
        have hxT : Ext w w4 := Below.grown (unhide HO).2.2 hg4 (unhide HO).2.2.size (fun r e => by cases e; exact hs1)
        have HT := hide (And.intro hbT hxT)
        have HST := hide (hS.dele N)
        clear hbT hxT hg4 HO cN
        go_wp2
        go_roundw
        case rel => exact ⟨k + 1, _, _, by omega, by go_num, unhide HST, (unhide HT).1, (unhide HT).2⟩
        case measure => simp [intOf]; omega
    · obtain rfl : k = ys.length := by omega
      have hlB := hB.lt
      have hszw := hX.size
      have H := hide (And.intro hB hX)
      clear hB hX hlt hk hrow
      have hmm := @run_makeMap Try.prog
      go_wp2
      clear hmm
      have hFM0 : FM (wr.alloc (.map #[] 0)) wr.heap.size s 0 := FM.new wr s
      have hB3 := (unhide H).1.alloc (.map #[] 0)
      have hX3 := (unhide H).2.alloc (.map #[] 0)
      generalize wr.alloc (.map #[] 0) = W3 at hFM0 hB3 hX3 ⊢
      generalize wr.heap.size = M at hFM0 hlB hszw ⊢
      have G := hide (And.intro hFM0 (And.intro hB3 hX3))
      clear hFM0 hB3 hX3 H
      go_loopw [9] (fun i wx => ∃ q : Nat, q ≤ 64 ∧ i = .int .i64 ((q : Int) + 1) ∧ FM wx M s q ∧ Blk wx w1.heap.size (nms .u8 s b) 55 ∧ Ext w wx) (fun i _ => 65 - (intOf i).toNat)
      case atStart => exact ⟨0, by omega, rfl, (unhide G).1, (unhide G).2.1, (unhide G).2.2⟩
      case round =>
        clear G
        obtain ⟨q, hq, rfl, hF, hB, hX⟩ := hrel
        have hMl := hF.lt
        by_cases hlt : q < 64
        · have hu0 := used_any w1.heap.size s b ((q : Int) + 1) wr hB
          rw [show (q : Int) + 1 = ((q + 1 : Nat) : Int) by omega, stI_nat s (by omega)] at hu0
          rw [show ((q + 1 : Nat) : Int) = (q : Int) + 1 by omega] at hu0
          obtain ⟨y, hy⟩ : ∃ y, (s (q + 1) != 0) = y := ⟨_, rfl⟩
          rw [hy] at hu0
          have HU := hide hu0
          have HY := hide hy
          have H := hide (And.intro hF (And.intro hB hX))
          have hq1 : (q : Int) + 1 ≤ 64 := by omega
          clear hu0 hy hF hB hX
          go_wp2_with (first
            | (go_at_call 20; refine (unhide HU).mono ?_; rintro e w9 ⟨rfl, rfl⟩)
            | (refine wpList_FM rfl (.tmp 51) (.tmp 52) (.tmp 56) rfl M s q (by omega) (unhide H).1 rfl rfl _ rfl (by rw [unhide HY]) ?_; intro w4 hF4 hg4; have H4 := hide (And.intro hF4 (And.intro ((unhide H).2.1.grown hg4 (by omega)) (show Ext w w4 from Below.grown (unhide H).2.2 hg4 (unhide H).2.2.size (fun r e => by cases e; omega)))); clear hF4 hg4))
          go_roundw
          case rel => exact ⟨q + 1, by omega, by go_num, (unhide H4).1, (unhide H4).2.1, (unhide H4).2.2⟩
          case measure => simp [intOf]; omega
        · obtain rfl : q = 64 := by omega
          have hlBr := hB.lt
          have H := hide (And.intro hF (And.intro hB hX))
          clear hF hB hX hlt hq
          go_wp2_with fail
          refine (left_any w1.heap.size s b _ (unhide H).2.1).mono ?_
          rintro e w5 ⟨rfl, hx5⟩
          have hB5 := (unhide H).2.1.ext hx5
          have hF5 := (unhide H).1.kept (grownBy_of_ext (r := none) hx5) (by simp)
          have hX5 := (unhide H).2.2.trans hx5
          have hs5 := hx5.size
          have H5 := hide (And.intro hF5 (And.intro hB5 hX5))
          clear hF5 hB5 hX5 hx5 H
          have hgen := gen_any w1.heap.size s b count w5 (unhide H5).2.1
          by_cases hbad : count < 0 ∨ ((sel s 0 64).length : Int) < count
          · have hn0 : genN s count = 0 := by unfold genN; split <;> omega
            rw [hn0, genL_zero, setL_nil] at hgen
            by_cases hneg : count < 0
            · rw [show genE s count = 2 by unfold genE; rw [if_pos hneg]] at hgen
              have hd : decide (count < 0) = true := by simp [hneg]
              generalize hL : (sel s 0 64).length = L at *
              have HL := hide hL
              clear hn0 hbad hL
              go_wp2_with fail
              refine hgen.mono ?_
              rintro e w6 ⟨ao6, cap6, rfl, hown6, hB6, hg6⟩
              have hX6 : Ext w w6 := Below.grown (unhide H5).2.2 hg6 (unhide H5).2.2.size (fun r e => by cases e; exact hs1)
              have H6 := hide (And.intro hB6 hX6)
              clear hgen hown6 hB6 hg6 hX6 H5
              go_wp2_with fail
              refine (left_any w1.heap.size s b _ (unhide H6).1).mono ?_
              rintro e w7 ⟨rfl, hx7⟩
              rw [unhide HL]
              have H7 := hide ((unhide H6).2.trans hx7)
              clear hx7 H6
              go_wp2
              go_ret
              exact ⟨rfl, unhide H7⟩
            · rw [show genE s count = 6 by unfold genE; rw [if_neg hneg, if_neg (by omega)]] at hgen
              have hgt : ((sel s 0 64).length : Int) < count := by omega
              generalize hL : (sel s 0 64).length = L at *
              have HL := hide hL
              clear hn0 hbad hL
              go_wp2_with fail
              refine hgen.mono ?_
              rintro e w6 ⟨ao6, cap6, rfl, hown6, hB6, hg6⟩
              have hX6 : Ext w w6 := Below.grown (unhide H5).2.2 hg6 (unhide H5).2.2.size (fun r e => by cases e; exact hs1)
              have H6 := hide (And.intro hB6 hX6)
              clear hgen hown6 hB6 hg6 hX6 H5
              go_wp2_with fail
              refine (left_any w1.heap.size s b _ (unhide H6).1).mono ?_
              rintro e w7 ⟨rfl, hx7⟩
              rw [unhide HL]
              have H7 := hide ((unhide H6).2.trans hx7)
              clear hx7 H6
              go_wp2
              go_ret
              exact ⟨rfl, unhide H7⟩
          · obtain ⟨m, rfl⟩ := Int.eq_ofNat_of_zero_le (show 0 ≤ count by omega)
            have hm : m ≤ (sel s 0 64).length := by omega
            have hm64 : m ≤ 64 := Nat.le_trans hm (sel_bound s 0 64)
            rw [show genN s (m : Int) = m by unfold genN; rw [if_pos (by omega)]; simp, show genE s (m : Int) = 0 by unfold genE; rw [if_neg (by omega), if_pos (by omega)]] at hgen
            have hLL := left_behind hm
            have hL64 := sel_bound s 0 64
            have hlen2 := genL_length hm
            have hprop : ∀ jj (hjj : jj < (genL s m).length), ahead (genL s m) jj < (genL s m)[jj] ∧ (genL s m)[jj] ≤ 64 ∧ s (genL s m)[jj] = 0 ∧ ∀ k, ahead (genL s m) jj < k → k < (genL s m)[jj] → s k ≠ 0 := fun jj hjj =>
              ⟨gen_rise hjj, (genL_mem (List.getElem_mem hjj)).2.1, (genL_mem (List.getElem_mem hjj)).2.2, fun k h1 h2 => gen_none hjj h1 h2⟩
            generalize hs' : setL s (genL s m) = s' at *
            have hset : ∀ x ∈ genL s m, s' x = 1 := fun x hx => by rw [← hs']; unfold setL; rw [if_pos hx]
            generalize genL s m = l at *
            generalize hL : (sel s 0 64).length = L at *
            generalize hL2 : (sel s' 0 64).length = L2 at *
            have hdif : ((L2 : Int) != (L : Int) - (m : Int)) = false := by
              rw [show (L2 : Int) = (L : Int) - (m : Int) by omega]
              simp
            have hdif2 : ((L2 : Int) != wrap64 ((L : Int) - (m : Int))) = false := by
              rw [show wrap64 ((L : Int) - (m : Int)) = (L2 : Int) by unfold wrap64; omega]
              simp
            have hmL : (m : Int) ≤ (L : Int) := by omega
            have HP := hide hprop
            have HSet := hide hset
            have HL := hide hL2
            clear hprop hset hbad hL hLL hs' hL2
            have hge : decide ((m : Int) < 0) = false := by simp
            have hge2 : decide ((L : Int) < (m : Int)) = false := by simp; omega
            go_wp2_with fail
            refine hgen.mono ?_
            rintro e w6 ⟨ao6, cap6, rfl, hown6, hB6, hg6⟩
            have hX6 : Ext w w6 := Below.grown (unhide H5).2.2 hg6 (unhide H5).2.2.size (fun r e => by cases e; exact hs1)
            have hF6 := (unhide H5).1.kept hg6 (by simp; omega)
            have H6 := hide (And.intro hB6 (And.intro hX6 (And.intro hown6.row hF6)))
            clear hgen hown6 hB6 hg6 hX6 hF6 H5
            go_wp2_with fail
            refine (left_any w1.heap.size s' b _ (unhide H6).1).mono ?_
            rintro e w7 ⟨rfl, hx7⟩
            rw [unhide HL]
            have H7 := hide (And.intro ((unhide H6).1.ext hx7) (And.intro ((unhide H6).2.1.trans hx7) (And.intro ((unhide H6).2.2.1.ext hx7) ((unhide H6).2.2.2.kept (grownBy_of_ext (r := none) hx7) (by simp)))))
            clear hx7 H6
            go_wp2
            clear hdif hdif2 hmL hge hge2 HL
            go_loopw [103, 13] (fun i lv wx => ∃ jj : Nat, jj ≤ m ∧ i = .int .i64 (jj : Int) ∧ lv = .int .i64 ((ahead l jj : Nat) : Int) ∧ wx = w7) (fun i _ _ => m - (intOf i).toNat)
            case atStart => exact ⟨0, Nat.zero_le _, rfl, rfl, rfl⟩
            case round =>
              obtain ⟨jj, hj, rfl, rfl, rfl⟩ := hrel
              by_cases hjm : jj < m
              · have hjl : jj < l.length := by omega
                obtain ⟨p1, p2, p3, p4⟩ := unhide HP jj hjl
                have p5 := unhide HSet _ (List.getElem_mem hjl)
                obtain ⟨lb, lo, rfl, hcell⟩ := (unhide H7).2.2.1.at jj (by rw [ints_length]; exact hjl)
                have hck := hcell jj (by rw [ints_length]; exact hjl)
                rw [show (ints l)[jj]'(by rw [ints_length]; exact hjl) = ((l[jj] : Nat) : Int) by simp [ints]] at hck
                have hnx : ahead l (jj + 1) = l[jj] := by unfold ahead; rw [if_neg (by omega)]; simp [hjl]
                have HNX := hide hnx
                clear hcell hnx
                generalize l[jj] = x at *
                generalize ahead l jj = pr at *
                have hjm2 : (jj : Int) < (m : Int) := by omega
                have hu1 := used_any w1.heap.size s' b (x : Int) wr (unhide H7).1
                have hi1 := is_any w1.heap.size s' b (x : Int) wr (unhide H7).1
                rw [stI_nat s' p2, p5] at hu1 hi1
                have HU := hide hu1
                have HI := hide hi1
                have hlx := (unhide H7).2.2.2.look (Nat.le_refl _) x (by omega) p2
                rw [p3] at hlx
                have HLX := hide hlx
                have P4 := hide p4
                have hpr : (pr : Int) ≤ 63 := by omega
                clear hu1 hi1 hlx p4 p5 p3
                go_wp2_with fail
                go_loopw [16] (fun i wx => ∃ q : Nat, pr < q ∧ q ≤ x ∧ i = .int .i64 (q : Int) ∧ wx = wr) (fun i _ => x - (intOf i).toNat)
                case atStart => exact ⟨pr + 1, by omega, by omega, by go_num, rfl⟩
                case round =>
                  obtain ⟨q, hq1, hq2, rfl, rfl⟩ := hrel
                  by_cases hqx : q < x
                  · have hlq := (unhide H7).2.2.2.look (Nat.le_refl _) q (by omega) (by omega)
                    rw [show (s q != 0) = true by simp [unhide P4 q hq1 hqx]] at hlq
                    have hqx2 : (q : Int) < (x : Int) := by omega
                    go_wp2
                    go_roundw
                    case rel => exact ⟨q + 1, by omega, by omega, by go_num, trivial⟩
                    case measure => simp [intOf]; omega
                  · obtain rfl : q = x := by omega
                    have hlx := unhide HLX
                    have hpq : decide ((q : Int) ≤ (pr : Int)) = false := by simp; omega
                    go_wp2_with (first
                      | (go_at_call 20; refine (unhide HU).mono ?_; rintro e w9 ⟨rfl, rfl⟩)
                      | (go_at_call 19; refine (unhide HI).mono ?_; rintro e w9 ⟨rfl, rfl⟩))
                    go_roundw
                    case rel => exact ⟨jj + 1, by omega, by go_num, by rw [unhide HNX], trivial⟩
                    case measure => simp [intOf]; omega
              · obtain rfl : jj = m := by omega
                go_wp2
                go_ret
                exact ⟨rfl, (unhide H7).2.1⟩

theorem least_owes (H : Type) (enc : TypeId × Value → H) (W : World) (base : Nat) (args : Array Value) (ds : List (DataW H)) (p : List MemPlace) : Owes H enc Try.prog 6 Try.f6 Rows.namesLeastSpec W base args ds p := by
  intro hval hA hsz
  rw [Try.params6] at hA hval hsz
  obtain ⟨v0, vs0, d0, ds0, p0, q0, hargs, rfl, rfl, h0, r0⟩ := trodAll_cons hA
  obtain ⟨v1, vs1, d1, ds1, p1, q1, rfl, rfl, rfl, h1, r1⟩ := trodAll_cons r0
  obtain ⟨rfl, rfl, rfl⟩ := trodAll_nil r1
  obtain rfl : args = #[v0, v1] := by cases args; simp_all
  obtain ⟨xs, hrow⟩ := open_ops (hval 0 22 v0 rfl rfl) h0
  obtain ⟨n, rfl, hn⟩ := open_int Try.underlying3 (hval 1 3 v1 rfl rfl) h1
  exact ⟨⟨rfl, rfl, rfl⟩, least_walk v0 n xs W hrow⟩

set_option maxRecDepth 100000 in
theorem least_lifted (os : Os) (started : os.Started) (H : Type) (enc : TypeId × Value → H) :
    ReturnsInHanded {} Try.checked os 6 .any (Rows.namesLeastSpec.pre6 enc Try.prog Try.f6 [] false) (Rows.namesLeastSpec.post enc Try.prog Try.f6 false true false false) :=
  lift_law (C := Try.checked) own laidOut started (by kernel_rfl) Try.func6 (T := 4) rfl Try.underlying4 rfl (by kernel_rfl)
    (ChangeSpec.witness6 (enc := enc) (C := Try.checked) false ⟨#[], #[.slice none 0 0, .int .i64 0], []⟩ 8 (by kernel_rfl) (by kernel_rfl) (by kernel_rfl) (by kernel_rfl)) (least_owes H enc)

theorem namesLeast_holds : Rows.NamesLeastSaid :=
  OpenClaim.holds_of_wide 6 Try.f6 rfl rfl rfl rfl rfl rfl rfl ⟨rfl, rfl, rfl, rfl, rfl⟩ rfl rfl rfl rfl rfl (by kernel_rfl) Try.func6 (by kernel_rfl)
    (of_decide_eq_true (by kernel_rfl)) (by unfold Func.isWrapper; rw [if_neg (of_decide_eq_false (by kernel_rfl))]; exact ⟨rfl, rfl⟩)
    (fun os started H enc _ => least_lifted os started H enc)
#print axioms namesLeast_holds
end Go.Proofs.Ythdjdknhjhkngaa
