/-
  Proved: NamesDo answers true for every row of what is done, and turns nothing that was there: names are given out, bound and deleted as the document says, and the objects are told, rising, twice. No condition but the form's own bound on what is read.
-/
import Derived.Test.YthdjdknhjhkngaaNP
import Derived.LoopN
namespace Go.Proofs.Ythdjdknhjhkngaa
open Go.ChangeShapes Go.WideShapes Go.ChangeAt Go.RowKit Go.Shelf
set_option linter.unusedVariables false
set_option linter.unusedSimpArgs false
attribute [local go_sem] Oper.semAt_some

theorem seq_notnil (lb : Array Value) (w : World) : (binOp .eql 36 (.func (.func 32) #[] lb) .nilFunc).run Try.prog w = .ok (.bool false) w := by kernel_rfl

set_option maxRecDepth 100000 in
set_option maxHeartbeats 4000000 in
theorem do_walk (v1 : Value) (x1 : List (Int × Int)) (w : World) (r0 : ORow w v1 x1) :
    Calls Try.prog 3 #[v1] w fun e w' => e = .returned (.bool true) ∧ Ext w w' := by
  have hz := zero_ref
  refine (callsIn_wide (n := 9)).1 ?_
  refine callsIn_of_wp_marks Try.func3 rfl trivial ?_ rfl
  simp only [Try.ntmps3, List.size_toArray, List.length_cons, List.length_nil, Nat.reduceAdd, Nat.reduceSub, Array.replicate_succ, Array.replicate_zero, List.push_toArray, List.append_toArray, List.nil_append, List.cons_append]
  refine wpIn_wide.2 ?_
  go_wp2_with fail
  have hQ0 : Blk (w.alloc (.cells #[.bool false] 4)) w.heap.size #[.bool false] 4 := Blk.at rfl
  have hXq : Ext w (w.alloc (.cells #[.bool false] 4)) := (Ext.refl w).alloc _
  generalize w.alloc (.cells #[.bool false] 4) = wq at hQ0 hXq ⊢
  have r1 := r0.ext hXq
  have hqs := hQ0.lt
  have HQ := hide (And.intro hQ0 hXq)
  clear hQ0 hXq r0
  refine (wakes_any _).mono ?_
  rintro e w1 ⟨rfl, hx1⟩
  have HX1 := hide hx1
  have hs1 := hx1.size
  clear hx1
  go_wp2_with (first
    | (go_at_call 9; refine (new_any _).mono ?_; rintro e w2 ⟨rfl, rfl⟩)
    | refine wpList_buildTo rfl 28 _ rfl (some 16) rfl (nms .i64 nul 0) (by kernel_rfl) ?_
    | refine wpList_store_at rfl 28 (.tmp 4) (.tmp 16) rfl _ (w1.heap.size + 1) (by simp) rfl (nms .i64 nul 0) rfl 66 size_ref (nms_size _ _ _) (nms_size _ _ _) (nms_one _ _ _) ?_
    | (go_at_call 10; refine (few_some v1 x1 wq _ r1).mono ?_; rintro e wf ⟨y1, ao1, cap1, rfl, hrow, hlen1, rfl⟩; have hrow1 := hide hrow; clear hrow))
  have hB0 : Blk ((w1.alloc (.cells (nms .u8 nul 0) 55)).alloc (.cells (nms .i64 nul 0) 28)) w1.heap.size (nms .u8 nul 0) 55 := (Blk.at rfl).alloc _
  have hY0 : Blk ((w1.alloc (.cells (nms .u8 nul 0) 55)).alloc (.cells (nms .i64 nul 0) 28)) (w1.heap.size + 1) (nms .i64 nul 0) 28 := Blk.at (by simp)
  have hX0 : Ext wq ((w1.alloc (.cells (nms .u8 nul 0) 55)).alloc (.cells (nms .i64 nul 0) 28)) := ((unhide HX1).alloc _).alloc _
  have H0 := hide (And.intro hB0 (And.intro hY0 hX0))
  clear hB0 hY0 hX0 HX1 r1
  go_loopw [20] (fun i wr => ∃ (k : Nat) (sA : Nat → Int) (bA : Int), k ≤ y1.length ∧ i = .int .i64 (k : Int) ∧ Sane sA bA ∧ Blk wr (w1.heap.size) (nms .u8 sA bA) 55 ∧ Blk wr (w1.heap.size + 1) (nms .i64 sA bA) 28 ∧ Ext wq wr) (fun i _ => y1.length - (intOf i).toNat)
  case atStart => exact ⟨0, nul, 0, Nat.zero_le _, rfl, Sane.new, (unhide H0).1, (unhide H0).2.1, (unhide H0).2.2⟩
  case round =>
    obtain ⟨k, sA, bA, hk, rfl, hS, hB, hY, hX⟩ := hrel
    by_cases hlt : k < y1.length
    · obtain ⟨rb, ro, rfl, ck, cn⟩ := ((unhide hrow1).ext hX).at k hlt
      obtain ⟨K, hK⟩ : ∃ K, y1[k].1 = K := ⟨_, rfl⟩
      obtain ⟨N, hN⟩ : ∃ N, y1[k].2 = N := ⟨_, rfl⟩
      rw [hK] at ck
      rw [hN] at cn
      have hlB := hB.lt
      have hlY := hY.lt
      have hkn : (k : Int) < (y1.length : Int) := by omega
      have H := hide (And.intro hB (And.intro hY (hX)))
      have HS := hide hS
      clear hB hY hX hK hN hS 
      go_wp2_with fail
      refine (does_any (w1.heap.size) (w1.heap.size + 1) sA bA K N _ (unhide HS) ((unhide H).1.alloc _) ((unhide H).2.1.alloc _) (by omega)).mono ?_
      rintro e w3 ⟨rfl, hb3, hy3, ht3⟩
      have ht4 : Tw (w1.heap.size) (w1.heap.size + 1) wr w3 := (Tw.ext ((Ext.refl wr).alloc _)).trans ht3
      have hST := (unhide HS).op K N
      generalize opS sA K N = s3 at *
      generalize opB bA K N = b3 at *
      have HS3 := hide hST
      have H3 := hide (And.intro hb3 (And.intro hy3 ht4))
      clear hb3 hy3 ht3 ht4 ck cn hST
      go_wp2_with (refine wpList_load_row_want (by rfl) 28 (.tmp 4) rfl (w1.heap.size + 1) rfl 28 (nms .i64 s3 b3) (0, 0) _ ((unhide H3).2.1) Try.underlying28 rfl (by rw [nms_size]; exact size_ref) ?_)
      refine (agree_any w1.heap.size s3 b3 _ (unhide HS3) (unhide H3).1).mono ?_
      rintro e w5 ⟨rfl, hx5⟩
      have H5 := hide (And.intro ((unhide H3).1.ext hx5) (And.intro ((unhide H3).2.1.ext hx5) ((Ext.tw (unhide H).2.2 (unhide H3).2.2 (by omega) (by omega)).trans hx5)))
      clear hx5
      go_wp2
      go_roundw
      case rel => exact ⟨k + 1, s3, b3, by omega, by go_num, unhide HS3, (unhide H5).1, (unhide H5).2.1, (unhide H5).2.2⟩
      case measure => simp [intOf]; omega
    · obtain rfl : k = y1.length := by omega
      have HEA := hide (And.intro hS (And.intro hB (And.intro hY (hX))))
      have hlB := hB.lt
      have hlY := hY.lt
      clear hS hB hY hX 
      clear hk hlt H0
      have hnf := seq_notnil
      have hszw := (unhide HEA).2.2.2.size
      go_wp2_with (first
        | (go_at_call 13; refine (all_any w1.heap.size sA bA _ (unhide HEA).2.1).mono ?_; rintro e w4 ⟨rfl, rfl⟩))
      clear hnf hz
      have g1 := ((unhide HEA).2.2.1.alloc (.cells (nst .u8 sA) 53)).alloc (.cells #[.int .u8 2] 51)
      have g2 : Blk ((wr.alloc (.cells (nst .u8 sA) 53)).alloc (.cells #[.int .u8 2] 51)) wr.heap.size (nst .u8 sA) 53 := (Blk.at rfl).alloc _
      have g3 : Blk ((wr.alloc (.cells (nst .u8 sA) 53)).alloc (.cells #[.int .u8 2] 51)) (wr.heap.size + 1) #[.int .u8 2] 51 := Blk.at (by simp)
      have g4 := ((unhide HEA).2.2.2.alloc (.cells (nst .u8 sA) 53)).alloc (.cells #[.int .u8 2] 51)
      have g5 := (unhide HQ).1.ext g4
      have g6 := (unhide HQ).2.trans g4
      generalize ((wr.alloc (.cells (nst .u8 sA) 53)).alloc (.cells #[.int .u8 2] 51)) = wb at g1 g2 g3 g4 g5 g6 ⊢
      generalize wr.heap.size = Ba at g2 g3 hlB hlY hszw ⊢
      have hb1 := g1.lt
      have hb2 := g3.lt
      have hb3 := g5.lt
      have G := hide (And.intro g1 (And.intro g2 (And.intro g3 (And.intro g5 g6))))
      clear g1 g2 g3 g4 g5 g6 HEA HQ
      have hst0 : St wb [] wb := ⟨Below.refl _ _, fun D hD => by cases hD⟩
      have HST0 := hide hst0
      clear hst0
      refine wp_loop_rounds 3 ?_
      rw [rounds_succ]
      by_cases hE : sel sA 2 64 = []
      · have HE := hide hE
        clear hE
        go_wp2
        have q0 : Blk (wb.alloc (.cells #[.int .i64 0] 3)) wb.heap.size #[.int .i64 0] 3 := Blk.at rfl
        have q1 := (unhide HST0).alloc (.cells #[.int .i64 0] 3)
        generalize hWc : wb.alloc (.cells #[.int .i64 0] 3) = Wc at q0 q1 ⊢
        generalize hLb : wb.heap.size = Lb at q0 ⊢
        have hLb1 : wb.heap.size ≤ Lb := by rw [← hLb]; exact (unhide HST0).bel.size
        have hLb2 := q0.lt
        have hDl := q1.lt
        clear hWc hLb
        refine (wpIn_wide (n := 9)).1 ?_
        apply wpIn_rangeFunc_ownF (α := Nam sA 2) rfl (by omega) (gf := 32) (lb := #[.pointer (some ⟨Ba, 0, none⟩), .pointer (some ⟨Ba + 1, 0, none⟩)]) rfl trivial (enters_of Try.func32 (by kernel_rfl) rfl)
          (iter_stops (9 - 1) (by omega) sA 2 Ba (Ba + 1) wb (unhide G).2.1 (unhide G).2.2.1) Kept.trans (fun W l o o' hl _ _ _ => kept_put (by omega) (by omega)) q1.bel (fun _ => rfl)
          (fun pre W => Blk W Lb #[.int .i64 ((lastN (vals pre) : Nat) : Int)] 3 ∧ St wb [] W)
          (fun c pre W => c = .ret ∧ ¬ vals pre <+: sel sA 2 64)
          (fun pre A B' row hs hg hr => ⟨blk_kept hs.1 hg (fun r e => (hr r e).2), hs.2.own hg (fun r e => (hr r e).1) (by omega) hDl⟩)
          (fun _ _ _ _ _ hs _ _ => hs)
          ⟨q0, q1⟩
        case hassign =>
          intro l x W K hK
          have HK := hide hK
          clear hK
          gi_wp2
          exact unhide HK
        case hbody =>
          rintro l pre ⟨n, hn1, hn2, hn3⟩ W ⟨hc, hs⟩ hlt
          have hgood : vals (pre ++ [(⟨n, hn1, hn2, hn3⟩ : Nam sA 2)]) <+: sel sA 2 64 → lastN (vals pre) < n ∧ ∀ k, lastN (vals pre) < k → k < n → sA k ≠ 2 := fun h => by
            rw [vals_snoc] at h
            exact good_last h
          have hnx : lastN (vals (pre ++ [(⟨n, hn1, hn2, hn3⟩ : Nam sA 2)])) = n := by rw [vals_snoc, lastN_snoc]
          have HG := hide hgood
          have HNX := hide hnx
          clear hgood hnx hlt
          have c0 := hc.cell (i := 0) rfl
          have f0 := hc.free 0
          have hY : Blk W (w1.heap.size + 1) (nms .i64 sA bA) 28 := (unhide G).1.ext hs.bel
          have hQ : Blk W w.heap.size #[.bool false] 4 := (unhide G).2.2.2.1.ext hs.bel
          have cQ := hQ.cell (i := 0) rfl
          have fQ := hQ.free 0
          have cn := hY.cell (nms_get .i64 sA bA (i := n) (by omega))
          rw [hn3] at cn
          have HC := hide (And.intro hc (And.intro hs (And.intro hY hQ)))
          clear hc hs hY hQ
          generalize lastN (vals pre) = la at *
          have hn4 : (n : Int) ≤ 64 := by omega
          have hn5 : (n : Int) < 65 := by omega
          by_cases hle : n ≤ la
          · have hle2 : (n : Int) ≤ (la : Int) := by omega
            gi_wp2
            exact ⟨KeepsOthers.setCell _ _ _, rfl, fun h => by have := unhide HG h; omega⟩
          · have hle2 : ¬ (n : Int) ≤ (la : Int) := by omega
            have hdle : decide ((n : Int) ≤ (la : Int)) = false := by simp; omega
            have hla : (la : Int) ≤ 63 := by omega
            gi_wp2
            gi_loopw [11] (fun i wx => ∃ q : Nat, la < q ∧ q ≤ n ∧ i = .int .i64 (q : Int) ∧ wx = W) (fun i _ => n - (intOf i).toNat)
            case atStart => exact ⟨la + 1, by omega, by omega, by go_num, rfl⟩
            case round =>
              obtain ⟨q, hq1, hq2, rfl, rfl⟩ := hrel
              by_cases hqn : q < n
              · have hqn2 : (q : Int) < (n : Int) := by omega
                have cq := (unhide HC).2.2.1.cell (nms_get .i64 sA bA (i := q) (by omega))
                have hq65 : (q : Int) < 65 := by omega
                by_cases hs2 : sA q = 2
                · have hd2 : (sA q == 2) = true := by simp [hs2]
                  have HS2 := hide hs2
                  clear hs2
                  gi_wp2
                  exact ⟨KeepsOthers.setCell _ _ _, rfl, fun h => (unhide HG h).2 q (by omega) (by omega) (unhide HS2)⟩
                · have hd2 : (sA q == 2) = false := by simp [hs2]
                  have HS2 := hide hs2
                  clear hs2
                  gi_wp2
                  go_roundw
                  case rel => exact ⟨q + 1, by omega, by omega, by go_num, trivial⟩
                  case measure => simp [intOf]; omega
              · obtain rfl : q = n := by omega
                gi_wp2
                have hset := (unhide HC).1.set 0 (.int .i64 (q : Int))
                refine ⟨KeepsOthers.setCell _ _ _, ⟨heap_setCell_other _ _ _ _ (by simp; omega), heap_setCell_other _ _ _ _ (by simp; omega)⟩, ?_, (unhide HC).2.1.set hLb1 0 _⟩
                rw [unhide HNX]
                exact hset
        case hdone =>
          rintro D1 ys W hD hys ⟨hc, hs⟩ hK
          have c0 := hc.cell (i := 0) rfl
          rw [hys] at c0
          have hY : Blk W (w1.heap.size + 1) (nms .i64 sA bA) 28 := (unhide G).1.ext hs.bel
          have hst := hs.cons (Nat.le_trans q1.bel.size hD) hK
          have HC := hide (And.intro hst hY)
          have hltD1 : ∀ D ∈ [], D < D1 := fun D hD2 => Nat.lt_of_lt_of_le (hDl D hD2) hD
          clear hc hs hY hK hys hst q0 q1
          have hla : ∀ k, lastN (sel sA 2 64) < k → k ≤ 64 → sA k ≠ 2 := fun k h1 h2 => all_last h1 h2
          have hla2 : lastN (sel sA 2 64) ≤ 64 := by
            rcases List.eq_nil_or_concat (sel sA 2 64) with e | ⟨l', z, e⟩
            · rw [e]; decide
            · have hz : z ∈ sel sA 2 64 := by rw [e]; simp
              rw [e, List.concat_eq_append, lastN_snoc]
              exact (sel_mem.1 hz).2.1
          generalize lastN (sel sA 2 64) = la at *
          have HLA := hide hla
          clear hla
          go_wp2
          go_loopw [12] (fun i wx => ∃ q : Nat, la < q ∧ q ≤ 65 ∧ i = .int .i64 (q : Int) ∧ wx = W) (fun i _ => 65 - (intOf i).toNat)
          case atStart => exact ⟨la + 1, by omega, by omega, by go_num, rfl⟩
          case round =>
            obtain ⟨q, hq1, hq2, rfl, rfl⟩ := hrel
            by_cases hq : q ≤ 64
            · have hq64 : (q : Int) ≤ 64 := by omega
              have hq65 : (q : Int) < 65 := by omega
              have cq := (unhide HC).2.cell (nms_get .i64 sA bA (i := q) (by omega))
              have hd2 : (sA q == 2) = false := by simp [unhide HLA q hq1 hq]
              go_wp2
              go_roundw
              case rel => exact ⟨q + 1, by omega, by omega, by go_num, trivial⟩
              case measure => simp [intOf]; omega
            · obtain rfl : q = 65 := by omega
              go_wp2
              have hst2 := (unhide HC).1
              have hDl2 := hst2.lt
              refine (wpIn_wide (n := 9)).1 ?_
              apply wpIn_rangeFunc_ownF (α := Nam sA 2) rfl (by omega) (gf := 32) (lb := #[.pointer (some ⟨Ba, 0, none⟩), .pointer (some ⟨Ba + 1, 0, none⟩)]) rfl trivial (enters_of Try.func32 (by kernel_rfl) rfl)
                (iter_stops (9 - 1) (by omega) sA 2 Ba (Ba + 1) wb (unhide G).2.1 (unhide G).2.2.1) Kept.trans (fun W l o o' hl _ _ _ => by have := hst2.bel.size; exact kept_put (by omega) (by omega)) hst2.bel (fun _ => rfl)
                (fun pre W => pre = [] ∧ St wb [D1] W)
                (fun c pre W => (c = .exit 10 ∧ pre ≠ []) ∧ St wb [D1] W)
                (fun pre A B' row hs hg hr => ⟨hs.1, hs.2.own hg (fun r e => (hr r e).1) hst2.bel.size hDl2⟩)
                (fun c pre A B' row hs hg hr => ⟨hs.1, hs.2.own hg (fun r e => (hr r e).1) hst2.bel.size hDl2⟩)
                ⟨rfl, hst2⟩
              case hassign =>
                intro l x W K hK
                have HK := hide hK
                clear hK
                gi_wp2
                simp
                exact unhide HK
              case hbody =>
                rintro l pre x W ⟨rfl, hs⟩ hlt
                gi_wp2
                exact ⟨KeepsOthers.refl _, ⟨rfl, by simp⟩, hs⟩
              case hdone =>
                rintro D2 ys WD2 hDD2 hys ⟨hpre, hs⟩ hK
                have hst3 := hs.cons (Nat.le_trans hst2.bel.size hDD2) hK
                have HSTD2 := hide hst3
                have hltD2 : ∀ D ∈ [D1], D < D2 := fun D hD => Nat.lt_of_lt_of_le (hDl2 D hD) hDD2
                clear hs hK hst3 hst2 hDl2 HC
                go_wp2
                rw [rounds_succ]
                go_wp2
                have q0 : Blk (WD2.alloc (.cells #[.int .i64 0] 3)) WD2.heap.size #[.int .i64 0] 3 := Blk.at rfl
                have q1 := (unhide HSTD2).alloc (.cells #[.int .i64 0] 3)
                generalize hWc : WD2.alloc (.cells #[.int .i64 0] 3) = Wc at q0 q1 ⊢
                generalize hLb : WD2.heap.size = Lb at q0 ⊢
                have hLb1 : wb.heap.size ≤ Lb := by rw [← hLb]; exact (unhide HSTD2).bel.size
                have hLb2 := q0.lt
                have hDl := q1.lt
                clear hWc hLb
                refine (wpIn_wide (n := 9)).1 ?_
                apply wpIn_rangeFunc_ownF (α := Nam sA 2) rfl (by omega) (gf := 32) (lb := #[.pointer (some ⟨Ba, 0, none⟩), .pointer (some ⟨Ba + 1, 0, none⟩)]) rfl trivial (enters_of Try.func32 (by kernel_rfl) rfl)
                  (iter_stops (9 - 1) (by omega) sA 2 Ba (Ba + 1) wb (unhide G).2.1 (unhide G).2.2.1) Kept.trans (fun W l o o' hl _ _ _ => kept_put (by omega) (by omega)) q1.bel (fun _ => rfl)
                  (fun pre W => Blk W Lb #[.int .i64 ((lastN (vals pre) : Nat) : Int)] 3 ∧ St wb [D2, D1] W)
                  (fun c pre W => c = .ret ∧ ¬ vals pre <+: sel sA 2 64)
                  (fun pre A B' row hs hg hr => ⟨blk_kept hs.1 hg (fun r e => (hr r e).2), hs.2.own hg (fun r e => (hr r e).1) (by omega) hDl⟩)
                  (fun _ _ _ _ _ hs _ _ => hs)
                  ⟨q0, q1⟩
                case hassign =>
                  intro l x W K hK
                  have HK := hide hK
                  clear hK
                  gi_wp2
                  exact unhide HK
                case hbody =>
                  rintro l pre ⟨n, hn1, hn2, hn3⟩ W ⟨hc, hs⟩ hlt
                  have hgood : vals (pre ++ [(⟨n, hn1, hn2, hn3⟩ : Nam sA 2)]) <+: sel sA 2 64 → lastN (vals pre) < n ∧ ∀ k, lastN (vals pre) < k → k < n → sA k ≠ 2 := fun h => by
                    rw [vals_snoc] at h
                    exact good_last h
                  have hnx : lastN (vals (pre ++ [(⟨n, hn1, hn2, hn3⟩ : Nam sA 2)])) = n := by rw [vals_snoc, lastN_snoc]
                  have HG := hide hgood
                  have HNX := hide hnx
                  clear hgood hnx hlt
                  have c0 := hc.cell (i := 0) rfl
                  have f0 := hc.free 0
                  have hY : Blk W (w1.heap.size + 1) (nms .i64 sA bA) 28 := (unhide G).1.ext hs.bel
                  have hQ : Blk W w.heap.size #[.bool false] 4 := (unhide G).2.2.2.1.ext hs.bel
                  have cQ := hQ.cell (i := 0) rfl
                  have fQ := hQ.free 0
                  have cn := hY.cell (nms_get .i64 sA bA (i := n) (by omega))
                  rw [hn3] at cn
                  have HC := hide (And.intro hc (And.intro hs (And.intro hY hQ)))
                  clear hc hs hY hQ
                  generalize lastN (vals pre) = la at *
                  have hn4 : (n : Int) ≤ 64 := by omega
                  have hn5 : (n : Int) < 65 := by omega
                  by_cases hle : n ≤ la
                  · have hle2 : (n : Int) ≤ (la : Int) := by omega
                    gi_wp2
                    exact ⟨KeepsOthers.setCell _ _ _, rfl, fun h => by have := unhide HG h; omega⟩
                  · have hle2 : ¬ (n : Int) ≤ (la : Int) := by omega
                    have hdle : decide ((n : Int) ≤ (la : Int)) = false := by simp; omega
                    have hla : (la : Int) ≤ 63 := by omega
                    gi_wp2
                    gi_loopw [11] (fun i wx => ∃ q : Nat, la < q ∧ q ≤ n ∧ i = .int .i64 (q : Int) ∧ wx = W) (fun i _ => n - (intOf i).toNat)
                    case atStart => exact ⟨la + 1, by omega, by omega, by go_num, rfl⟩
                    case round =>
                      obtain ⟨q, hq1, hq2, rfl, rfl⟩ := hrel
                      by_cases hqn : q < n
                      · have hqn2 : (q : Int) < (n : Int) := by omega
                        have cq := (unhide HC).2.2.1.cell (nms_get .i64 sA bA (i := q) (by omega))
                        have hq65 : (q : Int) < 65 := by omega
                        by_cases hs2 : sA q = 2
                        · have hd2 : (sA q == 2) = true := by simp [hs2]
                          have HS2 := hide hs2
                          clear hs2
                          gi_wp2
                          exact ⟨KeepsOthers.setCell _ _ _, rfl, fun h => (unhide HG h).2 q (by omega) (by omega) (unhide HS2)⟩
                        · have hd2 : (sA q == 2) = false := by simp [hs2]
                          have HS2 := hide hs2
                          clear hs2
                          gi_wp2
                          go_roundw
                          case rel => exact ⟨q + 1, by omega, by omega, by go_num, trivial⟩
                          case measure => simp [intOf]; omega
                      · obtain rfl : q = n := by omega
                        gi_wp2
                        have hset := (unhide HC).1.set 0 (.int .i64 (q : Int))
                        refine ⟨KeepsOthers.setCell _ _ _, ⟨heap_setCell_other _ _ _ _ (by simp; omega), heap_setCell_other _ _ _ _ (by simp; omega)⟩, ?_, (unhide HC).2.1.set hLb1 0 _⟩
                        rw [unhide HNX]
                        exact hset
                case hdone =>
                  rintro D3 ys W hD hys ⟨hc, hs⟩ hK
                  have c0 := hc.cell (i := 0) rfl
                  rw [hys] at c0
                  have hY : Blk W (w1.heap.size + 1) (nms .i64 sA bA) 28 := (unhide G).1.ext hs.bel
                  have hst := hs.cons (Nat.le_trans q1.bel.size hD) hK
                  have HC := hide (And.intro hst hY)
                  have hltD3 : ∀ D ∈ [D2, D1], D < D3 := fun D hD2 => Nat.lt_of_lt_of_le (hDl D hD2) hD
                  clear hc hs hY hK hys hst q0 q1
                  have hla : ∀ k, lastN (sel sA 2 64) < k → k ≤ 64 → sA k ≠ 2 := fun k h1 h2 => all_last h1 h2
                  have hla2 : lastN (sel sA 2 64) ≤ 64 := by
                    rcases List.eq_nil_or_concat (sel sA 2 64) with e | ⟨l', z, e⟩
                    · rw [e]; decide
                    · have hz : z ∈ sel sA 2 64 := by rw [e]; simp
                      rw [e, List.concat_eq_append, lastN_snoc]
                      exact (sel_mem.1 hz).2.1
                  generalize lastN (sel sA 2 64) = la at *
                  have HLA := hide hla
                  clear hla
                  go_wp2
                  go_loopw [12] (fun i wx => ∃ q : Nat, la < q ∧ q ≤ 65 ∧ i = .int .i64 (q : Int) ∧ wx = W) (fun i _ => 65 - (intOf i).toNat)
                  case atStart => exact ⟨la + 1, by omega, by omega, by go_num, rfl⟩
                  case round =>
                    obtain ⟨q, hq1, hq2, rfl, rfl⟩ := hrel
                    by_cases hq : q ≤ 64
                    · have hq64 : (q : Int) ≤ 64 := by omega
                      have hq65 : (q : Int) < 65 := by omega
                      have cq := (unhide HC).2.cell (nms_get .i64 sA bA (i := q) (by omega))
                      have hd2 : (sA q == 2) = false := by simp [unhide HLA q hq1 hq]
                      go_wp2
                      go_roundw
                      case rel => exact ⟨q + 1, by omega, by omega, by go_num, trivial⟩
                      case measure => simp [intOf]; omega
                    · obtain rfl : q = 65 := by omega
                      go_wp2
                      have hst2 := (unhide HC).1
                      have hDl2 := hst2.lt
                      refine (wpIn_wide (n := 9)).1 ?_
                      apply wpIn_rangeFunc_ownF (α := Nam sA 2) rfl (by omega) (gf := 32) (lb := #[.pointer (some ⟨Ba, 0, none⟩), .pointer (some ⟨Ba + 1, 0, none⟩)]) rfl trivial (enters_of Try.func32 (by kernel_rfl) rfl)
                        (iter_stops (9 - 1) (by omega) sA 2 Ba (Ba + 1) wb (unhide G).2.1 (unhide G).2.2.1) Kept.trans (fun W l o o' hl _ _ _ => by have := hst2.bel.size; exact kept_put (by omega) (by omega)) hst2.bel (fun _ => rfl)
                        (fun pre W => pre = [] ∧ St wb [D3, D2, D1] W)
                        (fun c pre W => (c = .exit 10 ∧ pre ≠ []) ∧ St wb [D3, D2, D1] W)
                        (fun pre A B' row hs hg hr => ⟨hs.1, hs.2.own hg (fun r e => (hr r e).1) hst2.bel.size hDl2⟩)
                        (fun c pre A B' row hs hg hr => ⟨hs.1, hs.2.own hg (fun r e => (hr r e).1) hst2.bel.size hDl2⟩)
                        ⟨rfl, hst2⟩
                      case hassign =>
                        intro l x W K hK
                        have HK := hide hK
                        clear hK
                        gi_wp2
                        simp
                        exact unhide HK
                      case hbody =>
                        rintro l pre x W ⟨rfl, hs⟩ hlt
                        gi_wp2
                        exact ⟨KeepsOthers.refl _, ⟨rfl, by simp⟩, hs⟩
                      case hdone =>
                        rintro D4 ys WD4 hDD4 hys ⟨hpre, hs⟩ hK
                        have hst3 := hs.cons (Nat.le_trans hst2.bel.size hDD4) hK
                        have HSTD4 := hide hst3
                        have hltD4 : ∀ D ∈ [D3, D2, D1], D < D4 := fun D hD => Nat.lt_of_lt_of_le (hDl2 D hD) hDD4
                        clear hs hK hst3 hst2 hDl2 HC
                        go_wp2
                        rw [rounds_succ]
                        have hs4 := unhide HSTD4
                        have hQ : Blk WD4 w.heap.size #[.bool false] 4 := (unhide G).2.2.2.1.ext hs4.bel
                        have cQ := hQ.cell (i := 0) rfl
                        have fQ := hQ.free 0
                        have hQ2 : Blk (WD4.setCell ⟨w.heap.size, 0, none⟩ (.bool true)) w.heap.size #[.bool true] 4 := hQ.set 0 (.bool true)
                        have HQ4 := hide (And.intro hQ2 hs4)
                        clear hQ hQ2 hs4
                        go_wp2
                        obtain ⟨hQ2, hs4⟩ := unhide HQ4
                        have a1 := hltD2 D1 (by simp)
                        have a2 := hltD3 D2 (by simp)
                        have a3 := hltD4 D3 (by simp)
                        have hszb := hs4.bel.size
                        refine leaves_marks (b0 := wb.heap.size) [D4, D3, D2, D1] _ (by simpa using hszb) (by simp; omega) (fun D hD => ⟨(hs4.marks D hD).1, (KeepsOthers.setCell WD4 ⟨w.heap.size, 0, none⟩ (.bool true)).same D _ (hs4.marks D hD).2 rfl⟩) (fun W' hW' => ?_)
                        have hQ3 : Blk W' w.heap.size #[.bool true] 4 := (hW'.block _ hb3).trans hQ2
                        have hc5 : W'.cell? ⟨w.heap.size, 0, none⟩ = some (.bool true) := hQ3.cell (i := 0) rfl
                        have hXe : Ext w WD4 := (unhide G).2.2.2.2.trans hs4.bel
                        refine ⟨.bool true, ?_, rfl, (Below.setCell (p := ⟨w.heap.size, 0, none⟩) hXe (Nat.le_refl _) _).trans (hW'.mono (Nat.le_of_lt hb3))⟩
                        simp [results, Try.f3, go_sem, hc5]
                      case hstop =>
                        rintro D c pre W _ hpre ⟨⟨_, hne⟩, _⟩ _
                        rw [unhide HE] at hpre
                        have hv := List.prefix_nil.1 hpre
                        exact absurd (List.map_eq_nil_iff.1 hv) hne
                case hstop =>
                  rintro D c pre W _ hpre ⟨rfl, hn⟩ _
                  exact absurd hpre hn
              case hstop =>
                rintro D c pre W _ hpre ⟨⟨_, hne⟩, _⟩ _
                rw [unhide HE] at hpre
                have hv := List.prefix_nil.1 hpre
                exact absurd (List.map_eq_nil_iff.1 hv) hne
        case hstop =>
          rintro D c pre W _ hpre ⟨rfl, hn⟩ _
          exact absurd hpre hn
      · have HE := hide hE
        clear hE
        go_wp2
        have q0 : Blk (wb.alloc (.cells #[.int .i64 0] 3)) wb.heap.size #[.int .i64 0] 3 := Blk.at rfl
        have q1 := (unhide HST0).alloc (.cells #[.int .i64 0] 3)
        generalize hWc : wb.alloc (.cells #[.int .i64 0] 3) = Wc at q0 q1 ⊢
        generalize hLb : wb.heap.size = Lb at q0 ⊢
        have hLb1 : wb.heap.size ≤ Lb := by rw [← hLb]; exact (unhide HST0).bel.size
        have hLb2 := q0.lt
        have hDl := q1.lt
        clear hWc hLb
        refine (wpIn_wide (n := 9)).1 ?_
        apply wpIn_rangeFunc_ownF (α := Nam sA 2) rfl (by omega) (gf := 32) (lb := #[.pointer (some ⟨Ba, 0, none⟩), .pointer (some ⟨Ba + 1, 0, none⟩)]) rfl trivial (enters_of Try.func32 (by kernel_rfl) rfl)
          (iter_stops (9 - 1) (by omega) sA 2 Ba (Ba + 1) wb (unhide G).2.1 (unhide G).2.2.1) Kept.trans (fun W l o o' hl _ _ _ => kept_put (by omega) (by omega)) q1.bel (fun _ => rfl)
          (fun pre W => Blk W Lb #[.int .i64 ((lastN (vals pre) : Nat) : Int)] 3 ∧ St wb [] W)
          (fun c pre W => c = .ret ∧ ¬ vals pre <+: sel sA 2 64)
          (fun pre A B' row hs hg hr => ⟨blk_kept hs.1 hg (fun r e => (hr r e).2), hs.2.own hg (fun r e => (hr r e).1) (by omega) hDl⟩)
          (fun _ _ _ _ _ hs _ _ => hs)
          ⟨q0, q1⟩
        case hassign =>
          intro l x W K hK
          have HK := hide hK
          clear hK
          gi_wp2
          exact unhide HK
        case hbody =>
          rintro l pre ⟨n, hn1, hn2, hn3⟩ W ⟨hc, hs⟩ hlt
          have hgood : vals (pre ++ [(⟨n, hn1, hn2, hn3⟩ : Nam sA 2)]) <+: sel sA 2 64 → lastN (vals pre) < n ∧ ∀ k, lastN (vals pre) < k → k < n → sA k ≠ 2 := fun h => by
            rw [vals_snoc] at h
            exact good_last h
          have hnx : lastN (vals (pre ++ [(⟨n, hn1, hn2, hn3⟩ : Nam sA 2)])) = n := by rw [vals_snoc, lastN_snoc]
          have HG := hide hgood
          have HNX := hide hnx
          clear hgood hnx hlt
          have c0 := hc.cell (i := 0) rfl
          have f0 := hc.free 0
          have hY : Blk W (w1.heap.size + 1) (nms .i64 sA bA) 28 := (unhide G).1.ext hs.bel
          have hQ : Blk W w.heap.size #[.bool false] 4 := (unhide G).2.2.2.1.ext hs.bel
          have cQ := hQ.cell (i := 0) rfl
          have fQ := hQ.free 0
          have cn := hY.cell (nms_get .i64 sA bA (i := n) (by omega))
          rw [hn3] at cn
          have HC := hide (And.intro hc (And.intro hs (And.intro hY hQ)))
          clear hc hs hY hQ
          generalize lastN (vals pre) = la at *
          have hn4 : (n : Int) ≤ 64 := by omega
          have hn5 : (n : Int) < 65 := by omega
          by_cases hle : n ≤ la
          · have hle2 : (n : Int) ≤ (la : Int) := by omega
            gi_wp2
            exact ⟨KeepsOthers.setCell _ _ _, rfl, fun h => by have := unhide HG h; omega⟩
          · have hle2 : ¬ (n : Int) ≤ (la : Int) := by omega
            have hdle : decide ((n : Int) ≤ (la : Int)) = false := by simp; omega
            have hla : (la : Int) ≤ 63 := by omega
            gi_wp2
            gi_loopw [11] (fun i wx => ∃ q : Nat, la < q ∧ q ≤ n ∧ i = .int .i64 (q : Int) ∧ wx = W) (fun i _ => n - (intOf i).toNat)
            case atStart => exact ⟨la + 1, by omega, by omega, by go_num, rfl⟩
            case round =>
              obtain ⟨q, hq1, hq2, rfl, rfl⟩ := hrel
              by_cases hqn : q < n
              · have hqn2 : (q : Int) < (n : Int) := by omega
                have cq := (unhide HC).2.2.1.cell (nms_get .i64 sA bA (i := q) (by omega))
                have hq65 : (q : Int) < 65 := by omega
                by_cases hs2 : sA q = 2
                · have hd2 : (sA q == 2) = true := by simp [hs2]
                  have HS2 := hide hs2
                  clear hs2
                  gi_wp2
                  exact ⟨KeepsOthers.setCell _ _ _, rfl, fun h => (unhide HG h).2 q (by omega) (by omega) (unhide HS2)⟩
                · have hd2 : (sA q == 2) = false := by simp [hs2]
                  have HS2 := hide hs2
                  clear hs2
                  gi_wp2
                  go_roundw
                  case rel => exact ⟨q + 1, by omega, by omega, by go_num, trivial⟩
                  case measure => simp [intOf]; omega
              · obtain rfl : q = n := by omega
                gi_wp2
                have hset := (unhide HC).1.set 0 (.int .i64 (q : Int))
                refine ⟨KeepsOthers.setCell _ _ _, ⟨heap_setCell_other _ _ _ _ (by simp; omega), heap_setCell_other _ _ _ _ (by simp; omega)⟩, ?_, (unhide HC).2.1.set hLb1 0 _⟩
                rw [unhide HNX]
                exact hset
        case hdone =>
          rintro D1 ys W hD hys ⟨hc, hs⟩ hK
          have c0 := hc.cell (i := 0) rfl
          rw [hys] at c0
          have hY : Blk W (w1.heap.size + 1) (nms .i64 sA bA) 28 := (unhide G).1.ext hs.bel
          have hst := hs.cons (Nat.le_trans q1.bel.size hD) hK
          have HC := hide (And.intro hst hY)
          have hltD1 : ∀ D ∈ [], D < D1 := fun D hD2 => Nat.lt_of_lt_of_le (hDl D hD2) hD
          clear hc hs hY hK hys hst q0 q1
          have hla : ∀ k, lastN (sel sA 2 64) < k → k ≤ 64 → sA k ≠ 2 := fun k h1 h2 => all_last h1 h2
          have hla2 : lastN (sel sA 2 64) ≤ 64 := by
            rcases List.eq_nil_or_concat (sel sA 2 64) with e | ⟨l', z, e⟩
            · rw [e]; decide
            · have hz : z ∈ sel sA 2 64 := by rw [e]; simp
              rw [e, List.concat_eq_append, lastN_snoc]
              exact (sel_mem.1 hz).2.1
          generalize lastN (sel sA 2 64) = la at *
          have HLA := hide hla
          clear hla
          go_wp2
          go_loopw [12] (fun i wx => ∃ q : Nat, la < q ∧ q ≤ 65 ∧ i = .int .i64 (q : Int) ∧ wx = W) (fun i _ => 65 - (intOf i).toNat)
          case atStart => exact ⟨la + 1, by omega, by omega, by go_num, rfl⟩
          case round =>
            obtain ⟨q, hq1, hq2, rfl, rfl⟩ := hrel
            by_cases hq : q ≤ 64
            · have hq64 : (q : Int) ≤ 64 := by omega
              have hq65 : (q : Int) < 65 := by omega
              have cq := (unhide HC).2.cell (nms_get .i64 sA bA (i := q) (by omega))
              have hd2 : (sA q == 2) = false := by simp [unhide HLA q hq1 hq]
              go_wp2
              go_roundw
              case rel => exact ⟨q + 1, by omega, by omega, by go_num, trivial⟩
              case measure => simp [intOf]; omega
            · obtain rfl : q = 65 := by omega
              go_wp2
              have hst2 := (unhide HC).1
              have hDl2 := hst2.lt
              refine (wpIn_wide (n := 9)).1 ?_
              apply wpIn_rangeFunc_ownF (α := Nam sA 2) rfl (by omega) (gf := 32) (lb := #[.pointer (some ⟨Ba, 0, none⟩), .pointer (some ⟨Ba + 1, 0, none⟩)]) rfl trivial (enters_of Try.func32 (by kernel_rfl) rfl)
                (iter_stops (9 - 1) (by omega) sA 2 Ba (Ba + 1) wb (unhide G).2.1 (unhide G).2.2.1) Kept.trans (fun W l o o' hl _ _ _ => by have := hst2.bel.size; exact kept_put (by omega) (by omega)) hst2.bel (fun _ => rfl)
                (fun pre W => pre = [] ∧ St wb [D1] W)
                (fun c pre W => (c = .exit 10 ∧ pre ≠ []) ∧ St wb [D1] W)
                (fun pre A B' row hs hg hr => ⟨hs.1, hs.2.own hg (fun r e => (hr r e).1) hst2.bel.size hDl2⟩)
                (fun c pre A B' row hs hg hr => ⟨hs.1, hs.2.own hg (fun r e => (hr r e).1) hst2.bel.size hDl2⟩)
                ⟨rfl, hst2⟩
              case hassign =>
                intro l x W K hK
                have HK := hide hK
                clear hK
                gi_wp2
                simp
                exact unhide HK
              case hbody =>
                rintro l pre x W ⟨rfl, hs⟩ hlt
                gi_wp2
                exact ⟨KeepsOthers.refl _, ⟨rfl, by simp⟩, hs⟩
              case hdone =>
                rintro D ys W _ hys ⟨rfl, _⟩ _
                exact absurd hys.symm (unhide HE)
              case hstop =>
                rintro D2 c pre WD2 hDD2 hpre ⟨⟨rfl, hne⟩, hs⟩ hK
                have hst3 := hs.cons (Nat.le_trans hst2.bel.size hDD2) hK
                have HSTD2 := hide hst3
                have hltD2 : ∀ D ∈ [D1], D < D2 := fun D hD => Nat.lt_of_lt_of_le (hDl2 D hD) hDD2
                clear hs hK hst3 hst2 hDl2 HC hpre hne
                refine wpIn_wide.2 ?_
                go_wp2
                rw [rounds_succ]
                go_wp2
                have q0 : Blk (WD2.alloc (.cells #[.int .i64 0] 3)) WD2.heap.size #[.int .i64 0] 3 := Blk.at rfl
                have q1 := (unhide HSTD2).alloc (.cells #[.int .i64 0] 3)
                generalize hWc : WD2.alloc (.cells #[.int .i64 0] 3) = Wc at q0 q1 ⊢
                generalize hLb : WD2.heap.size = Lb at q0 ⊢
                have hLb1 : wb.heap.size ≤ Lb := by rw [← hLb]; exact (unhide HSTD2).bel.size
                have hLb2 := q0.lt
                have hDl := q1.lt
                clear hWc hLb
                refine (wpIn_wide (n := 9)).1 ?_
                apply wpIn_rangeFunc_ownF (α := Nam sA 2) rfl (by omega) (gf := 32) (lb := #[.pointer (some ⟨Ba, 0, none⟩), .pointer (some ⟨Ba + 1, 0, none⟩)]) rfl trivial (enters_of Try.func32 (by kernel_rfl) rfl)
                  (iter_stops (9 - 1) (by omega) sA 2 Ba (Ba + 1) wb (unhide G).2.1 (unhide G).2.2.1) Kept.trans (fun W l o o' hl _ _ _ => kept_put (by omega) (by omega)) q1.bel (fun _ => rfl)
                  (fun pre W => Blk W Lb #[.int .i64 ((lastN (vals pre) : Nat) : Int)] 3 ∧ St wb [D2, D1] W)
                  (fun c pre W => c = .ret ∧ ¬ vals pre <+: sel sA 2 64)
                  (fun pre A B' row hs hg hr => ⟨blk_kept hs.1 hg (fun r e => (hr r e).2), hs.2.own hg (fun r e => (hr r e).1) (by omega) hDl⟩)
                  (fun _ _ _ _ _ hs _ _ => hs)
                  ⟨q0, q1⟩
                case hassign =>
                  intro l x W K hK
                  have HK := hide hK
                  clear hK
                  gi_wp2
                  exact unhide HK
                case hbody =>
                  rintro l pre ⟨n, hn1, hn2, hn3⟩ W ⟨hc, hs⟩ hlt
                  have hgood : vals (pre ++ [(⟨n, hn1, hn2, hn3⟩ : Nam sA 2)]) <+: sel sA 2 64 → lastN (vals pre) < n ∧ ∀ k, lastN (vals pre) < k → k < n → sA k ≠ 2 := fun h => by
                    rw [vals_snoc] at h
                    exact good_last h
                  have hnx : lastN (vals (pre ++ [(⟨n, hn1, hn2, hn3⟩ : Nam sA 2)])) = n := by rw [vals_snoc, lastN_snoc]
                  have HG := hide hgood
                  have HNX := hide hnx
                  clear hgood hnx hlt
                  have c0 := hc.cell (i := 0) rfl
                  have f0 := hc.free 0
                  have hY : Blk W (w1.heap.size + 1) (nms .i64 sA bA) 28 := (unhide G).1.ext hs.bel
                  have hQ : Blk W w.heap.size #[.bool false] 4 := (unhide G).2.2.2.1.ext hs.bel
                  have cQ := hQ.cell (i := 0) rfl
                  have fQ := hQ.free 0
                  have cn := hY.cell (nms_get .i64 sA bA (i := n) (by omega))
                  rw [hn3] at cn
                  have HC := hide (And.intro hc (And.intro hs (And.intro hY hQ)))
                  clear hc hs hY hQ
                  generalize lastN (vals pre) = la at *
                  have hn4 : (n : Int) ≤ 64 := by omega
                  have hn5 : (n : Int) < 65 := by omega
                  by_cases hle : n ≤ la
                  · have hle2 : (n : Int) ≤ (la : Int) := by omega
                    gi_wp2
                    exact ⟨KeepsOthers.setCell _ _ _, rfl, fun h => by have := unhide HG h; omega⟩
                  · have hle2 : ¬ (n : Int) ≤ (la : Int) := by omega
                    have hdle : decide ((n : Int) ≤ (la : Int)) = false := by simp; omega
                    have hla : (la : Int) ≤ 63 := by omega
                    gi_wp2
                    gi_loopw [11] (fun i wx => ∃ q : Nat, la < q ∧ q ≤ n ∧ i = .int .i64 (q : Int) ∧ wx = W) (fun i _ => n - (intOf i).toNat)
                    case atStart => exact ⟨la + 1, by omega, by omega, by go_num, rfl⟩
                    case round =>
                      obtain ⟨q, hq1, hq2, rfl, rfl⟩ := hrel
                      by_cases hqn : q < n
                      · have hqn2 : (q : Int) < (n : Int) := by omega
                        have cq := (unhide HC).2.2.1.cell (nms_get .i64 sA bA (i := q) (by omega))
                        have hq65 : (q : Int) < 65 := by omega
                        by_cases hs2 : sA q = 2
                        · have hd2 : (sA q == 2) = true := by simp [hs2]
                          have HS2 := hide hs2
                          clear hs2
                          gi_wp2
                          exact ⟨KeepsOthers.setCell _ _ _, rfl, fun h => (unhide HG h).2 q (by omega) (by omega) (unhide HS2)⟩
                        · have hd2 : (sA q == 2) = false := by simp [hs2]
                          have HS2 := hide hs2
                          clear hs2
                          gi_wp2
                          go_roundw
                          case rel => exact ⟨q + 1, by omega, by omega, by go_num, trivial⟩
                          case measure => simp [intOf]; omega
                      · obtain rfl : q = n := by omega
                        gi_wp2
                        have hset := (unhide HC).1.set 0 (.int .i64 (q : Int))
                        refine ⟨KeepsOthers.setCell _ _ _, ⟨heap_setCell_other _ _ _ _ (by simp; omega), heap_setCell_other _ _ _ _ (by simp; omega)⟩, ?_, (unhide HC).2.1.set hLb1 0 _⟩
                        rw [unhide HNX]
                        exact hset
                case hdone =>
                  rintro D3 ys W hD hys ⟨hc, hs⟩ hK
                  have c0 := hc.cell (i := 0) rfl
                  rw [hys] at c0
                  have hY : Blk W (w1.heap.size + 1) (nms .i64 sA bA) 28 := (unhide G).1.ext hs.bel
                  have hst := hs.cons (Nat.le_trans q1.bel.size hD) hK
                  have HC := hide (And.intro hst hY)
                  have hltD3 : ∀ D ∈ [D2, D1], D < D3 := fun D hD2 => Nat.lt_of_lt_of_le (hDl D hD2) hD
                  clear hc hs hY hK hys hst q0 q1
                  have hla : ∀ k, lastN (sel sA 2 64) < k → k ≤ 64 → sA k ≠ 2 := fun k h1 h2 => all_last h1 h2
                  have hla2 : lastN (sel sA 2 64) ≤ 64 := by
                    rcases List.eq_nil_or_concat (sel sA 2 64) with e | ⟨l', z, e⟩
                    · rw [e]; decide
                    · have hz : z ∈ sel sA 2 64 := by rw [e]; simp
                      rw [e, List.concat_eq_append, lastN_snoc]
                      exact (sel_mem.1 hz).2.1
                  generalize lastN (sel sA 2 64) = la at *
                  have HLA := hide hla
                  clear hla
                  go_wp2
                  go_loopw [12] (fun i wx => ∃ q : Nat, la < q ∧ q ≤ 65 ∧ i = .int .i64 (q : Int) ∧ wx = W) (fun i _ => 65 - (intOf i).toNat)
                  case atStart => exact ⟨la + 1, by omega, by omega, by go_num, rfl⟩
                  case round =>
                    obtain ⟨q, hq1, hq2, rfl, rfl⟩ := hrel
                    by_cases hq : q ≤ 64
                    · have hq64 : (q : Int) ≤ 64 := by omega
                      have hq65 : (q : Int) < 65 := by omega
                      have cq := (unhide HC).2.cell (nms_get .i64 sA bA (i := q) (by omega))
                      have hd2 : (sA q == 2) = false := by simp [unhide HLA q hq1 hq]
                      go_wp2
                      go_roundw
                      case rel => exact ⟨q + 1, by omega, by omega, by go_num, trivial⟩
                      case measure => simp [intOf]; omega
                    · obtain rfl : q = 65 := by omega
                      go_wp2
                      have hst2 := (unhide HC).1
                      have hDl2 := hst2.lt
                      refine (wpIn_wide (n := 9)).1 ?_
                      apply wpIn_rangeFunc_ownF (α := Nam sA 2) rfl (by omega) (gf := 32) (lb := #[.pointer (some ⟨Ba, 0, none⟩), .pointer (some ⟨Ba + 1, 0, none⟩)]) rfl trivial (enters_of Try.func32 (by kernel_rfl) rfl)
                        (iter_stops (9 - 1) (by omega) sA 2 Ba (Ba + 1) wb (unhide G).2.1 (unhide G).2.2.1) Kept.trans (fun W l o o' hl _ _ _ => by have := hst2.bel.size; exact kept_put (by omega) (by omega)) hst2.bel (fun _ => rfl)
                        (fun pre W => pre = [] ∧ St wb [D3, D2, D1] W)
                        (fun c pre W => (c = .exit 10 ∧ pre ≠ []) ∧ St wb [D3, D2, D1] W)
                        (fun pre A B' row hs hg hr => ⟨hs.1, hs.2.own hg (fun r e => (hr r e).1) hst2.bel.size hDl2⟩)
                        (fun c pre A B' row hs hg hr => ⟨hs.1, hs.2.own hg (fun r e => (hr r e).1) hst2.bel.size hDl2⟩)
                        ⟨rfl, hst2⟩
                      case hassign =>
                        intro l x W K hK
                        have HK := hide hK
                        clear hK
                        gi_wp2
                        simp
                        exact unhide HK
                      case hbody =>
                        rintro l pre x W ⟨rfl, hs⟩ hlt
                        gi_wp2
                        exact ⟨KeepsOthers.refl _, ⟨rfl, by simp⟩, hs⟩
                      case hdone =>
                        rintro D ys W _ hys ⟨rfl, _⟩ _
                        exact absurd hys.symm (unhide HE)
                      case hstop =>
                        rintro D4 c pre WD4 hDD4 hpre ⟨⟨rfl, hne⟩, hs⟩ hK
                        have hst3 := hs.cons (Nat.le_trans hst2.bel.size hDD4) hK
                        have HSTD4 := hide hst3
                        have hltD4 : ∀ D ∈ [D3, D2, D1], D < D4 := fun D hD => Nat.lt_of_lt_of_le (hDl2 D hD) hDD4
                        clear hs hK hst3 hst2 hDl2 HC hpre hne
                        refine wpIn_wide.2 ?_
                        go_wp2
                        rw [rounds_succ]
                        have hs4 := unhide HSTD4
                        have hQ : Blk WD4 w.heap.size #[.bool false] 4 := (unhide G).2.2.2.1.ext hs4.bel
                        have cQ := hQ.cell (i := 0) rfl
                        have fQ := hQ.free 0
                        have hQ2 : Blk (WD4.setCell ⟨w.heap.size, 0, none⟩ (.bool true)) w.heap.size #[.bool true] 4 := hQ.set 0 (.bool true)
                        have HQ4 := hide (And.intro hQ2 hs4)
                        clear hQ hQ2 hs4
                        go_wp2
                        obtain ⟨hQ2, hs4⟩ := unhide HQ4
                        have a1 := hltD2 D1 (by simp)
                        have a2 := hltD3 D2 (by simp)
                        have a3 := hltD4 D3 (by simp)
                        have hszb := hs4.bel.size
                        refine leaves_marks (b0 := wb.heap.size) [D4, D3, D2, D1] _ (by simpa using hszb) (by simp; omega) (fun D hD => ⟨(hs4.marks D hD).1, (KeepsOthers.setCell WD4 ⟨w.heap.size, 0, none⟩ (.bool true)).same D _ (hs4.marks D hD).2 rfl⟩) (fun W' hW' => ?_)
                        have hQ3 : Blk W' w.heap.size #[.bool true] 4 := (hW'.block _ hb3).trans hQ2
                        have hc5 : W'.cell? ⟨w.heap.size, 0, none⟩ = some (.bool true) := hQ3.cell (i := 0) rfl
                        have hXe : Ext w WD4 := (unhide G).2.2.2.2.trans hs4.bel
                        refine ⟨.bool true, ?_, rfl, (Below.setCell (p := ⟨w.heap.size, 0, none⟩) hXe (Nat.le_refl _) _).trans (hW'.mono (Nat.le_of_lt hb3))⟩
                        simp [results, Try.f3, go_sem, hc5]
                case hstop =>
                  rintro D c pre W _ hpre ⟨rfl, hn⟩ _
                  exact absurd hpre hn
        case hstop =>
          rintro D c pre W _ hpre ⟨rfl, hn⟩ _
          exact absurd hpre hn

theorem do_owes (H : Type) (enc : TypeId × Value → H) (W : World) (base : Nat) (args : Array Value) (ds : List (DataW H)) (p : List MemPlace) : Owes H enc Try.prog 3 Try.f3 Rows.namesDoSpec W base args ds p := by
  intro hval hA hsz
  rw [Try.params3] at hA hval hsz
  obtain ⟨v0, vs0, d0, ds0, p0, q0, hargs, rfl, rfl, h0, r0⟩ := trodAll_cons hA
  obtain ⟨rfl, rfl, rfl⟩ := trodAll_nil r0
  obtain rfl : args = #[v0] := by cases args; simp_all
  obtain ⟨xs, hrow⟩ := open_ops (hval 0 22 v0 rfl rfl) h0
  exact ⟨⟨rfl, rfl, rfl⟩, do_walk v0 xs W hrow⟩

set_option maxRecDepth 100000 in
theorem do_lifted (os : Os) (started : os.Started) (H : Type) (enc : TypeId × Value → H) :
    ReturnsInHanded {} Try.checked os 3 .any (Rows.namesDoSpec.pre6 enc Try.prog Try.f3 [] false) (Rows.namesDoSpec.post enc Try.prog Try.f3 false true false false) :=
  lift_law (C := Try.checked) own laidOut started (by kernel_rfl) Try.func3 (T := 4) rfl Try.underlying4 rfl (by kernel_rfl)
    (ChangeSpec.witness6 (enc := enc) (C := Try.checked) false ⟨#[], #[.slice none 0 0], []⟩ 8 (by kernel_rfl) (by kernel_rfl) (by kernel_rfl) (by kernel_rfl)) (do_owes H enc)

theorem namesDo_holds : Rows.NamesDoSaid :=
  OpenClaim.holds_of_wide 3 Try.f3 rfl rfl rfl rfl rfl rfl rfl ⟨rfl, rfl, rfl, rfl, rfl⟩ rfl rfl rfl rfl rfl (by kernel_rfl) Try.func3 (by kernel_rfl)
    (of_decide_eq_true (by kernel_rfl)) (by unfold Func.isWrapper; rw [if_neg (of_decide_eq_false (by kernel_rfl))]; exact ⟨rfl, rfl⟩)
    (fun os started H enc _ => do_lifted os started H enc)
#print axioms namesDo_holds
end Go.Proofs.Ythdjdknhjhkngaa
