/-
  The document's store of buffers: the walk of Sub.
-/
import Derived.Test.YtagbenjaidikmaaBV
namespace Go.Proofs.Ytagbenjaidikmaa
open Go.RowKit
set_option linter.unusedVariables false

theorem layB_step {bs xs : List Int} {p k : Nat} (hpm : p + xs.length ≤ bs.length) (hk : k < xs.length) : (layB bs p (xs.take k)).set (p + k) xs[k] = layB bs p (xs.take (k + 1)) := by
  unfold layB
  have hl : (xs.take k).length = k := by rw [List.length_take]; omega
  have hl2 : (xs.take (k + 1)).length = k + 1 := by rw [List.length_take]; omega
  have hp : (bs.take p).length = p := by rw [List.length_take]; omega
  rw [hl, hl2, List.set_append_right _ _ (by rw [hp]; omega), hp, Nat.add_sub_cancel_left, List.set_append_right _ _ (by rw [hl]; exact Nat.le_refl _), hl, Nat.sub_self, List.take_succ_eq_append_getElem hk, List.append_assoc]
  congr 2
  rw [List.drop_eq_getElem_cons (show p + k < bs.length by omega), List.set_cons_zero]
  rfl
theorem layB_nil (bs : List Int) (p : Nat) : layB bs p [] = bs := by unfold layB; simp

section
variable {w : World} {T : Nat → Prop} {base : Nat} {v : Value} {L : List Ent} {all : Int}
set_option maxRecDepth 10000 in
set_option maxHeartbeats 8000000 in
theorem refSub_any (h : RB w T base v L) (hT : ∀ b, T b → b < w.heap.size) (hb : base ≤ w.heap.size) (hL : L.length ≤ 100000) (hfit : ∀ p ∈ L, p.2.2.length ≤ 140737488355328) {id : Int} (a : Int) {u : Value} {xs : List Int} (hr : Row .u8 w u xs) (h0 : 0 ≤ all) (h1 : all ≤ 262144) (hs : (sumB L : Int) ≤ all) :
    Calls Try.prog 13 #[.agg (rsto all v), .int .i64 id, .int .i64 a, u] w fun e w' => ∃ v' L', e = .returned (.tuple #[.agg (rsto all v'), .int .i64 (sE id a xs (prj L))]) ∧ RB w' T base v' L' ∧ prj L' = sP id a xs (prj L) ∧ L'.length ≤ L.length + 1 ∧ Ext w w' := by
  obtain ⟨ao, cap, rfl, hao, hlc, hcm⟩ := h.shape
  obtain ⟨bo, bcap, rfl, hbo, hblc, hbcm⟩ := hr.shape
  have hcm2 : cap ≤ 9223372036854775807 := by unfold maxLen at hcm; omega
  have hbcm2 : bcap ≤ 9223372036854775807 := by unfold maxLen at hbcm; omega
  have hsum := lenOf_le h.rise id
  have HH := hide h
  have HT := hide hT
  have HR := hide hr
  have HF := hide hfit
  clear h hao hcm hT hr hbo hbcm hfit
  unfold rsto
  have hB0 : Blk ((w.alloc (.cells #[.int .i64 all, .slice ao L.length cap] 33)).alloc (.cells #[.int .i64 0, .slice none 0 0] 33)) w.heap.size #[.int .i64 all, .slice ao L.length cap] 33 := (Blk.new w _ _).alloc _
  have hB1 : Blk ((w.alloc (.cells #[.int .i64 all, .slice ao L.length cap] 33)).alloc (.cells #[.int .i64 0, .slice none 0 0] 33)) (w.heap.size + 1) #[.int .i64 0, .slice none 0 0] 33 := by
    have h := Blk.new (w.alloc (.cells #[.int .i64 all, .slice ao L.length cap] 33)) #[.int .i64 0, .slice none 0 0] 33
    rw [show (w.alloc (.cells #[.int .i64 all, .slice ao L.length cap] 33)).heap.size = w.heap.size + 1 by simp] at h
    exact h
  have hX1 : Ext w ((w.alloc (.cells #[.int .i64 all, .slice ao L.length cap] 33)).alloc (.cells #[.int .i64 0, .slice none 0 0] 33)) := ((Ext.refl w).alloc _).alloc _
  have H1 := hide (And.intro hB0 (And.intro hB1 hX1))
  clear hB0 hB1 hX1
  -- what is answered where nothing is laid
  have HBAD : Hid (∀ (wz : World) (E : Int), Ext w wz → sE id a xs (prj L) = E → sP id a xs (prj L) = prj L →
      ∃ v' L', Ending.returned (.tuple #[.agg #[.int .i64 all, .slice ao L.length cap], .int .i64 E]) = .returned (.tuple #[.agg #[.int .i64 all, v'], .int .i64 (sE id a xs (prj L))]) ∧ RB wz T base v' L' ∧ prj L' = sP id a xs (prj L) ∧ L'.length ≤ L.length + 1 ∧ Ext w wz) := by
    intro wz E hx hE hP
    exact ⟨_, L, by rw [hE], (unhide HH).ext hx, hP.symm, by omega, hx⟩
  go_enter Try.func13, Try.ntmps13
  go_wp2_with fail
  cases hl : look id L with
  | none =>
    have hE : sE id a xs (prj L) = 4 := by unfold sE; rw [prj_look, hl]; rfl
    have hP : sP id a xs (prj L) = prj L := by unfold sP; rw [prj_look, hl]; rfl
    have FIN := hide (fun wz hx => unhide HBAD wz 4 hx hE hP)
    refine (refFind_none (all := all) ((unhide HH).ext (unhide H1).2.2) hl).mono ?_
    rintro e w2 ⟨rfl, hx2⟩
    have hB0 := (unhide H1).1.ext hx2
    have hB1 := (unhide H1).2.1.ext hx2
    have q0 : w2.cell? ⟨w.heap.size, 0, none⟩ = some (.int .i64 all) := hB0.cell (i := 0) rfl
    have q1 : w2.cell? ⟨w.heap.size, 1, none⟩ = some (.slice ao L.length cap) := hB0.cell (i := 1) rfl
    have p0 : w2.cell? ⟨w.heap.size + 1, 0, none⟩ = some (.int .i64 0) := hB1.cell (i := 0) rfl
    have p1 : w2.cell? ⟨w.heap.size + 1, 1, none⟩ = some (.slice none 0 0) := hB1.cell (i := 1) rfl
    have f0 := hB1.free 0
    have f1 := hB1.free 1
    have hX2 := (unhide H1).2.2.trans hx2
    have hX7 : Ext w ((w2.setCell ⟨w.heap.size + 1, 0, none⟩ (.int .i64 all)).setCell ⟨w.heap.size + 1, 1, none⟩ (.slice ao L.length cap)) := below_grown hX2 ((grownBy_set _ _ _ _).trans (grownBy_set _ _ _ _)) hX2.size (by omega)
    have HB7 := hide (And.intro ((hB1.set 0 (.int .i64 all)).set 1 (.slice ao L.length cap)) hX7)
    clear hB0 hB1 hX2 hX7 hx2 hl hE hP
    go_wp2
    have r0 := (unhide HB7).1.cell (i := 0) rfl
    have r1 := (unhide HB7).1.cell (i := 1) rfl
    refine bodyPost_ret (v := .tuple #[.agg #[.int .i64 all, .slice ao L.length cap], .int .i64 4]) ?_ rfl ?_
    · simp [results, Try.results13, go_sem, r0, r1]
    · exact unhide FIN _ (unhide HB7).2
  | some q =>
    obtain ⟨uu, bs⟩ := q
    refine (refFind_some (all := all) ((unhide HH).ext (unhide H1).2.2) hl).mono ?_
    rintro e w2 ⟨⟨j, hj, rfl, hje⟩, hx2⟩
    have hB0 := (unhide H1).1.ext hx2
    have hB1 := (unhide H1).2.1.ext hx2
    have hX2 := (unhide H1).2.2.trans hx2
    have hRw := (unhide HH).ext hX2
    obtain ⟨g, rfl, c1, c2⟩ := hRw.at j hj
    rw [hje] at c2
    have hrow := hRw.row _ (look_mem hl)
    have hfl := unhide HF _ (look_mem hl)
    have hids := hRw.ids _ (look_mem hl)
    simp only at hrow hfl c2 hids
    obtain ⟨eo, ecap, rfl, heo, helc, hecm⟩ := hrow.shape
    have q1 : w2.cell? ⟨w.heap.size, 1, none⟩ = some (.slice (some ⟨g, 0, none⟩) L.length cap) := hB0.cell (i := 1) rfl
    have hj0 : (0 : Int) ≤ (j : Int) := by omega
    have hjn : (j : Int) < (L.length : Int) := by omega
    have hpl : look id (prj L) = some bs := by rw [prj_look, hl]; rfl
    have hlo : lenOf id L = bs.length := by unfold lenOf; rw [hl]; rfl
    rw [hlo] at hsum
    have HP := hide (And.intro hpl hids)
    have H2 := hide (And.intro hB0 (And.intro hB1 (And.intro hrow hX2)))
    clear hB0 hB1 hX2 hx2 hl hje hRw hrow heo hpl c1 hecm hlo hids
    go_wp2_with fail
    refine (copied_any _ bs _ (unhide H2).2.2.1 hfl).mono ?_
    rintro e w3 ⟨g3, rfl, hown3, hx3⟩
    have hg3 : w2.heap.size ≤ g3 := (hown3.lt g3 rfl).1
    have H3 := hide (And.intro hown3 (And.intro ((unhide H2).1.ext hx3) (And.intro ((unhide H2).2.1.ext hx3) (And.intro ((unhide H2).2.2.2.trans hx3) hx3))))
    have hsz2 := (unhide H2).2.2.2.size
    have hl1 := (unhide H2).2.1.lt
    clear hown3 hx3 q1 c2 H2
    cases hin : inB a xs.length bs.length with
    | false =>
      have hE : sE id a xs (prj L) = 2 := by unfold sE; rw [(unhide HP).1]; simp [hin]
      have hP : sP id a xs (prj L) = prj L := by unfold sP; rw [(unhide HP).1]; simp [hin]
      have FIN := hide (fun wz hx => unhide HBAD wz 2 hx hE hP)
      have HI := hide hin
      clear hE hP hin
      go_wp2_with fail
      refine (inside_any a xs.length bs.length (by omega) (by omega) _).mono ?_
      rintro e w4 ⟨rfl, rfl⟩
      rw [unhide HI]
      have hB0 := (unhide H3).2.1
      have hB1 := (unhide H3).2.2.1
      have q0 : w4.cell? ⟨w.heap.size, 0, none⟩ = some (.int .i64 all) := hB0.cell (i := 0) rfl
      have q1 : w4.cell? ⟨w.heap.size, 1, none⟩ = some (.slice (some ⟨g, 0, none⟩) L.length cap) := hB0.cell (i := 1) rfl
      have p0 : w4.cell? ⟨w.heap.size + 1, 0, none⟩ = some (.int .i64 0) := hB1.cell (i := 0) rfl
      have p1 : w4.cell? ⟨w.heap.size + 1, 1, none⟩ = some (.slice none 0 0) := hB1.cell (i := 1) rfl
      have f0 := hB1.free 0
      have f1 := hB1.free 1
      have hX2 := (unhide H3).2.2.2.1
      have hX7 : Ext w ((w4.setCell ⟨w.heap.size + 1, 0, none⟩ (.int .i64 all)).setCell ⟨w.heap.size + 1, 1, none⟩ (.slice (some ⟨g, 0, none⟩) L.length cap)) := below_grown hX2 ((grownBy_set _ _ _ _).trans (grownBy_set _ _ _ _)) hX2.size (by omega)
      have HB7 := hide (And.intro ((hB1.set 0 (.int .i64 all)).set 1 (.slice (some ⟨g, 0, none⟩) L.length cap)) hX7)
      clear hB0 hB1 hX2 hX7
      go_wp2
      have r0 := (unhide HB7).1.cell (i := 0) rfl
      have r1 := (unhide HB7).1.cell (i := 1) rfl
      refine bodyPost_ret (v := .tuple #[.agg #[.int .i64 all, .slice (some ⟨g, 0, none⟩) L.length cap], .int .i64 2]) ?_ rfl ?_
      · simp [results, Try.results13, go_sem, r0, r1]
      · exact unhide FIN _ (unhide HB7).2
    | true =>
      obtain ⟨p, m, rfl, hmm, hpm⟩ := inB_nat hin
      have hpx : p + xs.length ≤ bs.length := by omega
      have hE : sE id p xs (prj L) = 0 := by unfold sE; rw [(unhide HP).1]; simp [hin]
      have hP : sP id p xs (prj L) = ins (id, layB bs p xs) (rem id (prj L)) := by unfold sP; rw [(unhide HP).1]; simp [hin]
      have HEP := hide (And.intro hE hP)
      clear hE hP hin hmm hpm
      go_wp2_with fail
      refine (inside_any p xs.length bs.length (by omega) (by omega) _).mono ?_
      rintro e w4 ⟨rfl, rfl⟩
      rw [inB_yes hpx]
      go_wp2_with fail
      go_loopw [12] (fun i wr => ∃ k : Nat, k ≤ xs.length ∧ i = .int .i64 (k : Int) ∧ Own .u8 wr w2.heap.size 5 (.slice (some ⟨g3, 0, none⟩) bs.length bs.length) (layB bs p (xs.take k)) ∧ Ext w2 wr ∧ Blk wr w.heap.size #[.int .i64 all, .slice (some ⟨g, 0, none⟩) L.length cap] 33 ∧ Blk wr (w.heap.size + 1) #[.int .i64 0, .slice none 0 0] 33 ∧ Ext w wr) (fun i _ => xs.length - (intOf i).toNat)
      case atStart => exact ⟨0, Nat.zero_le _, rfl, by rw [List.take_zero, layB_nil]; exact (unhide H3).1, (unhide H3).2.2.2.2, (unhide H3).2.1, (unhide H3).2.2.1, (unhide H3).2.2.2.1⟩
      case round =>
        clear H3
        obtain ⟨k, hk, rfl, hO, hX2, hB0, hB1, hX⟩ := hrel
        by_cases hlt : k < xs.length
        · obtain ⟨b, off, rfl, hc⟩ := ((unhide HR).ext hX).at k hlt
          have ck := hc k hlt
          have hkn : (k : Int) < (xs.length : Int) := by omega
          have hpk : (p : Int) + (k : Int) < (bs.length : Int) := by omega
          have hll : (layB bs p (xs.take k)).length = bs.length := layB_len (by rw [List.length_take]; omega)
          have d2 := hO.cellAt (p + k) (by omega)
          have g2 := hO.frozenAt (p + k)
          have hO2 := hO.stored (p + k) xs[k]
          rw [layB_step hpx hlt] at hO2
          have hgg : w.heap.size ≤ g3 := by omega
          have hX3 : Ext w2 (wr.setCell ⟨g3, p + k, none⟩ (.int .u8 xs[k])) := below_grown hX2 (grownBy_set _ _ _ _) hX2.size hg3
          have hX4 : Ext w (wr.setCell ⟨g3, p + k, none⟩ (.int .u8 xs[k])) := below_grown hX (grownBy_set _ _ _ _) hX.size hgg
          have H5 := hide (And.intro hO2 (And.intro hX3 (And.intro (hB0.other (r := g3) (p + k) (.int .u8 xs[k]) (by omega)) (And.intro (hB1.other (r := g3) (p + k) (.int .u8 xs[k]) (by omega)) hX4))))
          generalize (layB bs p (xs.take k))[p + k]'(by omega) = old at d2
          generalize xs[k] = x at ck H5
          clear hO hX hX2 hB0 hB1 hc hO2 hX3 hX4 hll
          go_wp2
          go_roundw
          case rel => exact ⟨k + 1, by omega, by go_num, (unhide H5).1, (unhide H5).2.1, (unhide H5).2.2.1, (unhide H5).2.2.2.1, (unhide H5).2.2.2.2⟩
          case measure => simp [intOf]; omega
        · obtain rfl : k = xs.length := by omega
          rw [List.take_length] at hO
          have q0 : wr.cell? ⟨w.heap.size, 0, none⟩ = some (.int .i64 all) := hB0.cell (i := 0) rfl
          have q1 : wr.cell? ⟨w.heap.size, 1, none⟩ = some (.slice (some ⟨g, 0, none⟩) L.length cap) := hB0.cell (i := 1) rfl
          have H5 := hide (And.intro hO (And.intro hB1 hX))
          have hlb := hB1.lt
          clear hO hX hX2 hB0 hB1 hlt hk
          go_wp2_with fail
          refine (without_any (all := all) (T := fun b => T b ∨ b = w.heap.size + 1) ((unhide HH).out (Out.of_ext (unhide H5).2.2) (fun b hb2 => hb2.imp (fun h => h) (fun h => by omega))) (fun b hb2 => by
            rcases hb2 with hb2 | hb2
            · exact Nat.lt_of_lt_of_le (unhide HT b hb2) (unhide H5).2.2.size
            · omega) (Nat.le_trans hb (unhide H5).2.2.size) (by omega) id).mono ?_
          rintro e w5 ⟨v5, rfl, hR5, hx5⟩
          simp only [rsto]
          obtain ⟨ao5, cap5, rfl, _⟩ := hR5.shape
          obtain ⟨R, hR⟩ : ∃ R, R = rem id L := ⟨_, rfl⟩
          rw [← hR] at hR5 hsum ⊢
          have hRl : R.length ≤ L.length := by rw [hR]; exact len_rem id L
          have hRp : prj R = rem id (prj L) := by rw [hR]; exact prj_rem id L
          have hRk : look id R = none := by rw [hR]; exact look_rem_same id L
          have hlay : (layB bs p xs).length = bs.length := layB_len hpx
          have hdE : dE all id (layB bs p xs) (prj R) = 0 := by
            have e1 : lenP id (prj R) = 0 := by rw [prj_lenOf]; unfold lenOf; rw [hRk]; rfl
            unfold dE
            rw [if_neg (by have := (unhide HP).2.1; omega), if_neg (by rw [prj_sum, e1, hlay]; omega)]
          have hdP : dP all id (layB bs p xs) (prj R) = ins (id, layB bs p xs) (rem id (prj L)) := by
            have e1 : lenP id (prj R) = 0 := by rw [prj_lenOf]; unfold lenOf; rw [hRk]; rfl
            unfold dP
            rw [if_neg (by have := (unhide HP).2.1; omega), if_neg (by rw [prj_sum, e1, hlay]; omega), hRp]
            congr 1
            exact rem_none (look_rem_same id (prj L))
          have HDE := hide (And.intro hdE hdP)
          have hl6 : w5.heap.size < (w5.alloc (.cells #[.int .i64 all, .slice ao5 R.length cap5] 33)).heap.size := by simp
          have H6 := hide (And.intro ((unhide H5).1.kept (hx5.alloc (.cells #[.int .i64 all, .slice ao5 R.length cap5] 33))) (And.intro ((unhide H5).2.1.ext (hx5.alloc (.cells #[.int .i64 all, .slice ao5 R.length cap5] 33))) (And.intro (Blk.new w5 #[.int .i64 all, .slice ao5 R.length cap5] 33) (And.intro hR5 ((unhide H5).2.2.trans (hx5.alloc (.cells #[.int .i64 all, .slice ao5 R.length cap5] 33)))))))
          have hs5 : w.heap.size + 1 < w5.heap.size := Nat.lt_of_lt_of_le hlb hx5.size
          have hx56 : Ext w5 (w5.alloc (.cells #[.int .i64 all, .slice ao5 R.length cap5] 33)) := (Ext.refl w5).alloc _
          clear hR hRp hRk hdE hdP hR5 hx5 q0 q1 H5
          go_wp2_with fail
          refine (refData_any (all := all) (T := fun b => (T b ∨ b = w.heap.size + 1) ∨ b = w5.heap.size) ((unhide H6).2.2.2.1.out (Out.of_ext hx56) (fun b hb2 => hb2.imp (fun h => h) (fun h => by omega))) (fun b hb2 => by
            rcases hb2 with (hb2 | hb2) | hb2
            · exact Nat.lt_of_lt_of_le (unhide HT b hb2) (unhide H6).2.2.2.2.size
            · omega
            · omega) (Nat.le_trans hb (unhide H6).2.2.2.2.size) (by omega) (unhide HP).2.2 (unhide H6).1.row (by omega) h0 h1 (by omega)).mono ?_
          rintro e w7 ⟨v7, L7, rfl, hR7, hP7, hL7, hx7⟩
          rw [(unhide HDE).1]
          simp only [rsto]
          obtain ⟨ao7, cap7, rfl, _⟩ := hR7.shape
          have hB1 := (unhide H6).2.1.ext hx7
          have hB2 := (unhide H6).2.2.1.ext hx7
          have o0 : w7.cell? ⟨w5.heap.size, 0, none⟩ = some (.int .i64 all) := hB2.cell (i := 0) rfl
          have o1 : w7.cell? ⟨w5.heap.size, 1, none⟩ = some (.slice ao5 R.length cap5) := hB2.cell (i := 1) rfl
          have p0 : w7.cell? ⟨w.heap.size + 1, 0, none⟩ = some (.int .i64 0) := hB1.cell (i := 0) rfl
          have p1 : w7.cell? ⟨w.heap.size + 1, 1, none⟩ = some (.slice none 0 0) := hB1.cell (i := 1) rfl
          have f0 := hB1.free 0
          have f1 := hB1.free 1
          have f2 := hB2.free 0
          have f3 := hB2.free 1
          have hX7 := (unhide H6).2.2.2.2.trans hx7
          have hgA : w7.grownBy ((w7.setCell ⟨w5.heap.size, 0, none⟩ (.int .i64 all)).setCell ⟨w5.heap.size, 1, none⟩ (.slice ao7 L7.length cap7)) (some w5.heap.size) := (grownBy_set _ _ _ _).trans (grownBy_set _ _ _ _)
          have hRA := hR7.kept1 hB2 (fun e => hR7.far _ e (.inr rfl)) hgA
          have hB1A := hB1.grown hgA (by omega)
          have hXA : Ext w ((w7.setCell ⟨w5.heap.size, 0, none⟩ (.int .i64 all)).setCell ⟨w5.heap.size, 1, none⟩ (.slice ao7 L7.length cap7)) := below_grown hX7 hgA hX7.size (by omega)
          have hBO := (hB2.set 0 (.int .i64 all)).set 1 (.slice ao7 L7.length cap7)
          have hgB : ((w7.setCell ⟨w5.heap.size, 0, none⟩ (.int .i64 all)).setCell ⟨w5.heap.size, 1, none⟩ (.slice ao7 L7.length cap7)).grownBy ((((w7.setCell ⟨w5.heap.size, 0, none⟩ (.int .i64 all)).setCell ⟨w5.heap.size, 1, none⟩ (.slice ao7 L7.length cap7)).setCell ⟨w.heap.size + 1, 0, none⟩ (.int .i64 all)).setCell ⟨w.heap.size + 1, 1, none⟩ (.slice ao7 L7.length cap7)) (some (w.heap.size + 1)) := (grownBy_set _ _ _ _).trans (grownBy_set _ _ _ _)
          have hRB := (hRA.kept1 hB1A (fun e => hRA.far _ e (.inl (.inr rfl))) hgB).narrow (T := T) (fun b h => .inl (.inl h))
          have hXB := below_grown hXA hgB hXA.size (show w.heap.size ≤ w.heap.size + 1 by omega)
          have HB7 := hide (And.intro ((hB1A.set 0 (.int .i64 all)).set 1 (.slice ao7 L7.length cap7)) (And.intro hRB hXB))
          have HL := hide (And.intro hP7 hL7)
          have hne : w5.heap.size ≠ w.heap.size + 1 := by omega
          clear hB1 hB2 hX7 hgA hRA hB1A hXA hBO hgB hRB hXB hx7 hR7 hP7 hL7
          go_wp2
          have r0 := (unhide HB7).1.cell (i := 0) rfl
          have r1 := (unhide HB7).1.cell (i := 1) rfl
          refine bodyPost_ret (v := .tuple #[.agg #[.int .i64 all, .slice ao7 L7.length cap7], .int .i64 0]) ?_ rfl ?_
          · simp [results, Try.results13, go_sem, r0, r1]
          · exact ⟨_, L7, by rw [(unhide HEP).1], (unhide HB7).2.1, by rw [(unhide HL).1, (unhide HDE).2, (unhide HEP).2], by have := (unhide HL).2; omega, (unhide HB7).2.2⟩
end
end Go.Proofs.Ytagbenjaidikmaa
