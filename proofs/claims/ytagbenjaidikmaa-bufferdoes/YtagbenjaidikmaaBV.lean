/-
  The document's store of buffers: the walks of Drop and Get.
-/
import Derived.Test.YtagbenjaidikmaaBU
namespace Go.Proofs.Ytagbenjaidikmaa
open Go.RowKit

/-- A piece of a row, as the slice expression makes it. -/
theorem row_cut {k : IntKind} {w : World} {ao : Option Addr} {cap : Nat} {xs : List Int} (h : Row k w (.slice ao xs.length cap) xs) (p m : Nat) (hpm : p + m ≤ xs.length) (ao' : Option Addr)
    (h1 : ∀ b off, ao = some ⟨b, off, none⟩ → 0 < m → ao' = some ⟨b, off + p, none⟩) (h2 : ao' = none → cap - p = 0) : Row k w (.slice ao' m (cap - p)) ((xs.drop p).take m) := by
  have hl : ((xs.drop p).take m).length = m := by simp; omega
  have hsh := h.shape
  obtain ⟨_, _, hx, _, hlc, hcm⟩ := hsh
  cases hx
  by_cases hm : m = 0
  · subst hm
    exact .inl ⟨by simp, ao', cap - p, rfl, h2, by omega⟩
  · rcases h with ⟨h0, _⟩ | ⟨hne, b, off, c, hv, hl2, hm2, hc⟩
    · subst h0
      simp at hpm
      omega
    · cases hv
      have e := h1 b off rfl (by omega)
      subst e
      refine .inr ⟨fun h => by rw [h] at hl; simp at hl; omega, b, off + p, cap - p, by rw [hl], by omega, by omega, fun i hi => ?_⟩
      rw [hl] at hi
      rw [Nat.add_assoc, hc (p + i) (by omega)]
      have e2 : ((xs.drop p).take m).getD i 0 = xs.getD (p + i) 0 := by
        simp [List.getD, hi]
      rw [e2]

theorem RB.narrow {w : World} {T T' : Nat → Prop} {base : Nat} {v : Value} {L : List Ent} (h : RB w T' base v L) (ht : ∀ b, T b → T' b) : RB w T base v L :=
  ⟨h.own, fun b hb h2 => h.far b hb (ht b h2), h.row, fun p hp hne b hb h2 => h.farR p hp hne b hb (ht b h2), h.rise, h.ids⟩
section
variable {w : World} {T : Nat → Prop} {base : Nat} {v : Value} {L : List Ent} {all : Int}
set_option maxRecDepth 10000 in
set_option maxHeartbeats 4000000 in
theorem refDrop_any (h : RB w T base v L) (hT : ∀ b, T b → b < w.heap.size) (hb : base ≤ w.heap.size) (hL : L.length ≤ 100000) {id : Int} :
    Calls Try.prog 20 #[.agg (rsto all v), .int .i64 id] w fun e w' => ∃ v' L', e = .returned (.tuple #[.agg (rsto all v'), .int .i64 (rE id (prj L))]) ∧ RB w' T base v' L' ∧ prj L' = rem id (prj L) ∧ L'.length ≤ L.length + 1 ∧ Ext w w' := by
  obtain ⟨ao, cap, rfl, hao, hlc, hcm⟩ := h.shape
  have hcm2 : cap ≤ 9223372036854775807 := by unfold maxLen at hcm; omega
  have HH := hide h
  have HT := hide hT
  clear h hao hcm hT
  unfold rsto
  have hB0 : Blk ((w.alloc (.cells #[.int .i64 all, .slice ao L.length cap] 33)).alloc (.cells #[.int .i64 0, .slice none 0 0] 33)) w.heap.size #[.int .i64 all, .slice ao L.length cap] 33 := (Blk.new w _ _).alloc _
  have hB1 : Blk ((w.alloc (.cells #[.int .i64 all, .slice ao L.length cap] 33)).alloc (.cells #[.int .i64 0, .slice none 0 0] 33)) (w.heap.size + 1) #[.int .i64 0, .slice none 0 0] 33 := by
    have h := Blk.new (w.alloc (.cells #[.int .i64 all, .slice ao L.length cap] 33)) #[.int .i64 0, .slice none 0 0] 33
    rw [show (w.alloc (.cells #[.int .i64 all, .slice ao L.length cap] 33)).heap.size = w.heap.size + 1 by simp] at h
    exact h
  have hX1 : Ext w ((w.alloc (.cells #[.int .i64 all, .slice ao L.length cap] 33)).alloc (.cells #[.int .i64 0, .slice none 0 0] 33)) := ((Ext.refl w).alloc _).alloc _
  have H1 := hide (And.intro hB0 (And.intro hB1 hX1))
  clear hB0 hB1 hX1
  go_enter Try.func20, Try.ntmps20
  go_wp2_with fail
  cases hl : look id L with
  | none =>
    have hE : rE id (prj L) = 4 := by unfold rE; rw [prj_look, hl]; rfl
    have hP : rem id (prj L) = prj L := rem_none (by rw [prj_look, hl]; rfl)
    have HE := hide (And.intro hE hP)
    refine (refFind_none (all := all) ((unhide HH).ext (unhide H1).2.2) hl).mono ?_
    rintro e w2 ⟨rfl, hx2⟩
    have hB0 := (unhide H1).1.ext hx2
    have hB1 := (unhide H1).2.1.ext hx2
    have q0 : w2.cell? ⟨w.heap.size, 0, none⟩ = some (.int .i64 all) := hB0.cell (i := 0) rfl
    have q1 : w2.cell? ⟨w.heap.size, 1, none⟩ = some (.slice ao L.length cap) := hB0.cell (i := 1) rfl
    have p0 : w2.cell? ⟨w.heap.size + 1, 0, none⟩ = some (.int .i64 0) := hB1.cell (i := 0) rfl
    have p1 : w2.cell? ⟨w.heap.size + 1, 1, none⟩ = some (.slice none 0 0) := hB1.cell (i := 1) rfl
    have f0 := hB1.free 0
    have f1 := hB1.free 1
    have hX2 := (unhide H1).2.2.trans hx2
    have hX7 : Ext w ((w2.setCell ⟨w.heap.size + 1, 0, none⟩ (.int .i64 all)).setCell ⟨w.heap.size + 1, 1, none⟩ (.slice ao L.length cap)) := below_grown hX2 ((grownBy_set _ _ _ _).trans (grownBy_set _ _ _ _)) hX2.size (by omega)
    have HB7 := hide (And.intro ((hB1.set 0 (.int .i64 all)).set 1 (.slice ao L.length cap)) hX7)
    clear hB0 hB1 hX2 hX7 hx2 hl hE hP
    go_wp2
    have r0 := (unhide HB7).1.cell (i := 0) rfl
    have r1 := (unhide HB7).1.cell (i := 1) rfl
    refine bodyPost_ret (v := .tuple #[.agg #[.int .i64 all, .slice ao L.length cap], .int .i64 4]) ?_ rfl ?_
    · simp [results, Try.results20, go_sem, r0, r1]
    · exact ⟨_, L, by rw [(unhide HE).1], (unhide HH).ext (unhide HB7).2, (unhide HE).2.symm, by omega, (unhide HB7).2⟩
  | some q =>
    obtain ⟨u, bs⟩ := q
    have hE : rE id (prj L) = 0 := by unfold rE; rw [prj_look, hl]; rfl
    have HE := hide hE
    refine (refFind_some (all := all) ((unhide HH).ext (unhide H1).2.2) hl).mono ?_
    rintro e w2 ⟨⟨j, hj, rfl, _⟩, hx2⟩
    have hB0 := (unhide H1).1.ext hx2
    have hB1 := (unhide H1).2.1.ext hx2
    have q0 : w2.cell? ⟨w.heap.size, 0, none⟩ = some (.int .i64 all) := hB0.cell (i := 0) rfl
    have q1 : w2.cell? ⟨w.heap.size, 1, none⟩ = some (.slice ao L.length cap) := hB0.cell (i := 1) rfl
    have hX2 := (unhide H1).2.2.trans hx2
    have hj0 : (0 : Int) ≤ (j : Int) := by omega
    have H2 := hide (And.intro hB0 (And.intro hB1 hX2))
    clear hB0 hB1 hX2 hx2 hl hE
    go_wp2_with fail
    have hl1 := (unhide H2).2.1.lt
    refine (without_any (all := all) (T := fun b => T b ∨ b = w.heap.size + 1) ((unhide HH).out (Out.of_ext (unhide H2).2.2) (fun b hb2 => hb2.imp (fun h => h) (fun h => by omega))) (fun b hb2 => by
      rcases hb2 with hb2 | hb2
      · exact Nat.lt_of_lt_of_le (unhide HT b hb2) (unhide H2).2.2.size
      · omega) (Nat.le_trans hb (unhide H2).2.2.size) (by omega) id).mono ?_
    rintro e w3 ⟨v3, rfl, hR3, hx3⟩
    simp only [rsto]
    obtain ⟨ao3, cap3, rfl, _⟩ := hR3.shape
    have hB1 := (unhide H2).2.1.ext hx3
    have p0 : w3.cell? ⟨w.heap.size + 1, 0, none⟩ = some (.int .i64 0) := hB1.cell (i := 0) rfl
    have p1 : w3.cell? ⟨w.heap.size + 1, 1, none⟩ = some (.slice none 0 0) := hB1.cell (i := 1) rfl
    have f0 := hB1.free 0
    have f1 := hB1.free 1
    have hX3 := (unhide H2).2.2.trans hx3
    have hg : w3.grownBy ((w3.setCell ⟨w.heap.size + 1, 0, none⟩ (.int .i64 all)).setCell ⟨w.heap.size + 1, 1, none⟩ (.slice ao3 (rem id L).length cap3)) (some (w.heap.size + 1)) := (grownBy_set _ _ _ _).trans (grownBy_set _ _ _ _)
    have hX7 : Ext w ((w3.setCell ⟨w.heap.size + 1, 0, none⟩ (.int .i64 all)).setCell ⟨w.heap.size + 1, 1, none⟩ (.slice ao3 (rem id L).length cap3)) := below_grown hX3 hg hX3.size (by omega)
    have hR7 := (hR3.kept1 hB1 (fun e => hR3.far _ e (.inr rfl)) hg).narrow (T := T) (fun b h => .inl h)
    have HB7 := hide (And.intro ((hB1.set 0 (.int .i64 all)).set 1 (.slice ao3 (rem id L).length cap3)) (And.intro hR7 hX7))
    clear hB1 hX3 hX7 hx3 hR3 hg hR7 q0 q1
    go_wp2
    have r0 := (unhide HB7).1.cell (i := 0) rfl
    have r1 := (unhide HB7).1.cell (i := 1) rfl
    refine bodyPost_ret (v := .tuple #[.agg #[.int .i64 all, .slice ao3 (rem id L).length cap3], .int .i64 0]) ?_ rfl ?_
    · simp [results, Try.results20, go_sem, r0, r1]
    · have := len_rem id L
      exact ⟨_, rem id L, by rw [unhide HE], (unhide HB7).2.1, prj_rem id L, by omega, (unhide HB7).2.2⟩

set_option maxRecDepth 10000 in
set_option maxHeartbeats 4000000 in
theorem refGet_any (h : RB w T base v L) (hfit : ∀ p ∈ L, p.2.2.length ≤ 140737488355328) {id : Int} (a n : Int) :
    Calls Try.prog 15 #[.agg (rsto all v), .int .i64 id, .int .i64 a, .int .i64 n] w fun e w' => ∃ ao cap, e = .returned (.tuple #[.slice ao (gB id a n (prj L)).length cap, .int .i64 (gE id a n (prj L))]) ∧ Row .u8 w' (.slice ao (gB id a n (prj L)).length cap) (gB id a n (prj L)) ∧ Ext w w' := by
  obtain ⟨ao, cap, rfl, hao, hlc, hcm⟩ := h.shape
  have hcm2 : cap ≤ 9223372036854775807 := by unfold maxLen at hcm; omega
  have HH := hide h
  have HF := hide hfit
  clear h hao hcm hfit
  unfold rsto
  have hB0 : Blk (w.alloc (.cells #[.int .i64 all, .slice ao L.length cap] 33)) w.heap.size #[.int .i64 all, .slice ao L.length cap] 33 := Blk.new w _ _
  have hX1 : Ext w (w.alloc (.cells #[.int .i64 all, .slice ao L.length cap] 33)) := (Ext.refl w).alloc _
  have H1 := hide (And.intro hB0 hX1)
  clear hB0 hX1
  go_enter Try.func15, Try.ntmps15
  go_wp2_with fail
  cases hl : look id L with
  | none =>
    have hE : gE id a n (prj L) = 4 := by unfold gE; rw [prj_look, hl]; rfl
    have hP : gB id a n (prj L) = [] := by unfold gB; rw [prj_look, hl]; rfl
    have HE := hide (And.intro hE hP)
    refine (refFind_none (all := all) ((unhide HH).ext (unhide H1).2) hl).mono ?_
    rintro e w2 ⟨rfl, hx2⟩
    have HX := hide ((unhide H1).2.trans hx2)
    clear hx2 hl hE hP
    go_wp2
    refine bodyPost_ret (v := .tuple #[.slice none 0 0, .int .i64 4]) (by simp [results, Try.results15, go_sem]) rfl ?_
    rw [(unhide HE).1, (unhide HE).2]
    exact ⟨none, 0, rfl, Row.nil _ _, unhide HX⟩
  | some q =>
    obtain ⟨u, bs⟩ := q
    refine (refFind_some (all := all) ((unhide HH).ext (unhide H1).2) hl).mono ?_
    rintro e w2 ⟨⟨j, hj, rfl, hje⟩, hx2⟩
    have hB0 := (unhide H1).1.ext hx2
    have hX2 := (unhide H1).2.trans hx2
    have hRw := (unhide HH).ext hX2
    obtain ⟨g, rfl, c1, c2⟩ := hRw.at j hj
    rw [hje] at c2
    have hrow := hRw.row _ (look_mem hl)
    have hfl := unhide HF _ (look_mem hl)
    simp only at hrow hfl c2
    obtain ⟨eo, ecap, rfl, heo, helc, hecm⟩ := hrow.shape
    have hecm2 : ecap ≤ 9223372036854775807 := by unfold maxLen at hecm; omega
    have q1 : w2.cell? ⟨w.heap.size, 1, none⟩ = some (.slice (some ⟨g, 0, none⟩) L.length cap) := hB0.cell (i := 1) rfl
    have hj0 : (0 : Int) ≤ (j : Int) := by omega
    have hjn : (j : Int) < (L.length : Int) := by omega
    have hpl : look id (prj L) = some bs := by rw [prj_look, hl]; rfl
    have HP := hide hpl
    have H2 := hide (And.intro hrow (And.intro hX2 heo))
    clear hB0 hX2 hx2 hl hje hRw hrow heo hpl c1 hecm
    cases hin : inB a n bs.length with
    | false =>
      have hE : gE id a n (prj L) = 2 := by unfold gE; rw [unhide HP]; simp [hin]
      have hB : gB id a n (prj L) = [] := by unfold gB; rw [unhide HP]; simp [hin]
      have HE := hide (And.intro hE hB)
      have HI := hide hin
      clear hE hB hin
      go_wp2_with fail
      refine (inside_any a n bs.length (by omega) (by omega) _).mono ?_
      rintro e w3 ⟨rfl, rfl⟩
      rw [unhide HI]
      go_wp2
      refine bodyPost_ret (v := .tuple #[.slice none 0 0, .int .i64 2]) (by simp [results, Try.results15, go_sem]) rfl ?_
      rw [(unhide HE).1, (unhide HE).2]
      exact ⟨none, 0, rfl, Row.nil _ _, (unhide H2).2.1⟩
    | true =>
      obtain ⟨p, m, rfl, rfl, hpm⟩ := inB_nat hin
      have hE : gE id p m (prj L) = 0 := by unfold gE; rw [unhide HP]; simp [hin]
      have hB : gB id p m (prj L) = (bs.drop p).take m := by unfold gB; rw [unhide HP]; simp [hin]
      have hlen : ((bs.drop p).take m).length = m := by simp; omega
      have HE := hide (And.intro hE (And.intro hB hlen))
      clear hE hB hin hlen
      go_wp2_with fail
      refine (inside_any p m bs.length (by omega) (by omega) _).mono ?_
      rintro e w3 ⟨rfl, rfl⟩
      rw [inB_yes hpm]
      go_wp2_with fail
      · have hm : m = 0 := by omega
        subst hm
        refine (copied_any _ ((bs.drop p).take 0) _ (.inl ⟨by simp, eo, 0, rfl, fun _ => rfl, Nat.zero_le _⟩) (by simp)).mono ?_
        rintro e w4 ⟨g4, rfl, hown4, hx4⟩
        have H4 := hide (And.intro hown4.row ((unhide H2).2.1.trans hx4))
        clear hown4 hx4
        rw [(unhide HE).2.2] at H4 ⊢
        go_wp2
        refine bodyPost_ret (v := .tuple #[.slice (some ⟨g4, 0, none⟩) 0 0, .int .i64 0]) (by simp [results, Try.results15, go_sem]) rfl ?_
        rw [(unhide HE).1, (unhide HE).2.1, (unhide HE).2.2]
        exact ⟨_, _, rfl, (unhide H4).1, (unhide H4).2⟩
      · have hrc := row_cut (unhide H2).1 p m hpm (eo.map (·.add p)) (fun b off e _ => by subst e; simp [Addr.add_lit]) (fun e => by
          cases eo with
          | none => have := ((unhide H2).2.2 rfl).2; omega
          | some ad => cases e)
        refine (copied_any _ ((bs.drop p).take m) _ hrc (by rw [(unhide HE).2.2]; omega)).mono ?_
        clear hrc
        rintro e w4 ⟨g4, rfl, hown4, hx4⟩
        have H4 := hide (And.intro hown4.row ((unhide H2).2.1.trans hx4))
        clear hown4 hx4
        rw [(unhide HE).2.2] at H4 ⊢
        go_wp2
        refine bodyPost_ret (v := .tuple #[.slice (some ⟨g4, 0, none⟩) m m, .int .i64 0]) (by simp [results, Try.results15, go_sem]) rfl ?_
        rw [(unhide HE).1, (unhide HE).2.1, (unhide HE).2.2]
        exact ⟨_, _, rfl, (unhide H4).1, (unhide H4).2⟩
end
end Go.Proofs.Ytagbenjaidikmaa
