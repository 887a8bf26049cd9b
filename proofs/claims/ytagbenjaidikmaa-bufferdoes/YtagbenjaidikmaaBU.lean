/-
  The document's store of buffers: the walk of Data.
-/
import Derived.Test.YtagbenjaidikmaaBT
namespace Go.Proofs.Ytagbenjaidikmaa
open Go.RowKit
set_option linter.unusedVariables false

/-- A row of buffers under way, in the block that was made behind w3. -/
structure OutI (w3 wr : World) (T : Nat → Prop) (base : Nat) (all : Int) (vo : Value) (O : List Ent) : Prop where
  blk : Blk wr w3.heap.size #[.int .i64 all, vo] 33
  rb : RB wr T base vo O
  sep : Sep vo O
  new : ∀ b, vo.ownBlock = some b → w3.heap.size < b
  ext : Ext w3 wr
theorem OutI.exts {w3 wr w' : World} {T : Nat → Prop} {base : Nat} {all : Int} {vo : Value} {O : List Ent} (h : OutI w3 wr T base all vo O) (hx : Ext wr w') : OutI w3 w' T base all vo O := ⟨h.blk.ext hx, h.rb.ext hx, h.sep, h.new, h.ext.trans hx⟩
theorem OutI.app {w3 wr : World} {T : Nat → Prop} {base : Nat} {all : Int} {vo : Value} {O : List Ent} (h : OutI w3 wr T base all vo O) (hb : base ≤ w3.heap.size) (hT : ∀ b, T b → b < w3.heap.size) (hL : O.length ≤ 1000000) (x : Ent) {eo : Option Addr} {en ecap : Nat} (ee : x.2.1 = .slice eo en ecap)
    (hrow : Row .u8 wr x.2.1 x.2.2) (hfx : x.2.2 ≠ [] → ∀ b, x.2.1.ownBlock = some b → ¬ T b) (hsx : x.2.2 ≠ [] → ∀ b, x.2.1.ownBlock = some b → vo.ownBlock ≠ some b) (hrise : Rise (O ++ [x])) (hid : 1 ≤ x.1 ∧ I64 x.1) :
    ∃ ao' cap' w5, (Builtin.append_ #[31, 31] 31 #[vo, .slice (some ⟨wr.heap.size, 0, none⟩) 1 1]).run Try.prog (wr.alloc (.cells #[.int .i64 x.1, x.2.1] 49)) = .ok (.slice ao' (O.length + 1) cap') w5 ∧
      w5.cell? ⟨w3.heap.size, 1, none⟩ = some vo ∧ w5.frozen? ⟨w3.heap.size, 1, none⟩ = false ∧ OutI w3 (w5.setCell ⟨w3.heap.size, 1, none⟩ (.slice ao' (O.length + 1) cap')) T base all (.slice ao' (O.length + 1) cap') (O ++ [x]) := by
  have hs := h.ext.size
  obtain ⟨ao', cap', w5, h1, h2, h3, h4, h5, h6, h7, h8⟩ := app_step h.blk h.rb h.sep (fun e => by have := h.new _ e; omega) (by omega) (fun b hb => by have := hT b hb; omega) hL x ee hrow hfx hsx hrise hid
  refine ⟨ao', cap', w5, h1, h2, h3, ⟨h4, h5, h6, fun b hb2 => ?_, ?_⟩⟩
  · rcases h8 b hb2 with h9 | h9
    · exact h.new b h9
    · have := h.blk.lt
      omega
  · refine Below.trans h.ext (h7.below hs (fun k hk => ?_))
    rcases hk with rfl | hk
    · exact Nat.le_refl _
    · have := h.new k hk
      omega

theorem RB.kept1 {w w' : World} {T : Nat → Prop} {base f : Nat} {v : Value} {L : List Ent} {a : Int} {xo : Option Addr} {xn xc : Nat} {t : TypeId} (h : RB w T base v L) (hf : Blk w f #[.int .i64 a, .slice xo xn xc] t) (hne : v.ownBlock ≠ some f) (hg : w.grownBy w' (some f)) : RB w' T base v L := by
  have hno : ∀ i n, w.cell? ⟨f, i, none⟩ ≠ some (.int .u8 n) := hf.no (by
    intro u hu n e
    simp at hu
    rcases hu with rfl | rfl
    · simp at e
    · cases e)
  exact ⟨World.ownsRow.kept h.own hg (.inr hne), h.far, fun p hp => (h.row p hp).grown hg hno, h.farR, h.rise, h.ids⟩
/-- How far Data has come: nothing is put yet, or the buffer is put. -/
def Stt (id : Int) (xs : List Int) (R : List Ent) (k : Nat) (p : Bool) (O : List Ent) : Prop :=
  (p = false ∧ O = R.take k ∧ ∀ q ∈ R.take k, ¬ id < q.1) ∨ (p = true ∧ ∃ cv, O = ins (id, cv, xs) (R.take k) ∧ ∃ q ∈ R.take k, id < q.1)
theorem rise_take {R : List Ent} (h : Rise R) (k : Nat) : Rise (R.take k) := List.Pairwise.sublist (List.take_sublist _ _) h
theorem Stt.len {id : Int} {xs : List Int} {R : List Ent} {k : Nat} {p : Bool} {O : List Ent} (h : Stt id xs R k p O) (hk : k ≤ R.length) : O.length ≤ k + 1 := by
  rcases h with ⟨_, rfl, _⟩ | ⟨_, cv, rfl, _⟩
  · rw [List.length_take]; omega
  · rw [len_ins, List.length_take]; omega
theorem rise_new {id : Int} {xs : List Int} {A : List Ent} {cv : Value} (hr : Rise A) (hne : ∀ q ∈ A, q.1 ≠ id) (hn : ∀ q ∈ A, ¬ id < q.1) : Rise (A ++ [(id, cv, xs)]) := by
  rw [← ins_end (x := (id, cv, xs)) hn]
  exact hr.ins hne
section
variable {w : World} {T : Nat → Prop} {base : Nat} {v : Value} {L : List Ent} {all : Int}
set_option maxRecDepth 10000 in
set_option maxHeartbeats 8000000 in
theorem refData_any (h : RB w T base v L) (hT : ∀ b, T b → b < w.heap.size) (hb : base ≤ w.heap.size) (hL : L.length ≤ 100000) {id : Int} (hid : I64 id) {u : Value} {xs : List Int} (hr : Row .u8 w u xs) (hx : xs.length ≤ 140737488355328) (h0 : 0 ≤ all) (h1 : all ≤ 262144) (hs : (sumB L : Int) ≤ all) :
    Calls Try.prog 11 #[.agg (rsto all v), .int .i64 id, u] w fun e w' => ∃ v' L', e = .returned (.tuple #[.agg (rsto all v'), .int .i64 (dE all id xs (prj L))]) ∧ RB w' T base v' L' ∧ prj L' = dP all id xs (prj L) ∧ L'.length ≤ L.length + 1 ∧ Ext w w' := by
  obtain ⟨ao, cap, rfl, hao, hlc, hcm⟩ := h.shape
  obtain ⟨bo, bcap, rfl, hbo, hblc, hbcm⟩ := hr.shape
  have hcm2 : cap ≤ 9223372036854775807 := by unfold maxLen at hcm; omega
  have hbcm2 : bcap ≤ 9223372036854775807 := by unfold maxLen at hbcm; omega
  have hsum := lenOf_le h.rise id
  have HH := hide h
  have HT := hide hT
  have HR := hide hr
  have HID := hide hid
  clear h hao hcm hT hr hbo hbcm hid
  unfold rsto
  have hB0 : Blk ((w.alloc (.cells #[.int .i64 all, .slice ao L.length cap] 33)).alloc (.cells #[.int .i64 0, .slice none 0 0] 33)) w.heap.size #[.int .i64 all, .slice ao L.length cap] 33 := (Blk.new w _ _).alloc _
  have hB1 : Blk ((w.alloc (.cells #[.int .i64 all, .slice ao L.length cap] 33)).alloc (.cells #[.int .i64 0, .slice none 0 0] 33)) (w.heap.size + 1) #[.int .i64 0, .slice none 0 0] 33 := by
    have h := Blk.new (w.alloc (.cells #[.int .i64 all, .slice ao L.length cap] 33)) #[.int .i64 0, .slice none 0 0] 33
    rw [show (w.alloc (.cells #[.int .i64 all, .slice ao L.length cap] 33)).heap.size = w.heap.size + 1 by simp] at h
    exact h
  have hX1 : Ext w ((w.alloc (.cells #[.int .i64 all, .slice ao L.length cap] 33)).alloc (.cells #[.int .i64 0, .slice none 0 0] 33)) := ((Ext.refl w).alloc _).alloc _
  have H1 := hide (And.intro hB0 (And.intro hB1 hX1))
  clear hB0 hB1 hX1
  -- what is answered where nothing is put
  have HBAD : Hid (∀ (wz : World) (E : Int), Ext w wz → dE all id xs (prj L) = E → dP all id xs (prj L) = prj L →
      ∃ v' L', Ending.returned (.tuple #[.agg #[.int .i64 all, .slice ao L.length cap], .int .i64 E]) = .returned (.tuple #[.agg #[.int .i64 all, v'], .int .i64 (dE all id xs (prj L))]) ∧ RB wz T base v' L' ∧ prj L' = dP all id xs (prj L) ∧ L'.length ≤ L.length + 1 ∧ Ext w wz) := by
    intro wz E hx hE hP
    exact ⟨_, L, by rw [hE], (unhide HH).ext hx, hP.symm, by omega, hx⟩
  go_enter Try.func11, Try.ntmps11
  by_cases hlow : id < 1
  · have hE : dE all id xs (prj L) = 2 := by unfold dE; rw [if_pos hlow]
    have hP : dP all id xs (prj L) = prj L := by unfold dP; rw [if_pos hlow]
    have FIN := hide (fun wz hx => unhide HBAD wz 2 hx hE hP)
    clear hE hP
    go_wp2
    refine bodyPost_ret (v := .tuple #[.agg #[.int .i64 all, .slice ao L.length cap], .int .i64 2]) ?_ rfl ?_
    · simp [results, Try.results11, go_sem]
    · exact unhide FIN _ (((Ext.refl w).alloc _).alloc _)
  · have hid1 : 1 ≤ id := by omega
    go_wp2_with fail
    refine (without_any (all := all) ((unhide HH).ext (unhide H1).2.2) (fun b hb2 => Nat.lt_of_lt_of_le (unhide HT b hb2) (unhide H1).2.2.size) (Nat.le_trans hb (unhide H1).2.2.size) (by omega) id).mono ?_
    rintro e w2 ⟨v2, rfl, hR2, hx2⟩
    obtain ⟨ao2, cap2, rfl, _, hl2, hc2⟩ := hR2.shape
    have hc22 : cap2 ≤ 9223372036854775807 := by unfold maxLen at hc2; omega
    clear hc2
    obtain ⟨R, hR⟩ : ∃ R, R = rem id L := ⟨_, rfl⟩
    rw [← hR] at hR2 hsum hl2 ⊢
    have hRn : ∀ q ∈ R, q.1 ≠ id := fun q hq => by rw [hR] at hq; exact (mem_rem.1 hq).2
    have hRl : R.length ≤ L.length := by rw [hR]; exact len_rem id L
    have hRp : prj R = rem id (prj L) := by rw [hR]; exact prj_rem id L
    have HRF := hide (And.intro hRn hRp)
    have H2 := hide (And.intro ((unhide H1).1.ext hx2) (And.intro ((unhide H1).2.1.ext hx2) (And.intro hR2 ((unhide H1).2.2.trans hx2))))
    have hR2s : (sumB R : Int) ≤ all := by omega
    clear hR hRn hRp hR2 hx2
    simp only [rsto]
    go_wp2_with fail
    have hBr := Blk.new w2 #[.int .i64 all, .slice ao2 R.length cap2] 33
    have hxr : Ext w2 (w2.alloc (.cells #[.int .i64 all, .slice ao2 R.length cap2] 33)) := (Ext.refl w2).alloc _
    have hlt2 := (unhide H2).2.1.lt
    refine (refLeft_any ((unhide H2).2.2.1.ext hxr) h0 h1 hR2s).mono ?_
    rintro e w3 ⟨rfl, hx3⟩
    have hxw3 := hxr.trans hx3
    have H3 := hide (And.intro ((unhide H2).1.ext hxw3) (And.intro ((unhide H2).2.1.ext hxw3) (And.intro (hBr.ext hx3) (And.intro ((unhide H2).2.2.1.ext hxw3) ((unhide H2).2.2.2.trans hxw3)))))
    have hlr := hBr.lt
    have hlr3 : w2.heap.size < w3.heap.size := Nat.lt_of_lt_of_le hlr hx3.size
    have hsz3 := (unhide H3).2.2.2.2.size
    clear hBr hxr hx3 hxw3 H2 hlr
    have hdl : all - (sumP (prj L) : Int) + lenP id (prj L) = all - (sumB R : Int) := by rw [prj_sum, prj_lenOf]; omega
    by_cases hfull : all - (sumB R : Int) < xs.length
    · have hE : dE all id xs (prj L) = 6 := by unfold dE; rw [if_neg (by omega), hdl, if_pos hfull]
      have hP : dP all id xs (prj L) = prj L := by unfold dP; rw [if_neg (by omega), hdl, if_pos hfull]
      have FIN := hide (fun wz hx => unhide HBAD wz 6 hx hE hP)
      clear hE hP hdl
      have q0 : w3.cell? ⟨w.heap.size, 0, none⟩ = some (.int .i64 all) := (unhide H3).1.cell (i := 0) rfl
      have q1 : w3.cell? ⟨w.heap.size, 1, none⟩ = some (.slice ao L.length cap) := (unhide H3).1.cell (i := 1) rfl
      have p0 : w3.cell? ⟨w.heap.size + 1, 0, none⟩ = some (.int .i64 0) := (unhide H3).2.1.cell (i := 0) rfl
      have p1 : w3.cell? ⟨w.heap.size + 1, 1, none⟩ = some (.slice none 0 0) := (unhide H3).2.1.cell (i := 1) rfl
      have f0 := (unhide H3).2.1.free 0
      have f1 := (unhide H3).2.1.free 1
      have hB7 := ((unhide H3).2.1.set 0 (.int .i64 all)).set 1 (.slice ao L.length cap)
      have HB7 := hide hB7
      clear hB7
      go_wp2
      have r0 := (unhide HB7).cell (i := 0) rfl
      have r1 := (unhide HB7).cell (i := 1) rfl
      refine bodyPost_ret (v := .tuple #[.agg #[.int .i64 all, .slice ao L.length cap], .int .i64 6]) ?_ rfl ?_
      · simp [results, Try.results11, go_sem, r0, r1]
      · exact unhide FIN _ (below_grown (unhide H3).2.2.2.2 ((grownBy_set _ _ _ _).trans (grownBy_set _ _ _ _)) hsz3 (by omega))
    · have hE : dE all id xs (prj L) = 0 := by unfold dE; rw [if_neg (by omega), hdl, if_neg hfull]
      have hP : dP all id xs (prj L) = ins (id, xs) (prj R) := by unfold dP; rw [if_neg (by omega), hdl, if_neg hfull, (unhide HRF).2]
      have HGOOD : Hid (∀ (wz : World) (aoz : Option Addr) (capz : Nat) (O : List Ent) (cv : Value), OutI w3 wz T base all (.slice aoz O.length capz) O → O = ins (id, cv, xs) R →
          ∃ v' L', Ending.returned (.tuple #[.agg #[.int .i64 all, .slice aoz O.length capz], .int .i64 0]) = .returned (.tuple #[.agg #[.int .i64 all, v'], .int .i64 (dE all id xs (prj L))]) ∧ RB ((wz.setCell ⟨w.heap.size + 1, 0, none⟩ (.int .i64 all)).setCell ⟨w.heap.size + 1, 1, none⟩ (.slice aoz O.length capz)) T base v' L' ∧ prj L' = dP all id xs (prj L) ∧ L'.length ≤ L.length + 1 ∧
            Ext w ((wz.setCell ⟨w.heap.size + 1, 0, none⟩ (.int .i64 all)).setCell ⟨w.heap.size + 1, 1, none⟩ (.slice aoz O.length capz))) := by
        intro wz aoz capz O cv hO hOe
        have hg : wz.grownBy ((wz.setCell ⟨w.heap.size + 1, 0, none⟩ (.int .i64 all)).setCell ⟨w.heap.size + 1, 1, none⟩ (.slice aoz O.length capz)) (some (w.heap.size + 1)) := (grownBy_set _ _ _ _).trans (grownBy_set _ _ _ _)
        have hxz := (unhide H3).2.2.2.2.trans hO.ext
        refine ⟨.slice aoz O.length capz, O, by rw [hE], hO.rb.kept1 ((unhide H3).2.1.ext hO.ext) (fun e => ?_) hg, ?_, ?_, below_grown hxz hg hxz.size (by omega)⟩
        · have := hO.new _ e
          omega
        · rw [hOe, prj_ins, hP]
        · rw [hOe, len_ins]
          omega
      have HBT := hide (And.intro (Nat.le_trans hb hsz3) (fun b hb2 => Nat.lt_of_lt_of_le (unhide HT b hb2) hsz3))
      have hRw3 := (unhide H3).2.2.2.1
      have HRI := hide hRw3.rise
      have q0 : w3.cell? ⟨w.heap.size, 0, none⟩ = some (.int .i64 all) := (unhide H3).1.cell (i := 0) rfl
      clear hdl hE hP hRw3
      go_wp2_with fail
      clear q0
      have hOI0 : OutI w3 (w3.alloc (.cells #[.int .i64 all, .slice none 0 0] 33)) T base all (.slice none 0 0) [] := ⟨Blk.new _ _ _, RB.nil _ _ _, by simp [Sep], by simp [Value.ownBlock], (Ext.refl w3).alloc _⟩
      have H4 := hide hOI0
      clear hOI0
      generalize w3.alloc (.cells #[.int .i64 all, .slice none 0 0] 33) = w4 at H4 ⊢
      go_loopw [10, 11] (fun pt i wr => ∃ (k : Nat) (p : Bool) (ao5 : Option Addr) (cap5 : Nat) (O : List Ent), k ≤ R.length ∧ pt = .bool p ∧ i = .int .i64 (k : Int) ∧ OutI w3 wr T base all (.slice ao5 O.length cap5) O ∧ Stt id xs R k p O) (fun _ i _ => R.length - (intOf i).toNat)
      case atStart => exact ⟨0, false, none, 0, [], Nat.zero_le _, rfl, rfl, unhide H4, .inl ⟨rfl, by simp, by simp⟩⟩
      case round =>
        clear H4
        obtain ⟨k, p, ao5, cap5, O, hk, rfl, rfl, hOI, hSt⟩ := hrel
        have hOl : O.length ≤ 1000000 := by have := hSt.len hk; omega
        have hOl2 : O.length + 1 ≤ 1000000 := by have := hSt.len hk; omega
        have cR : wr.cell? ⟨w2.heap.size, 1, none⟩ = some (.slice ao2 R.length cap2) := ((unhide H3).2.2.1.ext hOI.ext).cell (i := 1) rfl
        have cO : wr.cell? ⟨w3.heap.size, 1, none⟩ = some (.slice ao5 O.length cap5) := hOI.blk.cell (i := 1) rfl
        have hl3 := hOI.blk.lt
        by_cases hlt : k < R.length
        · have hRw := (unhide H3).2.2.2.1.ext hOI.ext
          obtain ⟨g2, rfl, c1, c2⟩ := hRw.at k hlt
          have hmem := List.getElem_mem hlt
          have hrowk := (unhide H3).2.2.2.1.row _ hmem
          have hfark := (unhide H3).2.2.2.1.farR _ hmem
          have hidk := (unhide H3).2.2.2.1.ids _ hmem
          have hnek := (unhide HRF).1 _ hmem
          obtain ⟨eo, ecap, ee, _⟩ := hrowk.shape
          rw [ee] at c2
          have hkn : (k : Int) < (R.length : Int) := by omega
          obtain ⟨j, hj⟩ : ∃ j, R[k].1 = j := ⟨_, rfl⟩
          obtain ⟨jn, hjn⟩ : ∃ jn, R[k].2.2.length = jn := ⟨_, rfl⟩
          rw [hj] at c1 hnek
          rw [hjn] at c2
          have htk := List.take_succ_eq_append_getElem hlt
          have hrt := rise_take (unhide HRI) (k + 1)
          have hrt0 := rise_take (unhide HRI) k
          have hnt : ∀ q ∈ R.take (k + 1), q.1 ≠ id := fun q hq => (unhide HRF).1 q (List.mem_of_mem_take hq)
          have hnt0 : ∀ q ∈ R.take k, q.1 ≠ id := fun q hq => (unhide HRF).1 q (List.mem_of_mem_take hq)
          have HK := hide (And.intro hrowk (And.intro hfark (And.intro hidk ee)))
          have HOI := hide hOI
          have HJ := hide hj
          have HJN := hide hjn
          rcases hSt with ⟨rfl, hOe, hnone⟩ | ⟨rfl, cv, hOe, hsome⟩
          · by_cases hgt : id < j
            · have hri1 : ∀ cv, Rise (O ++ [(id, cv, xs)]) := fun cv => by rw [hOe]; exact rise_new hrt0 hnt0 hnone
              have HC : Hid (Calls Try.prog 30 #[.slice bo xs.length bcap] wr.drew fun e w6 => ∃ g ao6 cap6 w7, e = .returned (.slice (some ⟨g, 0, none⟩) xs.length xs.length) ∧ w3.heap.size < w6.heap.size ∧ w6.cell? ⟨w3.heap.size, 1, none⟩ = some (.slice ao5 O.length cap5) ∧
                  (Builtin.append_ #[31, 31] 31 #[.slice ao5 O.length cap5, .slice (some ⟨w6.heap.size, 0, none⟩) 1 1]).run Try.prog (w6.alloc (.cells #[.int .i64 id, .slice (some ⟨g, 0, none⟩) xs.length xs.length] 49)) = .ok (.slice ao6 (O.length + 1) cap6) w7 ∧
                  w7.cell? ⟨w3.heap.size, 1, none⟩ = some (.slice ao5 O.length cap5) ∧ w7.frozen? ⟨w3.heap.size, 1, none⟩ = false ∧ OutI w3 (w7.setCell ⟨w3.heap.size, 1, none⟩ (.slice ao6 (O.length + 1) cap6)) T base all (.slice ao6 (O.length + 1) cap6) (O ++ [(id, .slice (some ⟨g, 0, none⟩) xs.length xs.length, xs)])) := by
                have hOd := (unhide HOI).exts (Ext.refl wr).drew
                refine (copied_any _ xs wr.drew ((unhide HR).ext ((unhide H3).2.2.2.2.trans hOd.ext)) hx).mono ?_
                rintro e w6 ⟨g, rfl, hown6, hx6⟩
                have hgl : wr.heap.size ≤ g := (hown6.lt g rfl).1
                have hO6 := hOd.exts hx6
                have hbg : ∀ b, (Value.slice (some ⟨g, 0, none⟩) xs.length xs.length).ownBlock = some b → b = g := fun b h => by simpa [Value.ownBlock] using h.symm
                obtain ⟨ao6, cap6, w7, r1, r2, r3, r4⟩ := hO6.app (unhide HBT).1 (unhide HBT).2 hOl (id, .slice (some ⟨g, 0, none⟩) xs.length xs.length, xs) rfl hown6.row (fun _ b hb2 hTb => by have h0 := hbg b hb2; have h1 := (unhide HBT).2 _ hTb; have h2 := (unhide HOI).ext.size; omega) (fun _ b hb2 e => by have h0 := hbg b hb2; have h1 := (World.ownsRow.lt (unhide HOI).rb.own _ e).2; omega) (hri1 _) ⟨hid1, unhide HID⟩
                exact ⟨g, ao6, cap6, w7, rfl, hO6.blk.lt, hO6.blk.cell (i := 1) rfl, r1, r2, r3, r4⟩
              have HSB : Hid (∀ cv : Value, Rise ((O ++ [(id, cv, xs)]) ++ [R[k]]) ∧ Stt id xs R (k + 1) true ((O ++ [(id, cv, xs)]) ++ [R[k]])) := fun cv => by
                have e : (O ++ [(id, cv, xs)]) ++ [R[k]] = ins (id, cv, xs) (R.take (k + 1)) := by rw [hOe, htk]; exact (ins_snoc_new hnone (by rw [hj]; exact hgt)).symm
                rw [e]
                exact ⟨hrt.ins hnt, .inr ⟨rfl, cv, rfl, R[k], by rw [htk]; exact List.mem_append_right _ (List.mem_singleton.2 rfl), by rw [hj]; exact hgt⟩⟩
              clear hOe hnone hrt hnt htk hrt0 hnt0 hri1 hrowk hfark hidk ee hOI hRw hnek hj hjn hmem
              go_wp2_with fail
              go_region_law ((first | (refine step_run (by rfl) (.tmp 47) (.tmp 52) 31 (by rfl) (by rfl) (by rfl) hrun6 ?_) | (go_simp; go_at_call 30; refine (unhide HC).mono ?_; rintro e w6 ⟨g, ao6, cap6, w7, rfl, hl6, cO6, hrun6, cO7, fO7, hO7⟩)))
              all_goals
                obtain ⟨O2, hO2⟩ : ∃ O2, O2 = O ++ [(id, .slice (some ⟨g, 0, none⟩) xs.length xs.length, xs)] := ⟨_, rfl⟩
                have hlen2 : O.length + 1 = O2.length := by rw [hO2]; simp
                have HRS := hide (unhide HSB (.slice (some ⟨g, 0, none⟩) xs.length xs.length))
                rw [← hO2] at hO7 HRS
                rw [hlen2] at hO7 ⊢
                have hOl : O2.length ≤ 1000000 := by rw [← hlen2]; exact hOl2
                clear hO2 hlen2 cO6 hrun6 cO7 fO7 hl6 HSB HC cR c1 c2 cO HOI hl3
                generalize w7.setCell ⟨w3.heap.size, 1, none⟩ (.slice ao6 O2.length cap6) = w8 at hO7 ⊢
                have hRw8 := (unhide H3).2.2.2.1.ext hO7.ext
                have cR : w8.cell? ⟨w2.heap.size, 1, none⟩ = some (.slice (some ⟨g2, 0, none⟩) R.length cap2) := ((unhide H3).2.2.1.ext hO7.ext).cell (i := 1) rfl
                have cO : w8.cell? ⟨w3.heap.size, 1, none⟩ = some (.slice ao6 O2.length cap6) := hO7.blk.cell (i := 1) rfl
                have hl3 := hO7.blk.lt
                obtain ⟨g3, e3, c1, c2⟩ := hRw8.at k hlt
                cases e3
                rw [unhide HJ] at c1
                rw [(unhide HK).2.2.2, unhide HJN] at c2
                have HOI := hide hO7
                clear hO7 hRw8
                obtain ⟨ao3, cap3, w5, hrun, cO5, fO5, hO5⟩ := ((unhide HOI).exts (Ext.refl w8).drew).app (unhide HBT).1 (unhide HBT).2 hOl R[k] (unhide HK).2.2.2 ((unhide HK).1.ext ((unhide HOI).ext.trans (Ext.refl w8).drew)) (unhide HK).2.1 (fun hne b hb2 e => by have h1 := (unhide HOI).new b e; have h2 := (unhide HK).1.blk_lt hne hb2; omega) (unhide HRS).1 (unhide HK).2.2.1
                rw [(unhide HK).2.2.2, unhide HJ, unhide HJN] at hrun
                have hrun2 : (Builtin.append_ #[31, 31] 31 #[.slice ao6 O2.length cap6, .slice (some ⟨w8.heap.size, 0, none⟩) 1 1]).run Try.prog (w8.alloc (.cells #[.int .i64 j, .slice eo jn ecap] 49)).drew = .ok (.slice ao3 (O2.length + 1) cap3) w5 := hrun
                have hO5b : OutI w3 (w5.setCell ⟨w3.heap.size, 1, none⟩ (.slice ao3 (O2.length + 1) cap3)) T base all (.slice ao3 (O2 ++ [R[k]]).length cap3) (O2 ++ [R[k]]) := by rw [show (O2 ++ [R[k]]).length = O2.length + 1 by simp]; exact hO5
                have HO5 := hide hO5b
                have HRUN := hide hrun2
                clear hrun hO5 hO5b hrun2
                go_wp2_with fail
                go_region_law ((refine step_run (by rfl) (.tmp 56) (.tmp 62) 31 (by rfl) (by rfl) (by rfl) (unhide HRUN) ?_))
                all_goals go_wp2
                all_goals go_roundw
                all_goals first
                  | exact ⟨k + 1, true, ao3, cap3, O2 ++ [R[k]], by omega, rfl, by go_num, unhide HO5, (unhide HRS).2⟩
                  | (simp [intOf]; omega)
            · have HRS : Hid (Rise (O ++ [R[k]]) ∧ Stt id xs R (k + 1) false (O ++ [R[k]])) := by
                rw [hOe, ← htk]
                refine ⟨hrt, .inl ⟨rfl, rfl, fun q hq => ?_⟩⟩
                rw [htk] at hq
                rcases List.mem_append.1 hq with hq | hq
                · exact hnone q hq
                · simp at hq
                  subst hq
                  rw [hj]
                  exact hgt
              clear hOe hnone hrt hnt htk hrt0 hnt0 hrowk hfark hidk ee hOI hRw hnek hj hjn hmem
              obtain ⟨ao3, cap3, w5, hrun, cO5, fO5, hO5⟩ := ((unhide HOI).exts (Ext.refl wr).drew).app (unhide HBT).1 (unhide HBT).2 hOl R[k] (unhide HK).2.2.2 ((unhide HK).1.ext ((unhide HOI).ext.trans (Ext.refl wr).drew)) (unhide HK).2.1 (fun hne b hb2 e => by have h1 := (unhide HOI).new b e; have h2 := (unhide HK).1.blk_lt hne hb2; omega) (unhide HRS).1 (unhide HK).2.2.1
              rw [(unhide HK).2.2.2, unhide HJ, unhide HJN] at hrun
              have hrun2 : (Builtin.append_ #[31, 31] 31 #[.slice ao5 O.length cap5, .slice (some ⟨wr.heap.size, 0, none⟩) 1 1]).run Try.prog (wr.alloc (.cells #[.int .i64 j, .slice eo jn ecap] 49)).drew = .ok (.slice ao3 (O.length + 1) cap3) w5 := hrun
              have hO5b : OutI w3 (w5.setCell ⟨w3.heap.size, 1, none⟩ (.slice ao3 (O.length + 1) cap3)) T base all (.slice ao3 (O ++ [R[k]]).length cap3) (O ++ [R[k]]) := by rw [show (O ++ [R[k]]).length = O.length + 1 by simp]; exact hO5
              have HO5 := hide hO5b
              have HRUN := hide hrun2
              clear hrun hO5 hO5b hrun2
              go_wp2_with fail
              go_region_law ((refine step_run (by rfl) (.tmp 56) (.tmp 62) 31 (by rfl) (by rfl) (by rfl) (unhide HRUN) ?_))
              all_goals go_wp2
              all_goals go_roundw
              all_goals first
                | exact ⟨k + 1, false, ao3, cap3, O ++ [R[k]], by omega, rfl, by go_num, unhide HO5, (unhide HRS).2⟩
                | (simp [intOf]; omega)
          · have HRS : Hid (Rise (O ++ [R[k]]) ∧ Stt id xs R (k + 1) true (O ++ [R[k]])) := by
              have e : O ++ [R[k]] = ins (id, cv, xs) (R.take (k + 1)) := by rw [hOe, htk]; exact (ins_snoc_some hsome).symm
              rw [e]
              obtain ⟨q, hq, hl⟩ := hsome
              exact ⟨hrt.ins hnt, .inr ⟨rfl, cv, rfl, q, by rw [htk]; exact List.mem_append_left _ hq, hl⟩⟩
            clear hOe hsome hrt hnt htk hrt0 hnt0 hrowk hfark hidk ee hOI hRw hnek hj hjn hmem
            obtain ⟨ao3, cap3, w5, hrun, cO5, fO5, hO5⟩ := ((unhide HOI).exts (Ext.refl wr).drew).app (unhide HBT).1 (unhide HBT).2 hOl R[k] (unhide HK).2.2.2 ((unhide HK).1.ext ((unhide HOI).ext.trans (Ext.refl wr).drew)) (unhide HK).2.1 (fun hne b hb2 e => by have h1 := (unhide HOI).new b e; have h2 := (unhide HK).1.blk_lt hne hb2; omega) (unhide HRS).1 (unhide HK).2.2.1
            rw [(unhide HK).2.2.2, unhide HJ, unhide HJN] at hrun
            have hrun2 : (Builtin.append_ #[31, 31] 31 #[.slice ao5 O.length cap5, .slice (some ⟨wr.heap.size, 0, none⟩) 1 1]).run Try.prog (wr.alloc (.cells #[.int .i64 j, .slice eo jn ecap] 49)).drew = .ok (.slice ao3 (O.length + 1) cap3) w5 := hrun
            have hO5b : OutI w3 (w5.setCell ⟨w3.heap.size, 1, none⟩ (.slice ao3 (O.length + 1) cap3)) T base all (.slice ao3 (O ++ [R[k]]).length cap3) (O ++ [R[k]]) := by rw [show (O ++ [R[k]]).length = O.length + 1 by simp]; exact hO5
            have HO5 := hide hO5b
            have HRUN := hide hrun2
            clear hrun hO5 hO5b hrun2
            go_wp2_with fail
            go_region_law ((refine step_run (by rfl) (.tmp 56) (.tmp 62) 31 (by rfl) (by rfl) (by rfl) (unhide HRUN) ?_))
            all_goals go_wp2
            all_goals go_roundw
            all_goals first
              | exact ⟨k + 1, true, ao3, cap3, O ++ [R[k]], by omega, rfl, by go_num, unhide HO5, (unhide HRS).2⟩
              | (simp [intOf]; omega)
        · obtain rfl : k = R.length := by omega
          rw [Stt, List.take_length] at hSt
          have HOI := hide hOI
          rcases hSt with ⟨rfl, hOe, hnone⟩ | ⟨rfl, cv, hOe, hsome⟩
          · have hri1 : ∀ cv, Rise (O ++ [(id, cv, xs)]) := fun cv => by rw [hOe]; exact rise_new (unhide HRI) (unhide HRF).1 hnone
            have HC : Hid (Calls Try.prog 30 #[.slice bo xs.length bcap] wr.drew fun e w6 => ∃ g ao6 cap6 w7, e = .returned (.slice (some ⟨g, 0, none⟩) xs.length xs.length) ∧ w3.heap.size < w6.heap.size ∧ w6.cell? ⟨w3.heap.size, 1, none⟩ = some (.slice ao5 O.length cap5) ∧
                (Builtin.append_ #[31, 31] 31 #[.slice ao5 O.length cap5, .slice (some ⟨w6.heap.size, 0, none⟩) 1 1]).run Try.prog (w6.alloc (.cells #[.int .i64 id, .slice (some ⟨g, 0, none⟩) xs.length xs.length] 49)) = .ok (.slice ao6 (O.length + 1) cap6) w7 ∧
                w7.cell? ⟨w3.heap.size, 1, none⟩ = some (.slice ao5 O.length cap5) ∧ w7.frozen? ⟨w3.heap.size, 1, none⟩ = false ∧ OutI w3 (w7.setCell ⟨w3.heap.size, 1, none⟩ (.slice ao6 (O.length + 1) cap6)) T base all (.slice ao6 (O.length + 1) cap6) (O ++ [(id, .slice (some ⟨g, 0, none⟩) xs.length xs.length, xs)])) := by
              have hOd := (unhide HOI).exts (Ext.refl wr).drew
              refine (copied_any _ xs wr.drew ((unhide HR).ext ((unhide H3).2.2.2.2.trans hOd.ext)) hx).mono ?_
              rintro e w6 ⟨g, rfl, hown6, hx6⟩
              have hgl : wr.heap.size ≤ g := (hown6.lt g rfl).1
              have hO6 := hOd.exts hx6
              have hbg : ∀ b, (Value.slice (some ⟨g, 0, none⟩) xs.length xs.length).ownBlock = some b → b = g := fun b h => by simpa [Value.ownBlock] using h.symm
              obtain ⟨ao6, cap6, w7, r1, r2, r3, r4⟩ := hO6.app (unhide HBT).1 (unhide HBT).2 hOl (id, .slice (some ⟨g, 0, none⟩) xs.length xs.length, xs) rfl hown6.row (fun _ b hb2 hTb => by have h0 := hbg b hb2; have h1 := (unhide HBT).2 _ hTb; have h2 := (unhide HOI).ext.size; omega) (fun _ b hb2 e => by have h0 := hbg b hb2; have h1 := (World.ownsRow.lt (unhide HOI).rb.own _ e).2; omega) (hri1 _) ⟨hid1, unhide HID⟩
              exact ⟨g, ao6, cap6, w7, rfl, hO6.blk.lt, hO6.blk.cell (i := 1) rfl, r1, r2, r3, r4⟩
            have HSB : Hid (∀ cv : Value, O ++ [(id, cv, xs)] = ins (id, cv, xs) R) := fun cv => by rw [hOe]; exact (ins_end hnone).symm
            clear hOe hnone hri1 hOI
            go_wp2_with fail
            go_region_law ((first | (refine step_run (by rfl) (.tmp 68) (.tmp 73) 31 (by rfl) (by rfl) (by rfl) hrun6 ?_) | (go_simp; go_at_call 30; refine (unhide HC).mono ?_; rintro e w6 ⟨g, ao6, cap6, w7, rfl, hl6, cO6, hrun6, cO7, fO7, hO7⟩)))
            all_goals
              obtain ⟨O2, hO2⟩ : ∃ O2, O2 = O ++ [(id, .slice (some ⟨g, 0, none⟩) xs.length xs.length, xs)] := ⟨_, rfl⟩
              have hlen2 : O.length + 1 = O2.length := by rw [hO2]; simp
              have HRS := hide (unhide HSB (.slice (some ⟨g, 0, none⟩) xs.length xs.length))
              rw [← hO2] at hO7 HRS
              rw [hlen2] at hO7 ⊢
              clear hO2 hlen2 cO6 hrun6 cO7 fO7 hl6 HSB HC cR cO HOI hl3
              have FIN := hide (unhide HGOOD _ _ _ _ _ hO7 (unhide HRS))
              generalize w7.setCell ⟨w3.heap.size, 1, none⟩ (.slice ao6 O2.length cap6) = w8 at hO7 FIN ⊢
              have HOI := hide hO7
              clear hO7
              have q0 : w8.cell? ⟨w3.heap.size, 0, none⟩ = some (.int .i64 all) := (unhide HOI).blk.cell (i := 0) rfl
              have q1 : w8.cell? ⟨w3.heap.size, 1, none⟩ = some (.slice ao6 O2.length cap6) := (unhide HOI).blk.cell (i := 1) rfl
              have hB1e := (unhide H3).2.1.ext (unhide HOI).ext
              have p0 : w8.cell? ⟨w.heap.size + 1, 0, none⟩ = some (.int .i64 0) := hB1e.cell (i := 0) rfl
              have p1 : w8.cell? ⟨w.heap.size + 1, 1, none⟩ = some (.slice none 0 0) := hB1e.cell (i := 1) rfl
              have f0 := hB1e.free 0
              have f1 := hB1e.free 1
              have hB7 := (hB1e.set 0 (.int .i64 all)).set 1 (.slice ao6 O2.length cap6)
              have HB7 := hide hB7
              clear hB7 hB1e
              go_wp2
              have r0 := (unhide HB7).cell (i := 0) rfl
              have r1 := (unhide HB7).cell (i := 1) rfl
              refine bodyPost_ret (v := .tuple #[.agg #[.int .i64 all, .slice ao6 O2.length cap6], .int .i64 0]) ?_ rfl ?_
              · simp [results, Try.results11, go_sem, r0, r1]
              · exact unhide FIN
          · have FIN := hide (unhide HGOOD _ _ _ _ _ hOI hOe)
            clear hOe hsome hOI cO
            have q0 : wr.cell? ⟨w3.heap.size, 0, none⟩ = some (.int .i64 all) := (unhide HOI).blk.cell (i := 0) rfl
            have q1 : wr.cell? ⟨w3.heap.size, 1, none⟩ = some (.slice ao5 O.length cap5) := (unhide HOI).blk.cell (i := 1) rfl
            have hB1e := (unhide H3).2.1.ext (unhide HOI).ext
            have p0 : wr.cell? ⟨w.heap.size + 1, 0, none⟩ = some (.int .i64 0) := hB1e.cell (i := 0) rfl
            have p1 : wr.cell? ⟨w.heap.size + 1, 1, none⟩ = some (.slice none 0 0) := hB1e.cell (i := 1) rfl
            have f0 := hB1e.free 0
            have f1 := hB1e.free 1
            have hB7 := (hB1e.set 0 (.int .i64 all)).set 1 (.slice ao5 O.length cap5)
            have HB7 := hide hB7
            clear hB7 hB1e
            go_wp2
            have r0 := (unhide HB7).cell (i := 0) rfl
            have r1 := (unhide HB7).cell (i := 1) rfl
            refine bodyPost_ret (v := .tuple #[.agg #[.int .i64 all, .slice ao5 O.length cap5], .int .i64 0]) ?_ rfl ?_
            · simp [results, Try.results11, go_sem, r0, r1]
            · exact unhide FIN
end
end Go.Proofs.Ytagbenjaidikmaa
