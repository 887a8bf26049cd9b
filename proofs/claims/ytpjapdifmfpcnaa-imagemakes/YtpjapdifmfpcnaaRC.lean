/-
  Images: what the laws play, short.
-/
import Derived.Test.YtpjapdifmfpcnaaRB
namespace Go.Proofs.Ytpjapdifmfpcnaa
open Go.RowKit
set_option linter.unusedVariables false
set_option linter.unusedSimpArgs false

theorem Own.take {w : World} {base : Nat} {e : TypeId} {k : IntKind} {ao : Option Addr} {n cap : Nat} {xs : List Int} (h : Own k w base e (.slice ao n cap) xs) (m : Nat) (hm : m ≤ xs.length) : Own k w base e (.slice ao m cap) (xs.take m) := by
  have hl : (xs.take m).length = m := by simp; omega
  unfold Own at h ⊢
  rw [hl]
  refine ⟨by simp; omega, ?_⟩
  rcases h.2 with ⟨e1, h0⟩ | ⟨g, c, cur, e1, hb, hg, hnc, hcm, hcs, htake⟩
  · cases e1
    obtain rfl : m = 0 := by omega
    exact .inl ⟨rfl, rfl⟩
  · cases e1
    refine .inr ⟨g, cap, cur, rfl, hb, hg, by omega, hcm, hcs, ?_⟩
    rw [List.map_take, ← htake, List.take_take]
    congr 1
    omega
def cutE (p : Lev) : Lev := (p.1, p.2.1, p.2.2.take 20000)
def shortL (A : List Lev) : List Lev := (A.take 9).map cutE
/-- One level's bytes are cut. -/
theorem LO.cutAt {w : World} {base g n cap : Nat} {A B : List Ent} {x : Ent} (h : LO w base (.slice (some ⟨g, 0, none⟩) n cap) (A ++ x :: B)) {bo : Option Addr} {bn bcap : Nat} (hx : x.2.2.1 = .slice bo bn bcap) (m : Nat) (hm : m ≤ x.2.2.2.length) :
    LO (w.setCell ⟨g, A.length * 3 + 2, none⟩ (.slice bo m bcap)) base (.slice (some ⟨g, 0, none⟩) n cap) (A ++ (x.1, x.2.1, .slice bo m bcap, x.2.2.2.take m) :: B) := by
  obtain ⟨g2, cur, e, hn, hb, hcur⟩ := h.blk (by simp; omega)
  cases e
  subst hn
  obtain ⟨hst, hgr⟩ := World.ownsRow.stored h.own (A.length * 3 + 2) (.slice bo m bcap)
  have e9 : (A ++ (x.1, x.2.1, Value.slice bo m bcap, x.2.2.2.take m) :: B).length = (A ++ x :: B).length := by simp
  have hob : (Value.slice bo m bcap).ownBlock = x.2.2.1.ownBlock := by
    rw [hx]
    cases bo <;> rfl
  have hox := h.bys x (by simp)
  rw [hx] at hox
  have hal := h.alone
  rw [List.pairwise_append, List.pairwise_cons] at hal
  refine ⟨?_, fun p hp => ?_, ?_⟩
  · rw [e9, ← lcells_set A B x]
    exact hst
  · have hp' : p ∈ A ++ B ∨ p = (x.1, x.2.1, Value.slice bo m bcap, x.2.2.2.take m) := by
      simp at hp ⊢
      rcases hp with h1 | h1 | h1
      · exact .inl (.inl h1)
      · exact .inr h1
      · exact .inl (.inr h1)
    rcases hp' with hp' | rfl
    · have hp2 := h.bys p (by simp at hp' ⊢; rcases hp' with h1 | h1 <;> simp [h1])
      exact hp2.grown hgr (own_ne hcur hp2)
    · have h5 := hox.take m hm
      exact h5.grown hgr (own_ne hcur h5)
  · rw [List.pairwise_append, List.pairwise_cons]
    refine ⟨hal.1, ⟨fun q hq b hb2 => hal.2.1.1 q hq b (by rw [← hob]; exact hb2), hal.2.1.2⟩, fun p hp q hq b hb2 => ?_⟩
    rcases List.mem_cons.1 hq with rfl | hq
    · show (Value.slice bo m bcap).ownBlock ≠ some b
      rw [hob]
      exact hal.2.2 p hp x (by simp) b hb2
    · exact hal.2.2 p hp q (by simp [hq]) b hb2

/-- How far short has come. -/
structure ShI (w wr : World) (I : Img) (D0 : List Ent) (ao : Option Addr) (cap k : Nat) (D : List Ent) : Prop where
  len : D.length = D0.length
  abs : absL D = (absL (D0.take k)).map cutE ++ absL (D0.drop k)
  lo : LO wr (w.heap.size + 2) (.slice ao D.length cap) D
  blk : Blk wr w.heap.size #[.int .i64 I.f, .slice ao D0.length cap, .int .i64 I.ws, .int .i64 I.wt, .int .i64 I.mn, .int .i64 I.mg] 24
  res : Blk wr (w.heap.size + 1) #[.int .i64 0, .slice none 0 0, .int .i64 0, .int .i64 0, .int .i64 0, .int .i64 0] 24
  ext : Ext w wr
theorem cutE_eq (p : Ent) (v : Value) (m : Nat) (hm : m = min p.2.2.2.length 20000) : absE (p.1, p.2.1, v, p.2.2.2.take m) = cutE (absE p) := by
  subst hm
  unfold absE cutE
  simp only
  congr 2
  by_cases h : p.2.2.2.length ≤ 20000
  · rw [Nat.min_eq_left h, List.take_length, List.take_of_length_le h]
  · rw [Nat.min_eq_right (by omega)]
theorem ShI.step {w wr : World} {I : Img} {D0 D : List Ent} {g cap k : Nat} (h : ShI w wr I D0 (some ⟨g, 0, none⟩) cap k D) (hk : k < D.length) {bo : Option Addr} {bn bcap : Nat} (hx : D[k].2.2.1 = .slice bo bn bcap) (m : Nat) (hm : m = min D[k].2.2.2.length 20000) :
    ∃ D', ShI w (wr.setCell ⟨g, k * 3 + 2, none⟩ (.slice bo m bcap)) I D0 (some ⟨g, 0, none⟩) cap (k + 1) D' := by
  have hsplit : D = D.take k ++ D[k] :: D.drop (k + 1) := by rw [← List.drop_eq_getElem_cons hk, List.take_append_drop]
  have hlt : (D.take k).length = k := by simp; omega
  have hlo := h.lo
  rw [hsplit] at hlo
  have h1 := hlo.cutAt hx m (by omega)
  rw [hlt] at h1
  obtain ⟨g2, cur, e, hn, hb, hcur⟩ := h.lo.blk (by omega)
  cases e
  have hgr := grownBy_set wr g (k * 3 + 2) (.slice bo m bcap)
  have hsz := h.ext.size
  have hl9 : (D.take k ++ (D[k].1, D[k].2.1, Value.slice bo m bcap, D[k].2.2.2.take m) :: D.drop (k + 1)).length = D.length := by simp; omega
  have hk0 : k < D0.length := by rw [← h.len]; exact hk
  refine ⟨_, by rw [hl9]; exact h.len, ?_, ?_, h.blk.other (r := g) _ _ (by omega), h.res.other (r := g) _ _ (by omega), below_grown h.ext hgr hsz (by omega)⟩
  · have ha := h.abs
    have hcl : ((absL (D0.take k)).map cutE).length = k := by rw [List.length_map, absL_len]; simp; omega
    rw [hsplit, absL_append] at ha
    have htk : (absL (D.take k)).length = k := by rw [absL_len, hlt]
    obtain ⟨a1, a2⟩ := List.append_inj ha (by rw [htk, hcl])
    rw [List.drop_eq_getElem_cons hk0] at a2
    have a3 : absE D[k] :: absL (D.drop (k + 1)) = absE D0[k] :: absL (D0.drop (k + 1)) := a2
    obtain ⟨a4, a5⟩ := List.cons.inj a3
    rw [absL_append, a1, List.take_succ_eq_append_getElem hk0, absL_append, List.map_append, List.append_assoc]
    congr 1
    show absE _ :: absL (D.drop (k + 1)) = cutE (absE D0[k]) :: absL (D0.drop (k + 1))
    rw [a5, ← a4, cutE_eq _ _ _ hm]
  · rw [hl9]
    have : (D.take k ++ D[k] :: D.drop (k + 1)).length = D.length := by rw [← hsplit]
    rw [this] at h1
    exact h1

theorem ShI.drew {w wr : World} {I : Img} {D0 D : List Ent} {ao : Option Addr} {cap k : Nat} (h : ShI w wr I D0 ao cap k D) : ShI w wr.drew I D0 ao cap k D :=
  ⟨h.len, h.abs, h.lo.ext (ext_0 wr), h.blk.ext (ext_0 wr), h.res.ext (ext_0 wr), h.ext.trans (ext_0 wr)⟩
section
variable {w : World} {v : Value} {L : List Ent} {I : Img}
set_option maxRecDepth 10000 in
set_option maxHeartbeats 4000000 in
theorem short_any (h : LR w v L) (hb : ∀ p ∈ L, p.2.2.2.length ≤ 140737488355328) :
    Calls Try.prog 7 #[.agg #[.int .i64 I.f, v, .int .i64 I.ws, .int .i64 I.wt, .int .i64 I.mn, .int .i64 I.mg]] w fun e w' => ∃ ao cap D, e = .returned (.agg #[.int .i64 I.f, .slice ao D.length cap, .int .i64 I.ws, .int .i64 I.wt, .int .i64 I.mn, .int .i64 I.mg]) ∧ LO w' w.heap.size (.slice ao D.length cap) D ∧ absL D = shortL (absL L) ∧ Ext w w' := by
  obtain ⟨ao, cap, rfl, hao, hlc, hcm, _⟩ := h.shape
  have hcm2 : cap ≤ 9223372036854775807 := by unfold maxLen at hcm; omega
  obtain ⟨m, hm⟩ : ∃ m : Nat, m = min L.length 9 := ⟨_, rfl⟩
  have HM : Hid ((if (9 : Int) < (L.length : Int) then (9 : Int) else (L.length : Int)) = (m : Int)) := by
    show _ = _
    split <;> omega
  have hmL : m ≤ L.length := by omega
  have hm9 : m ≤ 9 := by omega
  have hmc : m ≤ cap := by omega
  have hLm := h.take m hmL
  have hbm : ∀ p ∈ L.take m, p.2.2.2.length ≤ 140737488355328 := fun p hp => hb p (List.mem_of_mem_take hp)
  have hlt9 : (L.take m).length = m := by simp; omega
  have hsh : shortL (absL L) = (absL (L.take m)).map cutE := by
    unfold shortL absL
    rw [← List.map_take, hm]
    congr 2
    by_cases h9 : L.length ≤ 9
    · rw [Nat.min_eq_left h9, List.take_length, List.take_of_length_le h9]
    · rw [Nat.min_eq_right (by omega)]
  have HSH := hide hsh
  have HLM := hide hLm
  have HBM := hide hbm
  have HL9 := hide hlt9
  clear h hao hcm hb hLm hbm hlt9 hsh hm
  go_enter Try.func7, Try.ntmps7
  have hB0 := (Blk.new w #[.int .i64 I.f, .slice ao L.length cap, .int .i64 I.ws, .int .i64 I.wt, .int .i64 I.mn, .int .i64 I.mg] 24).alloc (.cells #[.int .i64 0, .slice none 0 0, .int .i64 0, .int .i64 0, .int .i64 0, .int .i64 0] 24)
  have hR0 : Blk ((w.alloc (.cells #[.int .i64 I.f, .slice ao L.length cap, .int .i64 I.ws, .int .i64 I.wt, .int .i64 I.mn, .int .i64 I.mg] 24)).alloc (.cells #[.int .i64 0, .slice none 0 0, .int .i64 0, .int .i64 0, .int .i64 0, .int .i64 0] 24)) (w.heap.size + 1) #[.int .i64 0, .slice none 0 0, .int .i64 0, .int .i64 0, .int .i64 0, .int .i64 0] 24 := Blk.at (by simp)
  have hX0 := ((Ext.refl w).alloc (.cells #[.int .i64 I.f, .slice ao L.length cap, .int .i64 I.ws, .int .i64 I.wt, .int .i64 I.mn, .int .i64 I.mg] 24)).alloc (.cells #[.int .i64 0, .slice none 0 0, .int .i64 0, .int .i64 0, .int .i64 0, .int .i64 0] 24)
  have H0 := hide (And.intro hB0 (And.intro hR0 hX0))
  clear hB0 hR0 hX0
  go_upto_region 1 with fail
  generalize (w.alloc (.cells #[.int .i64 I.f, .slice ao L.length cap, .int .i64 I.ws, .int .i64 I.wt, .int .i64 I.mn, .int .i64 I.mg] 24)).alloc (.cells #[.int .i64 0, .slice none 0 0, .int .i64 0, .int .i64 0, .int .i64 0, .int .i64 0] 24) = w1 at H0 ⊢
  go_cut [10] (fun p wc => p = .int .i64 (m : Int) ∧ wc = w1.setCell ⟨w.heap.size, 1, none⟩ (.slice ao m cap))
  case first =>
    obtain ⟨q0, q1, q2, q3, q4, q5⟩ := (unhide H0).1.six
    have f1 := (unhide H0).1.free 1
    by_cases h9 : 9 < L.length
    · have h9' : (9 : Int) < (L.length : Int) := by omega
      have HM2 := unhide HM
      rw [if_pos h9'] at HM2
      obtain rfl : m = 9 := by omega
      clear HM2
      go_wp2
      go_meet
      exact ⟨rfl, rfl⟩
    · have h9' : ¬ (9 : Int) < (L.length : Int) := by omega
      have HM2 := unhide HM
      rw [if_neg h9'] at HM2
      obtain rfl : m = L.length := by omega
      clear HM2
      go_wp2
      go_meet
      exact ⟨rfl, rfl⟩
  case rest =>
    obtain ⟨rfl, rfl⟩ := hcut
    obtain ⟨hB0, hR0, hX0⟩ := unhide H0
    have hg1 := grownBy_set w1 w.heap.size 1 (.slice ao m cap)
    have hB1 : Blk (w1.setCell ⟨w.heap.size, 1, none⟩ (.slice ao m cap)) w.heap.size #[.int .i64 I.f, .slice ao m cap, .int .i64 I.ws, .int .i64 I.wt, .int .i64 I.mn, .int .i64 I.mg] 24 := by
      have := hB0.set 1 (.slice ao m cap)
      simpa using this
    have hR1 := hR0.other (r := w.heap.size) 1 (.slice ao m cap) (by omega)
    have hX1 : Ext w _ := below_grown hX0 hg1 hX0.size (Nat.le_refl _)
    clear H0 hB0 hR0 hX0 hg1
    generalize w1.setCell ⟨w.heap.size, 1, none⟩ (.slice ao m cap) = w2 at hB1 hR1 hX1 ⊢
    obtain ⟨q0, q1, q2, q3, q4, q5⟩ := hB1.six
    have HC : Hid (∀ wx, Ext w wx → Calls Try.prog 8 #[.agg #[.int .i64 I.f, .slice ao m cap, .int .i64 I.ws, .int .i64 I.wt, .int .i64 I.mn, .int .i64 I.mg]] wx fun e w' => ∃ ao cap D, e = .returned (.agg #[.int .i64 I.f, .slice ao D.length cap, .int .i64 I.ws, .int .i64 I.wt, .int .i64 I.mn, .int .i64 I.mg]) ∧ LO w' wx.heap.size (.slice ao D.length cap) D ∧ absL D = absL (L.take m) ∧ Ext wx w') := fun wx hx => by
      have h1 := (unhide HLM).ext hx
      exact refCopy_any (I := I) h1 (by rw [unhide HL9]; omega) (unhide HBM)
    have H1 := hide (And.intro hB1 (And.intro hR1 hX1))
    clear hB1 hR1 hX1
    go_wp2_with fail
    refine (unhide HC _ (unhide H1).2.2).mono ?_
    rintro e w3 ⟨ao3, cap3, D0, rfl, hlo3, hab3, hx3⟩
    have hB3 := (unhide H1).1.ext hx3
    have hR3 := (unhide H1).2.1.ext hx3
    have hX3 := (unhide H1).2.2.trans hx3
    have hs2 := (unhide H1).2.1.lt
    have hD9 : D0.length ≤ 9 := by
      have h5 := congrArg List.length hab3
      rw [absL_len, absL_len, unhide HL9] at h5
      omega
    clear q0 q1 q2 q3 q4 q5
    obtain ⟨q0, q1, q2, q3, q4, q5⟩ := hB3.six
    obtain ⟨f0, f1, f2, f3, f4, f5⟩ := hB3.frees
    have hB4 := hB3.put6 (.int .i64 I.f) (.slice ao3 D0.length cap3) (.int .i64 I.ws) (.int .i64 I.wt) (.int .i64 I.mn) (.int .i64 I.mg)
    have hg4 := grown_put6 w3 w.heap.size (.int .i64 I.f) (.slice ao3 D0.length cap3) (.int .i64 I.ws) (.int .i64 I.wt) (.int .i64 I.mn) (.int .i64 I.mg)
    have hL4 := (hlo3.grown hB3 ⟨by decide, by decide⟩ hg4).lower (b2 := w.heap.size + 2) (by omega)
    have hR4 : Blk _ (w.heap.size + 1) #[.int .i64 0, .slice none 0 0, .int .i64 0, .int .i64 0, .int .i64 0, .int .i64 0] 24 := hR3.grown hg4 (by omega)
    have hX4 : Ext w _ := below_grown hX3 hg4 hX3.size (Nat.le_refl _)
    have hcap : D0.length ≤ cap3 ∧ cap3 ≤ 9223372036854775807 := by
      obtain ⟨_, _, e9, _, h9, h10⟩ := hlo3.cut
      cases e9
      unfold maxLen at h10
      exact ⟨h9, by omega⟩
    obtain ⟨hcap1, hcap4⟩ := hcap
    have HAB : Hid (shortL (absL L) = (absL D0).map cutE) := by show _ = _; rw [unhide HSH, hab3]
    have HI0 : Hid (ShI w _ I D0 ao3 cap3 0 D0) := ⟨rfl, by simp [absL], hL4, hB4, hR4, hX4⟩
    clear hB4 hg4 hL4 hR4 hX4 hlo3 hB3 hR3 hX3 hx3 hab3 H1 HC HLM HBM HSH
    go_wp2_with fail
    go_loopw [18] (fun iv wr => ∃ (k : Nat) (D : List Ent), k ≤ D0.length ∧ iv = .int .i64 (k : Int) ∧ ShI w wr I D0 ao3 cap3 k D) (fun iv _ => D0.length - (intOf iv).toNat)
    case atStart => exact ⟨0, _, Nat.zero_le _, rfl, unhide HI0⟩
    case round =>
      clear HI0 q0 q1 q2 q3 q4 q5 f0 f1 f2 f3 f4 f5
      obtain ⟨k, D, hk, rfl, hI⟩ := hrel
      have HI := hide hI
      have q1 := hI.blk.six.2.1
      have HLEN := hide hI.len
      by_cases hlt : k < D0.length
      · have hkn : (k : Int) < (D0.length : Int) := by omega
        have hkD : k < D.length := by rw [hI.len]; exact hlt
        obtain ⟨b, off, bo, bcap, e1, eb, c0, c1, c2, hr⟩ := hI.lo.lr.at k hkD
        obtain ⟨g, cur, e2, _, hgb, hcur⟩ := hI.lo.blk (by omega)
        subst e2
        cases e1
        have z2 := World.ownsRow.frozenAt hI.lo.own (k * 3 + 2)
        simp only [Nat.zero_add] at c2
        have hbc : D[k].2.2.2.length ≤ bcap ∧ bcap ≤ 9223372036854775807 := by
          obtain ⟨_, _, e9, _, h9, h10⟩ := hr.shape
          cases e9
          unfold maxLen at h10
          exact ⟨h9, by omega⟩
        obtain ⟨hbc1, hbc2⟩ := hbc
        have HST := hide (fun m9 h9 => hI.step hkD eb m9 h9)
        generalize D[k].2.2.2.length = n at *
        by_cases h2 : 20000 < n
        · have h2' : (20000 : Int) < (n : Int) := by omega
          obtain ⟨D', hI'⟩ := unhide HST 20000 (by omega)
          have HI' := hide hI'.drew
          clear hI eb hr c0 c1 hI' HST
          go_upto_region 7 with fail
          go_region
          all_goals
            go_wp2
            go_roundw
            case rel => exact ⟨k + 1, D', by omega, by go_num, unhide HI'⟩
            case measure => simp [intOf]; omega
        · have h2' : ¬ (20000 : Int) < (n : Int) := by omega
          obtain ⟨D', hI'⟩ := unhide HST n (by omega)
          have HI' := hide hI'.drew
          clear hI eb hr c0 c1 hI' HST
          go_upto_region 7 with fail
          go_region
          all_goals
            go_wp2
            go_roundw
            case rel => exact ⟨k + 1, D', by omega, by go_num, unhide HI'⟩
            case measure => simp [intOf]; omega
      · obtain rfl : k = D0.length := by omega
        have hnl : ¬ (D0.length : Int) < (D0.length : Int) := by omega
        have hab := hI.abs
        rw [List.take_length, List.drop_length, ← unhide HAB] at hab
        have HAB2 : Hid (absL D = shortL (absL L)) := by show _ = _; rw [hab]; simp [absL]
        clear hab
        obtain ⟨q0, q1, q2, q3, q4, q5⟩ := hI.blk.six
        obtain ⟨p0, p1, p2, p3, p4, p5⟩ := hI.res.six
        obtain ⟨f0, f1, f2, f3, f4, f5⟩ := hI.res.frees
        have hB7 := hI.res.put6 (.int .i64 I.f) (.slice ao3 D0.length cap3) (.int .i64 I.ws) (.int .i64 I.wt) (.int .i64 I.mn) (.int .i64 I.mg)
        have hg7 := grown_put6 wr (w.heap.size + 1) (.int .i64 I.f) (.slice ao3 D0.length cap3) (.int .i64 I.ws) (.int .i64 I.wt) (.int .i64 I.mn) (.int .i64 I.mg)
        have hL7 := (hI.lo.grown hI.res ⟨by decide, by decide⟩ hg7).lower (b2 := w.heap.size) (by omega)
        have hX7 : Ext w _ := below_grown hI.ext hg7 hI.ext.size (by omega)
        have H7 := hide (And.intro hB7 (And.intro hL7 hX7))
        clear hB7 hg7 hL7 hX7 hI
        go_wp2
        obtain ⟨hB7, hL7, hX7⟩ := unhide H7
        obtain ⟨r0, r1, r2, r3, r4, r5⟩ := hB7.six
        refine bodyPost_ret (v := .agg #[.int .i64 I.f, .slice ao3 D0.length cap3, .int .i64 I.ws, .int .i64 I.wt, .int .i64 I.mn, .int .i64 I.mg]) (by simp [results, Try.results7, go_sem, r0, r1, r2, r3, r4, r5]) rfl ?_
        exact ⟨ao3, cap3, D, by rw [unhide HLEN], hL7, unhide HAB2, hX7⟩
end
end Go.Proofs.Ytpjapdifmfpcnaa
