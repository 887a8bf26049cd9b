/-
  Images: the walk of putRefusal; a level more, or another one, in a row of the call's own. What the dump lacks is left out.
-/
import Derived.Test.YtpjapdifmfpcnaaIV
namespace Go.Proofs.Ytpjapdifmfpcnaa
open Go.RowKit
set_option linter.unusedVariables false
set_option linter.unusedSimpArgs false

/-- What Put answers. -/
def putE (I : Img) (lv f W H : Int) (n : Nat) : Int :=
  if okB (sizI I.f) I = false then 180 else if lv < 0 ∨ 7 ≤ lv ∨ sizI f = 0 ∨ sideB W = false ∨ sideB H = false then 2
  else if n ≠ 0 ∧ (n : Int) ≠ W * H * sizI f then 7 else if lv ≠ 0 ∧ I.L.length ≠ 0 ∧ f ≠ I.f then 181 else 0

section
variable {w : World} {v : Value} {L : List Ent} {I : Img}
set_option maxRecDepth 10000 in
set_option maxHeartbeats 4000000 in
theorem putRefusal_any (h : LR w v L) (hL : L.length ≤ 1000) (hA : I.L = absL L) (lv f W H : Int) (bo : Option Addr) (bn bcap : Nat) (hbn : bn ≤ 9223372036854775807) :
    Calls Try.prog 45 #[.agg #[.int .i64 I.f, v, .int .i64 I.ws, .int .i64 I.wt, .int .i64 I.mn, .int .i64 I.mg], .int .i64 lv, .int .i64 f, .agg #[.int .i64 W, .int .i64 H, .slice bo bn bcap]] w fun e w' => e = .returned (.int .i64 (putE I lv f W H bn)) ∧ Ext w w' := by
  obtain ⟨ao, cap, rfl, hao, hlc, hcm, _⟩ := h.shape
  have hcm2 : cap ≤ 9223372036854775807 := by unfold maxLen at hcm; omega
  have hal : I.L.length = L.length := by rw [hA, absL_len]
  have HA := hide hA
  have HH := hide h
  have hX1 := ((Ext.refl w).alloc (.cells #[.int .i64 I.f, .slice ao L.length cap, .int .i64 I.ws, .int .i64 I.wt, .int .i64 I.mn, .int .i64 I.mg] 24)).alloc (.cells #[.int .i64 W, .int .i64 H, .slice bo bn bcap] 48)
  have hB1 := (Blk.new w #[.int .i64 I.f, .slice ao L.length cap, .int .i64 I.ws, .int .i64 I.wt, .int .i64 I.mn, .int .i64 I.mg] 24).alloc (.cells #[.int .i64 W, .int .i64 H, .slice bo bn bcap] 48)
  have hR1 : Blk ((w.alloc (.cells #[.int .i64 I.f, .slice ao L.length cap, .int .i64 I.ws, .int .i64 I.wt, .int .i64 I.mn, .int .i64 I.mg] 24)).alloc (.cells #[.int .i64 W, .int .i64 H, .slice bo bn bcap] 48)) (w.heap.size + 1) #[.int .i64 W, .int .i64 H, .slice bo bn bcap] 48 := Blk.at (by simp)
  have H1 := hide (And.intro hX1 (And.intro hB1 hR1))
  have HE : Hid (putE I lv f W H bn = if okB (sizI I.f) I = false then 180 else if lv < 0 ∨ 7 ≤ lv ∨ sizI f = 0 ∨ sideB W = false ∨ sideB H = false then 2
    else if bn ≠ 0 ∧ (bn : Int) ≠ W * H * sizI f then 7 else if lv ≠ 0 ∧ L.length ≠ 0 ∧ f ≠ I.f then 181 else 0) := by rw [← hal]; exact rfl
  clear h hA hal hao hcm hX1 hB1 hR1
  go_enter Try.func45, Try.ntmps45
  go_wp2_with fail
  refine (size_any f _).mono ?_
  rintro e w2 ⟨rfl, hx2⟩
  have H2 := hide (And.intro ((unhide H1).1.trans hx2) (And.intro ((unhide H1).2.1.ext hx2) ((unhide H1).2.2.ext hx2)))
  clear H1 hx2
  obtain ⟨q0, q1, q2, q3, q4, q5⟩ := (unhide H2).2.1.six
  obtain ⟨l0, l1, l2⟩ := (unhide H2).2.2.three
  have hs := siz_bd f
  obtain ⟨s1, s2⟩ := hs
  generalize sizI f = s at *
  go_wp2_with fail
  refine (check_any (I := I) ((unhide HH).ext (unhide H2).1) (by omega) (unhide HA)).mono ?_
  rintro e w3 ⟨rfl, hx3⟩
  have H3 := hide (And.intro ((unhide H2).1.trans hx3) (And.intro ((unhide H2).2.1.ext hx3) ((unhide H2).2.2.ext hx3)))
  clear H2 hx3 q0 q1 q2 q3 q4 q5 l0 l1 l2
  obtain ⟨q0, q1, q2, q3, q4, q5⟩ := (unhide H3).2.1.six
  obtain ⟨l0, l1, l2⟩ := (unhide H3).2.2.three
  cases hok : okB (sizI I.f) I with
  | false =>
    have c1 := chkE_no (I := I) (by rw [hok]; simp)
    have E := hide (show putE I lv f W H bn = 180 by rw [unhide HE, if_pos hok])
    rw [c1]
    clear c1 hok HE
    go_wp2
    go_ret
    rw [unhide E]
    exact ⟨rfl, (unhide H3).1⟩
  | true =>
    have c1 := chkE_yes (I := I) hok
    rw [hok, if_neg (by simp)] at HE
    rw [c1]
    clear c1 hok
    by_cases a1 : lv < 0
    · have E := hide (show putE I lv f W H bn = 2 by rw [unhide HE, if_pos (.inl a1)])
      go_wp2
      go_ret
      rw [unhide E]
      exact ⟨rfl, (unhide H3).1⟩
    by_cases a2 : 7 ≤ lv
    · have E := hide (show putE I lv f W H bn = 2 by rw [unhide HE, if_pos (.inr (.inl a2))])
      go_wp2
      go_ret
      rw [unhide E]
      exact ⟨rfl, (unhide H3).1⟩
    by_cases a3 : s = 0
    · have E := hide (show putE I lv f W H bn = 2 by rw [unhide HE, if_pos (.inr (.inr (.inl a3)))])
      have b3 : (s == 0) = true := by simp [a3]
      clear a3
      go_wp2
      go_ret
      rw [unhide E]
      exact ⟨rfl, (unhide H3).1⟩
    have b3 : (s == 0) = false := by simp [a3]
    have A3 := hide a3
    clear a3
    have TW := hide (isSide_any W)
    have TH := hide (isSide_any H)
    cases hw : sideB W with
    | false =>
      have E := hide (show putE I lv f W H bn = 2 by rw [unhide HE, if_pos (.inr (.inr (.inr (.inl hw))))])
      rw [hw] at TW
      clear hw HE
      go_wp2_with fail
      refine (unhide TW _).mono ?_
      rintro e w4 ⟨rfl, rfl⟩
      go_wp2
      go_ret
      rw [unhide E]
      exact ⟨rfl, (unhide H3).1⟩
    | true =>
      cases hh : sideB H with
      | false =>
        have E := hide (show putE I lv f W H bn = 2 by rw [unhide HE, if_pos (.inr (.inr (.inr (.inr hh))))])
        rw [hw] at TW
        rw [hh] at TH
        clear hw hh HE
        go_wp2_with fail
        refine (unhide TW _).mono ?_
        rintro e w4 ⟨rfl, rfl⟩
        go_wp2_with fail
        refine (unhide TH _).mono ?_
        rintro e w4 ⟨rfl, rfl⟩
        go_wp2
        go_ret
        rw [unhide E]
        exact ⟨rfl, (unhide H3).1⟩
      | true =>
        have bw := sideB_iff.1 hw
        have bh := sideB_iff.1 hh
        obtain ⟨m1, m2, m3, m4⟩ := mul_side bw bh ⟨s1, s2⟩
        have HE2 : Hid (putE I lv f W H bn = if bn ≠ 0 ∧ (bn : Int) ≠ W * H * s then 7 else if lv ≠ 0 ∧ L.length ≠ 0 ∧ f ≠ I.f then 181 else 0) := by
          show _ = _
          rw [unhide HE, if_neg]
          rintro (h | h | h | h | h)
          · exact a1 h
          · exact a2 h
          · exact unhide A3 h
          · rw [hw] at h; cases h
          · rw [hh] at h; cases h
        obtain ⟨bw1, bw2⟩ := bw
        obtain ⟨bh1, bh2⟩ := bh
        rw [hw] at TW
        rw [hh] at TH
        clear hw hh HE
        go_wp2_with fail
        refine (unhide TW _).mono ?_
        rintro e w4 ⟨rfl, rfl⟩
        go_wp2_with fail
        refine (unhide TH _).mono ?_
        rintro e w4 ⟨rfl, rfl⟩
        by_cases a4 : bn ≠ 0 ∧ (bn : Int) ≠ W * H * s
        · have E := hide (show putE I lv f W H bn = 7 by rw [unhide HE2, if_pos a4])
          have c1 : ((bn : Int) != 0) = true := by rw [bne_iff_ne]; omega
          have c2 : ((bn : Int) != W * H * s) = true := by rw [bne_iff_ne]; exact a4.2
          clear a4 HE2
          go_wp2
          go_ret
          rw [unhide E]
          exact ⟨rfl, (unhide H3).1⟩
        rw [if_neg a4] at HE2
        have A4 : Hid (((bn : Int) != 0) = false ∨ ((bn : Int) != 0) = true ∧ ((bn : Int) != W * H * s) = false) := by
          show _ ∨ _
          by_cases h0 : bn = 0
          · exact .inl (by simp [h0])
          · refine .inr ⟨by rw [bne_iff_ne]; omega, ?_⟩
            have : (bn : Int) = W * H * s := Classical.byContradiction fun h => a4 ⟨h0, h⟩
            simp [this]
        clear a4
        by_cases a5 : lv ≠ 0 ∧ L.length ≠ 0 ∧ f ≠ I.f
        · have E := hide (show putE I lv f W H bn = 181 by rw [unhide HE2, if_pos a5])
          have c1 : (lv != 0) = true := by rw [bne_iff_ne]; exact a5.1
          have c2 : (0 : Int) < (L.length : Int) := by omega
          have c3 : (f != I.f) = true := by rw [bne_iff_ne]; exact a5.2.2
          clear a5 HE2
          rcases unhide A4 with d | ⟨d, d2⟩
          · go_wp2
            go_ret
            rw [unhide E]
            exact ⟨rfl, (unhide H3).1⟩
          · go_wp2
            go_ret
            rw [unhide E]
            exact ⟨rfl, (unhide H3).1⟩
        · have E := hide (show putE I lv f W H bn = 0 by rw [unhide HE2, if_neg a5])
          have A5 : Hid ((lv != 0) = false ∨ ((lv != 0) = true ∧ ¬ (0 : Int) < (L.length : Int)) ∨ ((lv != 0) = true ∧ (0 : Int) < (L.length : Int) ∧ (f != I.f) = false)) := by
            show _ ∨ _ ∨ _
            by_cases h0 : lv = 0
            · exact .inl (by simp [h0])
            · by_cases h1 : L.length = 0
              · exact .inr (.inl ⟨by rw [bne_iff_ne]; exact h0, by omega⟩)
              · refine .inr (.inr ⟨by rw [bne_iff_ne]; exact h0, by omega, ?_⟩)
                have : f = I.f := Classical.byContradiction fun h => a5 ⟨h0, h1, h⟩
                simp [this]
          clear a5 HE2
          rcases unhide A4 with d | ⟨d, d2⟩
          · rcases unhide A5 with d3 | ⟨d3, d4⟩ | ⟨d3, d4, d5⟩
            all_goals
              go_wp2
              go_ret
              rw [unhide E]
              exact ⟨rfl, (unhide H3).1⟩
          · rcases unhide A5 with d3 | ⟨d3, d4⟩ | ⟨d3, d4, d5⟩
            all_goals
              go_wp2
              go_ret
              rw [unhide E]
              exact ⟨rfl, (unhide H3).1⟩
end

/-- A block of another type is no block of levels. -/
theorem blk_ne {w : World} {b g : Nat} {cs cur : Array Value} {t : TypeId} (h : Blk w b cs t) (ht : t ≠ 48) (hg : w.heap[g]? = some (.cells cur 48 (0, 0))) : b ≠ g := by
  intro e
  rw [← e, show w.heap[b]? = some (.cells cs t (0, 0)) from h] at hg
  simp at hg
  exact ht hg.2
section
variable {w w' : World} {base : Nat} {v v' : Value} {L : List Ent}
/-- What stands in a row's block, if there is one. -/
theorem LO.block (h : LO w base v L) {g : Nat} (hg : v.ownBlock = some g) : ∃ cur, w.heap[g]? = some (.cells cur 48 (0, 0)) := by
  rcases h.own.2 with ⟨e, _⟩ | ⟨g2, c, cur, e, _, hg2, _⟩
  · rw [e] at hg; cases hg
  · rw [e] at hg
    cases hg
    exact ⟨cur, hg2⟩
theorem Own.by {xs : List Int} {u : Value} (h : Own .u8 w base 5 u xs) (hL : LO w base v L) (hg : w.grownBy w' v.ownBlock) : Own .u8 w' base 5 u xs := by
  cases hv : v.ownBlock with
  | none =>
    rw [hv] at hg
    refine World.ownsRow.kept h hg ?_
    cases u.ownBlock <;> simp
  | some g =>
    rw [hv] at hg
    obtain ⟨cur, hc⟩ := hL.block hv
    exact h.grown hg (own_ne hc h)
theorem Blk.by {b : Nat} {cs : Array Value} {t : TypeId} (h : Blk w b cs t) (ht : t ≠ 48) (hL : LO w base v L) (hg : w.grownBy w' v.ownBlock) : Blk w' b cs t := by
  cases hv : v.ownBlock with
  | none =>
    rw [hv] at hg
    exact (hg.block b h.lt (by simp)).trans h
  | some g =>
    rw [hv] at hg
    obtain ⟨cur, hc⟩ := hL.block hv
    exact h.grown hg (blk_ne h ht hc)
/-- A block of a level that stands alone, not in the row. -/
theorem Blk.byL {b : Nat} {cs : Array Value} {t : TypeId} (h : Blk w b cs t) (hb : b < base) (hL : LO w base v L) (hg : w.grownBy w' v.ownBlock) : Blk w' b cs t := by
  refine (hg.block b h.lt fun e => ?_).trans h
  have := (World.ownsRow.lt hL.own b e.symm).1
  omega
theorem LO.app {y : Ent} (h : LO w base v L) (hown : w'.ownsRow base 48 3 v' (L ++ [y]).length (lcells (L ++ [y]))) (hg : w.grownBy w' v.ownBlock) (hy : Own .u8 w base 5 y.2.2.1 y.2.2.2)
    (hal : ∀ p ∈ L, ∀ b, p.2.2.1.ownBlock = some b → y.2.2.1.ownBlock ≠ some b) : LO w' base v' (L ++ [y]) := by
  refine ⟨hown, fun p hp => ?_, List.pairwise_append.2 ⟨h.alone, by simp, fun p hp q hq => ?_⟩⟩
  · rcases List.mem_append.1 hp with hp | hp
    · exact (h.bys p hp).by h hg
    · simp at hp
      subst hp
      exact hy.by h hg
  · simp at hq
    subst hq
    exact hal p hp
/-- One level is set. -/
theorem LO.setAt {g n cap : Nat} {A B : List Ent} {x : Ent} (h : LO w base (.slice (some ⟨g, 0, none⟩) n cap) (A ++ x :: B)) (y : Ent) (hy : Own .u8 w base 5 y.2.2.1 y.2.2.2)
    (hal : ∀ p ∈ A ++ B, ∀ b, p.2.2.1.ownBlock = some b → y.2.2.1.ownBlock ≠ some b) :
    LO (((w.setCell ⟨g, A.length * 3, none⟩ (.int .i64 y.1)).setCell ⟨g, A.length * 3 + 1, none⟩ (.int .i64 y.2.1)).setCell ⟨g, A.length * 3 + 2, none⟩ y.2.2.1) base (.slice (some ⟨g, 0, none⟩) n cap) (A ++ y :: B) := by
  have hn : n = (A ++ x :: B).length := by
    rcases h.own.2 with ⟨e, _⟩ | ⟨g2, c, cur, e, _⟩
    · cases e
    · cases e; rfl
  have hl2 : (A ++ y :: B).length = (A ++ x :: B).length := by simp
  obtain ⟨h1, g1⟩ := World.ownsRow.stored (hn ▸ h.own) (A.length * 3) (.int .i64 y.1)
  obtain ⟨h2, g2⟩ := World.ownsRow.stored h1 (A.length * 3 + 1) (.int .i64 y.2.1)
  obtain ⟨h3, g3⟩ := World.ownsRow.stored h2 (A.length * 3 + 2) y.2.2.1
  rw [lcells_set3] at h3
  have hg := (g1.trans g2).trans g3
  refine ⟨by rw [hl2, hn]; exact h3, fun p hp => ?_, ?_⟩
  · rcases List.mem_append.1 hp with hp | hp
    · exact (h.bys p (List.mem_append_left _ hp)).by h hg
    · rcases List.mem_cons.1 hp with rfl | hp
      · exact hy.by h hg
      · exact (h.bys p (List.mem_append_right _ (List.mem_cons_of_mem _ hp))).by h hg
  · have ha := List.pairwise_append.1 h.alone
    have hb := List.pairwise_cons.1 ha.2.1
    refine List.pairwise_append.2 ⟨ha.1, List.pairwise_cons.2 ⟨fun q hq b h1 h2 => ?_, hb.2⟩, fun p hp q hq b k1 => ?_⟩
    · exact hal q (List.mem_append_right _ hq) b h2 h1
    · rcases List.mem_cons.1 hq with rfl | hq
      · exact hal p (List.mem_append_left _ hp) b k1
      · exact ha.2.2 p hp q (List.mem_cons_of_mem _ hq) b k1
end
end Go.Proofs.Ytpjapdifmfpcnaa
