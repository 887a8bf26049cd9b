/-
  Images: the walks of chain and Generate.
-/
import Derived.Test.YtpjapdifmfpcnaaJN
import Derived.Test.YtpjapdifmfpcnaaJO
namespace Go.Proofs.Ytpjapdifmfpcnaa
open Go.RowKit
set_option linter.unusedVariables false
set_option linter.unusedSimpArgs false

/-- How far chain has come. -/
structure ChI (w wr : World) (base : Nat) (cs : Array Value) (ks : List Nat) (s : Nat) (l : Lev) (ao : Option Addr) (cap k : Nat) (D : List Ent) : Prop where
  len : D.length = k + 1
  abs : absL D = chn ks s l k
  own : wr.ownsRow (w.heap.size + 1) 48 3 (.slice ao D.length cap) D.length (lcells D)
  bys : ∀ p ∈ D, Own .u8 wr base 5 p.2.2.1 p.2.2.2
  alone : D.Pairwise fun p q => ∀ b, p.2.2.1.ownBlock = some b → q.2.2.1.ownBlock ≠ some b
  lev : Blk wr w.heap.size cs 48
  low : base ≤ w.heap.size
  ext : Ext w wr
theorem ChI.lo {w wr : World} {base : Nat} {cs : Array Value} {ks : List Nat} {s : Nat} {l : Lev} {ao : Option Addr} {cap k : Nat} {D : List Ent} (h : ChI w wr base cs ks s l ao cap k D) : LO wr base (.slice ao D.length cap) D :=
  ⟨row_lower h.own (by have := h.low; omega), h.bys, h.alone⟩

theorem chn_last {ks : List Nat} {s : Nat} {l : Lev} {D : List Ent} {k : Nat} (hl : D.length = k + 1) (h : absL D = chn ks s l k) : absE (D[k]'(by omega)) = itL ks s l k := by
  have h1 : (absL D)[k]'(by rw [absL_len]; omega) = absE (D[k]'(by omega)) := absL_get D k (by omega)
  rw [← h1]
  have h2 := chn_get ks s l k k (by omega)
  rw [← h2]
  congr 1

set_option maxRecDepth 10000 in
set_option maxHeartbeats 4000000 in
theorem chain_any {w : World} {base : Nat} (W H : Int) (s : Nat) (f : Int) (bs : List Int) (bo : Option Addr) (bcap : Nat) (ho : Own .u8 w base 5 (.slice bo bs.length bcap) bs) (hbase : base ≤ w.heap.size) (hb : Byt bs) (hg : goodB s (W, H, bs) = true) (hs : sizI f = (s : Int)) (hs0 : s ≠ 0) :
    Calls Try.prog 36 #[.agg #[.int .i64 W, .int .i64 H, .slice bo bs.length bcap], .int .i64 f] w fun e w' => ∃ ao cap D, e = .returned (.slice ao D.length cap) ∧ LO w' base (.slice ao D.length cap) D ∧ absL D = chn (chs8 f) s (W, H, bs) (lgs W H) ∧ Ext w w' := by
  obtain ⟨gW, gH, gl⟩ := goodB_iff.1 hg
  simp only at gW gH gl
  have HG := hide hg
  have HB := hide hb
  have HS := hide hs
  have HCN := hide (show cntI W H = (lgs W H : Int) + 1 by unfold cntI; rw [if_pos ⟨sideB_iff.2 gW, sideB_iff.2 gH⟩])
  have hl6 : lgs W H ≤ 6 := lg_le _
  have hX1 := ((Ext.refl w).alloc (.cells #[.int .i64 W, .int .i64 H, .slice bo bs.length bcap] 48)).alloc (.cells #[.int .i64 W, .int .i64 H, .slice bo bs.length bcap] 48)
  have hB1 := (Blk.new w #[.int .i64 W, .int .i64 H, .slice bo bs.length bcap] 48).alloc (.cells #[.int .i64 W, .int .i64 H, .slice bo bs.length bcap] 48)
  have hI0 : ChI w ((w.alloc (.cells #[.int .i64 W, .int .i64 H, .slice bo bs.length bcap] 48)).alloc (.cells #[.int .i64 W, .int .i64 H, .slice bo bs.length bcap] 48)) base #[.int .i64 W, .int .i64 H, .slice bo bs.length bcap] (chs8 f) s (W, H, bs) (some ⟨w.heap.size + 1, 0, none⟩) 1 0 [(W, H, .slice bo bs.length bcap, bs)] := by
    refine ⟨rfl, rfl, ?_, ?_, by simp, hB1, hbase, hX1⟩
    · have h9 := World.ownsRow_lit (e := 48) (size := 3) (base := w.heap.size + 1) (w.alloc (.cells #[.int .i64 W, .int .i64 H, .slice bo bs.length bcap] 48)) #[.int .i64 W, .int .i64 H, .slice bo bs.length bcap] 1 (by simp) (by unfold maxLen; omega) rfl
      rw [show (w.alloc (.cells #[.int .i64 W, .int .i64 H, .slice bo bs.length bcap] 48)).heap.size = w.heap.size + 1 by simp] at h9
      exact h9
    · intro p hp
      simp at hp
      subst hp
      exact ho.kept hX1
  have HI0 := hide hI0
  clear hI0 hX1 hB1 ho hb hg hs gl
  go_enter Try.func36, Try.ntmps36
  go_wp2_with fail
  generalize (w.alloc (.cells #[.int .i64 W, .int .i64 H, .slice bo bs.length bcap] 48)).alloc (.cells #[.int .i64 W, .int .i64 H, .slice bo bs.length bcap] 48) = w2 at HI0 ⊢
  go_loopw [5, 6] (fun sv iv wr => ∃ (k : Nat) (ao : Option Addr) (cap : Nat) (D : List Ent), k ≤ lgs W H ∧ iv = .int .i64 ((k : Int) + 1) ∧ sv = .slice ao (k + 1) cap ∧ ChI w wr base #[.int .i64 W, .int .i64 H, .slice bo bs.length bcap] (chs8 f) s (W, H, bs) ao cap k D) (fun _ iv _ => lgs W H + 1 - (intOf iv).toNat)
  case atStart => exact ⟨0, _, _, _, Nat.zero_le _, rfl, rfl, unhide HI0⟩
  case round =>
    clear HI0
    obtain ⟨k, ao, cap, D, hk, rfl, rfl, hI⟩ := hrel
    obtain ⟨l0, l1, l2⟩ := hI.lev.three
    have HI := hide hI
    have hlen := hI.len
    by_cases hlt : k < lgs W H
    · have hkD : k < D.length := by omega
      have hlast := chn_last hlen hI.abs
      have hgk := itL_good (ks := chs8 f) (unhide HG) k
      have hbk := itL_byt (ks := chs8 f) (s := s) (l := (W, H, bs)) (unhide HB) k
      obtain ⟨b, off, eo, ecap, e1, eb, c0, c1, c2, hr⟩ := hI.lo.lr.at k hkD
      obtain ⟨gL, cur, eL, _, _, hcur⟩ := hI.lo.blk (by omega)
      subst eL
      cases e1
      simp only [Nat.zero_add] at c0 c1 c2
      have hcap : D.length ≤ cap ∧ cap ≤ 9223372036854775807 := by
        obtain ⟨_, _, e9, _, h9, h10⟩ := hI.lo.cut
        cases e9
        unfold maxLen at h10
        exact ⟨h9, by omega⟩
      obtain ⟨hcap1, hcap2⟩ := hcap
      rw [← hlast] at hgk hbk
      obtain ⟨a1, a2, a3⟩ := goodB_iff.1 hgk
      have ea : (absE D[k]).1 = D[k].1 ∧ (absE D[k]).2.1 = D[k].2.1 ∧ (absE D[k]).2.2 = D[k].2.2.2 := ⟨rfl, rfl, rfl⟩
      rw [ea.1] at a1 a3
      rw [ea.2.1] at a2 a3
      rw [ea.2.2] at a3 hbk
      obtain ⟨x, hx⟩ := Int.eq_ofNat_of_zero_le (show 0 ≤ D[k].1 by omega)
      obtain ⟨y, hy⟩ := Int.eq_ofNat_of_zero_le (show 0 ≤ D[k].2.1 by omega)
      have hnx : nxt (chs8 f) s (itL (chs8 f) s (W, H, bs) k) = (((hN x : Nat) : Int), ((hN y : Nat) : Int), nb (chs8 f) s x y D[k].2.2.2 (hN x * hN y)) := by
        rw [← hlast]
        show (half D[k].1, half D[k].2.1, nb _ _ D[k].1.toNat D[k].2.1.toNat D[k].2.2.2 (hN D[k].1.toNat * hN D[k].2.1.toNat)) = _
        rw [hx, hy, ← hN_half, ← hN_half, Int.toNat_natCast, Int.toNat_natCast]
      rw [hx] at c0 a1 a3
      rw [hy] at c1 a2 a3
      have HN := hide (next_any x y s f D[k].2.2.2 eo ecap wr hr hbk (by omega) (by omega) (by omega) (by omega) (unhide HS) hs0 (by
        have : ((x * y * s : Nat) : Int) = (x : Int) * (y : Int) * (s : Int) := by simp
        omega))
      have HNX := hide hnx
      generalize D[k].2.2.2 = ys at *
      have hk2 : (k : Int) + 1 < (lgs W H : Int) + 1 := by omega
      have hkn : (k : Int) < ((k : Int) + 1) := by omega
      have hk6 : (k : Int) ≤ 6 := by omega
      have hcl : k + 1 ≤ cap := by omega
      clear hI hr eb hlast hgk hbk ea a1 a2 a3 hnx hcur
      go_wp2_with fail
      refine (count_any W H _).mono ?_
      rintro e w3 ⟨rfl, rfl⟩
      rw [unhide HCN]
      go_wp2_with fail
      refine (unhide HN).mono ?_
      rintro e w4 ⟨g, rfl, ho4, hx4⟩
      have hlen2 := (unhide HI).len
      have hx5 : Ext w3 (w4.alloc (.cells #[.int .i64 ((hN x : Nat) : Int), .int .i64 ((hN y : Nat) : Int), .slice (some ⟨g, 0, none⟩) (hN x * hN y * s) (hN x * hN y * s)] 48)) := hx4.alloc _
      have hlo5 := (unhide HI).lo.ext hx5
      have hlev5 := (unhide HI).lev.ext hx5
      have hown5 : (w4.alloc (.cells #[.int .i64 ((hN x : Nat) : Int), .int .i64 ((hN y : Nat) : Int), .slice (some ⟨g, 0, none⟩) (hN x * hN y * s) (hN x * hN y * s)] 48)).ownsRow (w.heap.size + 1) 48 3 (.slice (some ⟨b, 0, none⟩) (k + 1) cap) D.length (lcells D) := by
        have h9 := World.ownsRow.kept (unhide HI).own (ext_grown hx5 none) (.inr (by simp [Value.ownBlock]))
        rw [hlen2] at h9 ⊢
        exact h9
      have HO := hide hown5
      have hgb := (World.ownsRow.lt hown5 b rfl).1
      have H4 := hide (And.intro (ho4.kept ((Ext.refl w4).alloc (.cells #[.int .i64 ((hN x : Nat) : Int), .int .i64 ((hN y : Nat) : Int), .slice (some ⟨g, 0, none⟩) (hN x * hN y * s) (hN x * hN y * s)] 48))) (And.intro hlo5 (And.intro hlev5 hx5)))
      have hlow := (unhide HI).low
      have hsw := (unhide HI).ext.size
      have hsx := hx4.size
      have hlw := (unhide HI).lev.lt
      clear hown5 hlo5 hlev5 hx5 ho4 hx4 c0 c1 c2 l0 l1 l2 HN
      have hfit : w.heap.size + 1 ≤ (w4.alloc (.cells #[.int .i64 ((hN x : Nat) : Int), .int .i64 ((hN y : Nat) : Int), .slice (some ⟨g, 0, none⟩) (hN x * hN y * s) (hN x * hN y * s)] 48)).heap.size := by simp; omega
      have hD9 : D.length ≤ 3518437208780 := by omega
      go_wp2_with (at_builtin; refine wpList_append_lev rfl (.tmp 18) (.tmp 26) rfl (w.heap.size + 1) _ D (((hN x : Nat) : Int), ((hN y : Nat) : Int), .slice (some ⟨g, 0, none⟩) (hN x * hN y * s) (hN x * hN y * s), nb (chs8 f) s x y ys (hN x * hN y)) rfl (unhide HO) w4.heap.size 1 rfl 48 (Blk.new _ _ _) rfl hD9 hfit ?_)
      intro ao6 cap6 w6 hown6 hg6
      obtain ⟨ho5, hlo5, hlev5, hx5⟩ := unhide H4
      have hg6b : (w4.alloc (.cells #[.int .i64 ((hN x : Nat) : Int), .int .i64 ((hN y : Nat) : Int), .slice (some ⟨g, 0, none⟩) (hN x * hN y * s) (hN x * hN y * s)] 48)).grownBy w6 (Value.slice (some ⟨b, 0, none⟩) D.length cap).ownBlock := hg6
      have hI6 : ChI w w6 base #[.int .i64 W, .int .i64 H, .slice bo bs.length bcap] (chs8 f) s (W, H, bs) ao6 cap6 (k + 1) (D ++ [(((hN x : Nat) : Int), ((hN y : Nat) : Int), .slice (some ⟨g, 0, none⟩) (hN x * hN y * s) (hN x * hN y * s), nb (chs8 f) s x y ys (hN x * hN y))]) := by
        have hl6 : (D ++ [(((hN x : Nat) : Int), ((hN y : Nat) : Int), Value.slice (some ⟨g, 0, none⟩) (hN x * hN y * s) (hN x * hN y * s), nb (chs8 f) s x y ys (hN x * hN y))]).length = D.length + 1 := by simp
        have hnew : ∀ p ∈ D, ∀ b2, p.2.2.1.ownBlock = some b2 → (Value.slice (some ⟨g, 0, none⟩) (hN x * hN y * s) (hN x * hN y * s)).ownBlock ≠ some b2 := fun p hp b2 hb2 e => by
          have h1 := (((unhide HI).bys p hp).lt b2 hb2).2
          have h2 := (ho5.lt b2 e).1
          omega
        refine ⟨by rw [hl6]; omega, ?_, ?_, fun p hp => ?_, List.pairwise_append.2 ⟨hlo5.alone, by simp, fun p hp q hq => ?_⟩, ?_, hlow, ?_⟩
        · rw [absL_append, (unhide HI).abs, chn_succ, unhide HNX]
          rfl
        · rw [hl6, hlen2]
          exact hown6
        · rcases List.mem_append.1 hp with hp | hp
          · exact (hlo5.bys p hp).by hlo5 hg6b
          · simp at hp
            subst hp
            exact (ho5.lower (by omega)).by hlo5 hg6b
        · simp at hq
          subst hq
          exact hnew p hp
        · exact (hg6b.block _ hlev5.lt (fun e => by simp [Value.ownBlock] at e; omega)).trans hlev5
        · exact ((unhide HI).ext.trans hx5).grown hg6b ((unhide HI).ext.trans hx5).size (fun r e => by simp [Value.ownBlock] at e; omega)
      have HI6 := hide hI6
      clear hown6 hg6 hg6b hI6 ho5 hlo5 hlev5 hx5
      go_wp2
      go_roundw
      case rel => exact ⟨k + 1, ao6, cap6, _, by omega, by go_num, rfl, unhide HI6⟩
      case measure => simp [intOf]; omega
    · obtain rfl : k = lgs W H := by omega
      have hnl : ¬ (lgs W H : Int) + 1 < (lgs W H : Int) + 1 := by omega
      clear hI
      go_wp2_with fail
      refine (count_any W H _).mono ?_
      rintro e w3 ⟨rfl, rfl⟩
      rw [unhide HCN]
      go_wp2
      go_ret
      have hI := unhide HI
      refine ⟨ao, cap, D, by rw [hI.len]; rfl, hI.lo, hI.abs, hI.ext⟩

/-- What Generate answers. -/
def genE (I : Img) : Int := if okB (sizI I.f) I = false then 180 else if hasB I.L 0 = false then 4 else if (powB (I.L.getD 0 noLev).1 && powB (I.L.getD 0 noLev).2.1) = false then 2 else 0
def genL (I : Img) : List Lev := chn (chs8 I.f) (sizI I.f).toNat (I.L.getD 0 noLev) (lgs (I.L.getD 0 noLev).1 (I.L.getD 0 noLev).2.1)
theorem genE_zero {I : Img} (h : genE I = 0) : okB (sizI I.f) I = true ∧ hasB I.L 0 = true ∧ (powB (I.L.getD 0 noLev).1 && powB (I.L.getD 0 noLev).2.1) = true := by
  unfold genE at h
  cases h1 : okB (sizI I.f) I with
  | false => rw [if_pos h1] at h; simp at h
  | true =>
    rw [if_neg (by rw [h1]; simp)] at h
    cases h2 : hasB I.L 0 with
    | false => rw [if_pos h2] at h; simp at h
    | true =>
      rw [if_neg (by rw [h2]; simp)] at h
      cases h3 : (powB (I.L.getD 0 noLev).1 && powB (I.L.getD 0 noLev).2.1) with
      | false => rw [if_pos h3] at h; simp at h
      | true => exact ⟨rfl, rfl, rfl⟩
theorem has_zero {L : List Ent} (h : hasB (absL L) 0 = true) : ∃ h0 : 0 < L.length, (absL L).getD 0 noLev = absE L[0] ∧ 0 < L[0].1 := by
  obtain ⟨k, hk, e, h1, h2⟩ := has_get h
  obtain rfl : k = 0 := by omega
  exact ⟨hk, h1, h2⟩

section
variable {w : World} {v : Value} {L : List Ent} {I : Img}
set_option maxRecDepth 10000 in
set_option maxHeartbeats 4000000 in
theorem generate_bad (h : LR w v L) (hL : L.length ≤ 1000) (hA : I.L = absL L) (hE : genE I ≠ 0) :
    Calls Try.prog 16 #[.agg #[.int .i64 I.f, v, .int .i64 I.ws, .int .i64 I.wt, .int .i64 I.mn, .int .i64 I.mg]] w fun e w' => e = .returned (.tuple #[.agg #[.int .i64 0, .slice none 0 0, .int .i64 0, .int .i64 0, .int .i64 0, .int .i64 0], .int .i64 (genE I)]) ∧ Ext w w' := by
  obtain ⟨ao, cap, rfl, hao, hlc, hcm, _⟩ := h.shape
  have hcm2 : cap ≤ 9223372036854775807 := by unfold maxLen at hcm; omega
  have HA := hide hA
  have HH := hide h
  have hX1 := ((Ext.refl w).alloc (.cells #[.int .i64 I.f, .slice ao L.length cap, .int .i64 I.ws, .int .i64 I.wt, .int .i64 I.mn, .int .i64 I.mg] 24)).alloc (.cells #[.int .i64 0, .slice none 0 0, .int .i64 0, .int .i64 0, .int .i64 0, .int .i64 0] 24)
  have hB1 := (Blk.new w #[.int .i64 I.f, .slice ao L.length cap, .int .i64 I.ws, .int .i64 I.wt, .int .i64 I.mn, .int .i64 I.mg] 24).alloc (.cells #[.int .i64 0, .slice none 0 0, .int .i64 0, .int .i64 0, .int .i64 0, .int .i64 0] 24)
  have hR1 : Blk ((w.alloc (.cells #[.int .i64 I.f, .slice ao L.length cap, .int .i64 I.ws, .int .i64 I.wt, .int .i64 I.mn, .int .i64 I.mg] 24)).alloc (.cells #[.int .i64 0, .slice none 0 0, .int .i64 0, .int .i64 0, .int .i64 0, .int .i64 0] 24)) (w.heap.size + 1) #[.int .i64 0, .slice none 0 0, .int .i64 0, .int .i64 0, .int .i64 0, .int .i64 0] 24 := Blk.at (by simp)
  have H1 := hide (And.intro hX1 (And.intro hB1 hR1))
  have HE : Hid (genE I = if okB (sizI I.f) I = false then 180 else if hasB (absL L) 0 = false then 4 else if (powB ((absL L).getD 0 noLev).1 && powB ((absL L).getD 0 noLev).2.1) = false then 2 else 0) := by rw [← hA]; exact rfl
  have HNE := hide hE
  clear h hA hao hcm hX1 hB1 hR1 hE
  go_enter Try.func16, Try.ntmps16
  go_wp2_with fail
  refine (check_any (I := I) ((unhide HH).ext (unhide H1).1) (by omega) (unhide HA)).mono ?_
  rintro e w3 ⟨rfl, hx3⟩
  have H3 := hide (And.intro ((unhide H1).1.trans hx3) (And.intro ((unhide H1).2.1.ext hx3) ((unhide H1).2.2.ext hx3)))
  clear H1 hx3
  obtain ⟨q0, q1, q2, q3, q4, q5⟩ := (unhide H3).2.1.six
  cases hok : okB (sizI I.f) I with
  | false =>
    have c1 := chkE_no (I := I) (by rw [hok]; simp)
    have E := hide (show genE I = 180 by rw [unhide HE, if_pos hok])
    rw [c1]
    clear c1 hok HE HNE
    have hR9 := (unhide H3).2.2
    obtain ⟨p0, p1, p2, p3, p4, p5⟩ := hR9.six
    obtain ⟨f0, f1, f2, f3, f4, f5⟩ := hR9.frees
    have hB7 := hR9.put6 (.int .i64 0) (.slice none 0 0) (.int .i64 0) (.int .i64 0) (.int .i64 0) (.int .i64 0)
    have hg7 := grown_put6 w3 (w.heap.size + 1) (.int .i64 0) (.slice none 0 0) (.int .i64 0) (.int .i64 0) (.int .i64 0) (.int .i64 0)
    have hX7 : Ext w _ := below_grown (unhide H3).1 hg7 (unhide H3).1.size (by omega)
    have H7 := hide (And.intro hB7 hX7)
    clear hR9 hB7 hg7 hX7
    go_wp2
    obtain ⟨r0, r1, r2, r3, r4, r5⟩ := (unhide H7).1.six
    refine bodyPost_ret (v := .tuple #[.agg #[.int .i64 0, .slice none 0 0, .int .i64 0, .int .i64 0, .int .i64 0, .int .i64 0], .int .i64 180]) (by simp [results, Try.results16, go_sem, r0, r1, r2, r3, r4, r5]) rfl ?_
    rw [unhide E]
    exact ⟨rfl, (unhide H7).2⟩
  | true =>
    have c1 := chkE_yes (I := I) hok
    rw [hok, if_neg (by simp)] at HE
    rw [c1]
    have HOK := hide hok
    clear c1 hok
    go_wp2_with fail
    refine (has_any (I := I) ((unhide HH).ext (unhide H3).1) 0).mono ?_
    rintro e w4 ⟨rfl, hx4⟩
    have H4 := hide (And.intro ((unhide H3).1.trans hx4) (And.intro ((unhide H3).2.1.ext hx4) ((unhide H3).2.2.ext hx4)))
    clear H3 hx4 q0 q1 q2 q3 q4 q5
    cases hh : hasB (absL L) 0 with
    | false =>
      have E := hide (show genE I = 4 by rw [unhide HE, if_pos hh])
      clear hh HE HNE
      have hR9 := (unhide H4).2.2
      obtain ⟨p0, p1, p2, p3, p4, p5⟩ := hR9.six
      obtain ⟨f0, f1, f2, f3, f4, f5⟩ := hR9.frees
      have hB7 := hR9.put6 (.int .i64 0) (.slice none 0 0) (.int .i64 0) (.int .i64 0) (.int .i64 0) (.int .i64 0)
      have hg7 := grown_put6 w4 (w.heap.size + 1) (.int .i64 0) (.slice none 0 0) (.int .i64 0) (.int .i64 0) (.int .i64 0) (.int .i64 0)
      have hX7 : Ext w _ := below_grown (unhide H4).1 hg7 (unhide H4).1.size (by omega)
      have H7 := hide (And.intro hB7 hX7)
      clear hR9 hB7 hg7 hX7
      go_wp2
      obtain ⟨r0, r1, r2, r3, r4, r5⟩ := (unhide H7).1.six
      refine bodyPost_ret (v := .tuple #[.agg #[.int .i64 0, .slice none 0 0, .int .i64 0, .int .i64 0, .int .i64 0, .int .i64 0], .int .i64 4]) (by simp [results, Try.results16, go_sem, r0, r1, r2, r3, r4, r5]) rfl ?_
      rw [unhide E]
      exact ⟨rfl, (unhide H7).2⟩
    | true =>
      obtain ⟨q0, q1, q2, q3, q4, q5⟩ := (unhide H4).2.1.six
      obtain ⟨h00, hget, hw0⟩ := has_zero hh
      obtain ⟨g1, g2, _, _⟩ := lev_good (unhide HOK) (unhide HA) h00 hw0
      rw [hh, if_neg (by simp), hget] at HE
      have ee : (absE L[0]).1 = L[0].1 ∧ (absE L[0]).2.1 = L[0].2.1 := ⟨rfl, rfl⟩
      rw [ee.1, ee.2] at HE
      obtain ⟨b, off, bo, bcap, rfl, eb, c0, c1, c2, hr⟩ := ((unhide HH).ext (unhide H4).1).at 0 h00
      rw [Nat.zero_mul, Nat.add_zero] at c0 c1 c2
      have hLz : (0 : Int) < (L.length : Int) := by omega
      have HP := hide (fun wx => hasPowers_any L[0].1 L[0].2.1 (.slice bo L[0].2.2.2.length bcap) bo L[0].2.2.2.length bcap rfl g1 g2 wx)
      generalize L[0].1 = W at *
      generalize L[0].2.1 = H at *
      generalize L[0].2.2.2.length = bn at *
      cases hpp : (powB W && powB H) with
      | true =>
        exfalso
        rw [hpp, if_neg (by simp)] at HE
        exact unhide HNE (unhide HE)
      | false =>
        rw [hpp] at HP
        have E := hide (show genE I = 2 by rw [unhide HE, if_pos hpp])
        clear hh hget ee hr eb hw0 g1 g2 hpp HE HNE
        go_wp2_with fail
        refine (unhide HP _).mono ?_
        rintro e w5 ⟨rfl, hx5⟩
        have H5 := hide (And.intro ((unhide H4).1.trans hx5) (And.intro ((unhide H4).2.1.ext hx5) ((unhide H4).2.2.ext hx5)))
        clear H4 hx5 q0 q1 q2 q3 q4 q5 c0 c1 c2
        have hR9 := (unhide H5).2.2
        obtain ⟨p0, p1, p2, p3, p4, p5⟩ := hR9.six
        obtain ⟨f0, f1, f2, f3, f4, f5⟩ := hR9.frees
        have hB7 := hR9.put6 (.int .i64 0) (.slice none 0 0) (.int .i64 0) (.int .i64 0) (.int .i64 0) (.int .i64 0)
        have hg7 := grown_put6 w5 (w.heap.size + 1) (.int .i64 0) (.slice none 0 0) (.int .i64 0) (.int .i64 0) (.int .i64 0) (.int .i64 0)
        have hX7 : Ext w _ := below_grown (unhide H5).1 hg7 (unhide H5).1.size (by omega)
        have H7 := hide (And.intro hB7 hX7)
        clear hR9 hB7 hg7 hX7
        go_wp2
        obtain ⟨r0, r1, r2, r3, r4, r5⟩ := (unhide H7).1.six
        refine bodyPost_ret (v := .tuple #[.agg #[.int .i64 0, .slice none 0 0, .int .i64 0, .int .i64 0, .int .i64 0, .int .i64 0], .int .i64 2]) (by simp [results, Try.results16, go_sem, r0, r1, r2, r3, r4, r5]) rfl ?_
        rw [unhide E]
        exact ⟨rfl, (unhide H7).2⟩

set_option maxRecDepth 10000 in
set_option maxHeartbeats 4000000 in
theorem generate_good (h : LR w v L) (hL : L.length ≤ 1000) (hA : I.L = absL L) (hbL : ∀ p ∈ L, p.2.2.2.length ≤ 140737488355328) (hby : ∀ p ∈ L, Byt p.2.2.2) (hE : genE I = 0) :
    Calls Try.prog 16 #[.agg #[.int .i64 I.f, v, .int .i64 I.ws, .int .i64 I.wt, .int .i64 I.mn, .int .i64 I.mg]] w fun e w' => ∃ ao cap L', e = .returned (.tuple #[.agg #[.int .i64 I.f, .slice ao L'.length cap, .int .i64 I.ws, .int .i64 I.wt, .int .i64 I.mn, .int .i64 I.mg], .int .i64 0]) ∧ LO w' w.heap.size (.slice ao L'.length cap) L' ∧ absL L' = genL I ∧ Ext w w' := by
  obtain ⟨ao, cap, rfl, hao, hlc, hcm, _⟩ := h.shape
  have hcm2 : cap ≤ 9223372036854775807 := by unfold maxLen at hcm; omega
  have HA := hide hA
  have HH := hide h
  have hX1 := ((Ext.refl w).alloc (.cells #[.int .i64 I.f, .slice ao L.length cap, .int .i64 I.ws, .int .i64 I.wt, .int .i64 I.mn, .int .i64 I.mg] 24)).alloc (.cells #[.int .i64 0, .slice none 0 0, .int .i64 0, .int .i64 0, .int .i64 0, .int .i64 0] 24)
  have hB1 := (Blk.new w #[.int .i64 I.f, .slice ao L.length cap, .int .i64 I.ws, .int .i64 I.wt, .int .i64 I.mn, .int .i64 I.mg] 24).alloc (.cells #[.int .i64 0, .slice none 0 0, .int .i64 0, .int .i64 0, .int .i64 0, .int .i64 0] 24)
  have hR1 : Blk ((w.alloc (.cells #[.int .i64 I.f, .slice ao L.length cap, .int .i64 I.ws, .int .i64 I.wt, .int .i64 I.mn, .int .i64 I.mg] 24)).alloc (.cells #[.int .i64 0, .slice none 0 0, .int .i64 0, .int .i64 0, .int .i64 0, .int .i64 0] 24)) (w.heap.size + 1) #[.int .i64 0, .slice none 0 0, .int .i64 0, .int .i64 0, .int .i64 0, .int .i64 0] 24 := Blk.at (by simp)
  have H1 := hide (And.intro hX1 (And.intro hB1 hR1))
  have HEX : Hid (genE I = if okB (sizI I.f) I = false then 180 else if hasB (absL L) 0 = false then 4 else if (powB ((absL L).getD 0 noLev).1 && powB ((absL L).getD 0 noLev).2.1) = false then 2 else 0) := by rw [← hA]; exact rfl
  obtain ⟨hok, hh, hpp⟩ := genE_zero hE
  rw [hA] at hh hpp
  obtain ⟨h00, hget, hw0⟩ := has_zero hh
  obtain ⟨g1, g2, g3, g4⟩ := lev_good hok hA h00 hw0
  rw [hget] at hpp
  have ee : (absE L[0]).1 = L[0].1 ∧ (absE L[0]).2.1 = L[0].2.1 ∧ (absE L[0]).2.2 = L[0].2.2.2 := ⟨rfl, rfl, rfl⟩
  rw [ee.1, ee.2.1] at hpp
  have hsb := siz_bd I.f
  obtain ⟨s, hs⟩ := Int.eq_ofNat_of_zero_le hsb.1
  have hs0 : s ≠ 0 := by omega
  have HGL : Hid (genL I = chn (chs8 I.f) s (absE L[0]) (lgs L[0].1 L[0].2.1)) := by
    show _ = _
    unfold genL
    rw [hA, hget, hs, Int.toNat_natCast]
    rfl
  have HBL := hide hbL
  have HBY := hide hby
  have HS := hide hs
  have HGET := hide hget
  have c1 := chkE_yes (I := I) hok
  have HC1 := hide c1
  have HHH := hide hh
  have hgood : goodB s (absE L[0]) = true := goodB_iff.2 ⟨g1, g2, by rw [ee.1, ee.2.1, ee.2.2, ← hs]; exact g3⟩
  have HGD := hide hgood
  clear h hA hao hcm hX1 hB1 hR1 hbL hby hE hok hh hget ee hs c1 hgood g3 g4 hsb HEX
  go_enter Try.func16, Try.ntmps16
  go_wp2_with fail
  refine (check_any (I := I) ((unhide HH).ext (unhide H1).1) (by omega) (unhide HA)).mono ?_
  rintro e w3 ⟨rfl, hx3⟩
  rw [unhide HC1]
  have H3 := hide (And.intro ((unhide H1).1.trans hx3) (And.intro ((unhide H1).2.1.ext hx3) ((unhide H1).2.2.ext hx3)))
  clear H1 hx3
  obtain ⟨q0, q1, q2, q3, q4, q5⟩ := (unhide H3).2.1.six
  go_wp2_with fail
  refine (has_any (I := I) ((unhide HH).ext (unhide H3).1) 0).mono ?_
  rintro e w4 ⟨rfl, hx4⟩
  rw [unhide HHH]
  have H4 := hide (And.intro ((unhide H3).1.trans hx4) (And.intro ((unhide H3).2.1.ext hx4) ((unhide H3).2.2.ext hx4)))
  clear H3 hx4 q0 q1 q2 q3 q4 q5
  obtain ⟨q0, q1, q2, q3, q4, q5⟩ := (unhide H4).2.1.six
  obtain ⟨b, off, bo, bcap, e0, eb, c0, c1, c2, hr⟩ := ((unhide HH).ext (unhide H4).1).at 0 h00
  subst e0
  rw [Nat.zero_mul, Nat.add_zero] at c0 c1 c2
  have hLz : (0 : Int) < (L.length : Int) := by omega
  have HP := hide (fun wx => hasPowers_any L[0].1 L[0].2.1 (.slice bo L[0].2.2.2.length bcap) bo L[0].2.2.2.length bcap rfl g1 g2 wx)
  rw [hpp] at HP
  clear hr eb hpp
  go_wp2_with fail
  refine (unhide HP _).mono ?_
  rintro e w5 ⟨rfl, hx5⟩
  have H5 := hide (And.intro ((unhide H4).1.trans hx5) (And.intro ((unhide H4).2.1.ext hx5) ((unhide H4).2.2.ext hx5)))
  clear H4 hx5 q0 q1 q2 q3 q4 q5 c0 c1 c2
  obtain ⟨q0, q1, q2, q3, q4, q5⟩ := (unhide H5).2.1.six
  go_wp2_with fail
  refine (duplicate_any (I := I) ((unhide HH).ext (unhide H5).1) (by omega) (unhide HBL)).mono ?_
  rintro e w6 ⟨ao6, cap6, D0, rfl, hlo6, habs6, hx6⟩
  have hDl : D0.length = L.length := by
    have := congrArg List.length habs6
    rwa [absL_len, absL_len] at this
  have hD0 : 0 < D0.length := by omega
  have heq0 : absE D0[0] = absE L[0] := by
    have h1 := absL_getD D0 0 hD0
    rw [habs6, unhide HGET] at h1
    exact h1.symm
  have hd1 : D0[0].1 = L[0].1 := congrArg (fun p => p.1) heq0
  have hd2 : D0[0].2.1 = L[0].2.1 := congrArg (fun p => p.2.1) heq0
  have hd3 : D0[0].2.2.2 = L[0].2.2.2 := congrArg (fun p => p.2.2) heq0
  have HDL := hide hDl
  clear hDl
  have hsz5 := (unhide H5).2.2.lt
  have hx7 : Ext w6 (w6.alloc (.cells #[.int .i64 I.f, .slice ao6 D0.length cap6, .int .i64 I.ws, .int .i64 I.wt, .int .i64 I.mn, .int .i64 I.mg] 24)) := (Ext.refl w6).alloc _
  have hY7 := Blk.new w6 #[.int .i64 I.f, .slice ao6 D0.length cap6, .int .i64 I.ws, .int .i64 I.wt, .int .i64 I.mn, .int .i64 I.mg] 24
  have hR7 := ((unhide H5).2.2.ext hx6).ext hx7
  have hX7 := ((unhide H5).1.trans hx6).trans hx7
  have hlo7 := hlo6.ext hx7
  have hYs : w6.heap.size < (w6.alloc (.cells #[.int .i64 I.f, .slice ao6 D0.length cap6, .int .i64 I.ws, .int .i64 I.wt, .int .i64 I.mn, .int .i64 I.mg] 24)).heap.size := hY7.lt
  have hs56 := hx6.size
  have H7 := hide (And.intro hlo7 (And.intro hY7 (And.intro hR7 hX7)))
  clear hlo7 hY7 hR7 hX7 hlo6 hx6 q0 q1 q2 q3 q4 q5
  have HDD := hide (And.intro hd1 (And.intro hd2 (And.intro hd3 heq0)))
  clear hd1 hd2 hd3 heq0
  go_upto_region 9 with fail
  generalize w6.alloc (.cells #[.int .i64 I.f, .slice ao6 D0.length cap6, .int .i64 I.ws, .int .i64 I.wt, .int .i64 I.mn, .int .i64 I.mg] 24) = w7 at H7 hYs hx7 ⊢
  obtain ⟨hlo7, hY7, hR7, hX7⟩ := unhide H7
  obtain ⟨b2, off2, bo2, bcap2, e2, eb2, c0, c1, c2, hr2⟩ := hlo7.lr.at 0 hD0
  obtain ⟨gL, cur, eL, _, hbL2, hcur⟩ := hlo7.blk hD0
  subst eL
  cases e2
  simp only [Nat.zero_mul, Nat.zero_add] at c0 c1 c2
  obtain ⟨q0, q1, q2, q3, q4, q5⟩ := hY7.six
  have f1 := hY7.free 1
  have hcapd : D0.length ≤ cap6 ∧ cap6 ≤ 9223372036854775807 := by
    obtain ⟨_, _, e9, _, h9, h10⟩ := hlo7.cut
    cases e9
    unfold maxLen at h10
    exact ⟨h9, by omega⟩
  obtain ⟨hcap1, hcap3⟩ := hcapd
  have hDz : (0 : Int) < (D0.length : Int) := by omega
  have ho2 := hlo7.bys _ (List.getElem_mem hD0)
  rw [eb2] at ho2
  obtain ⟨hd1, hd2, hd3, heq0⟩ := unhide HDD
  have hch : Calls Try.prog 36 #[.agg #[.int .i64 D0[0].1, .int .i64 D0[0].2.1, .slice bo2 D0[0].2.2.2.length bcap2], .int .i64 I.f] w7.drew fun e w' => ∃ ao9 cap9 D, e = .returned (.slice ao9 D.length cap9) ∧ LO w' w5.heap.size (.slice ao9 D.length cap9) D ∧ absL D = genL I ∧ Ext w7 w' ∧ w'.cell? ⟨w6.heap.size, 1, none⟩ = some (.slice (some ⟨b2, 0, none⟩) D0.length cap6) ∧ w'.frozen? ⟨w6.heap.size, 1, none⟩ = false := by
    have hbase : w5.heap.size ≤ w7.drew.heap.size := by
      show w5.heap.size ≤ w7.heap.size
      omega
    have hby0 : Byt D0[0].2.2.2 := by
      rw [hd3]
      exact unhide HBY _ (List.getElem_mem h00)
    have hgd : goodB s (D0[0].1, D0[0].2.1, D0[0].2.2.2) = true := by
      have h9 := unhide HGD
      rw [← heq0] at h9
      exact h9
    refine (chain_any D0[0].1 D0[0].2.1 s I.f D0[0].2.2.2 bo2 bcap2 (ho2.kept (ext_0 w7)) hbase hby0 hgd (unhide HS) hs0).mono ?_
    rintro e w9 ⟨ao9, cap9, D, rfl, hlo9, hab9, hx9⟩
    have hx9' : Ext w7 w9 := (ext_0 w7).trans hx9
    refine ⟨ao9, cap9, D, rfl, hlo9, ?_, hx9', (hY7.ext hx9').six.2.1, (hY7.ext hx9').free 1⟩
    rw [hab9, unhide HGL, ← hd1, ← hd2, ← heq0]
    rfl
  have HC := hide hch
  have H7' := hide (And.intro hY7 (And.intro hR7 hX7))
  generalize D0[0].1 = dW at *
  generalize D0[0].2.1 = dH at *
  generalize D0[0].2.2.2.length = dn at *
  clear hch hlo7 hY7 hR7 hX7 H7 hr2 eb2 ho2 hcur hbL2 HDD hd1 hd2 hd3 heq0 g1 g2 HP
  go_region_law ((first | (go_simp; go_at_call 36; refine (unhide HC).mono ?_; rintro e w9 ⟨ao9, cap9, D, rfl, hlo9, hab9, hx9, u1, u2⟩)))
  all_goals
    have hg10 := grownBy_set w9 w6.heap.size 1 (.slice ao9 D.length cap9)
    have hY9 := (unhide H7').1.ext hx9
    have hR9 := ((unhide H7').2.1.ext hx9).other (r := w6.heap.size) 1 (.slice ao9 D.length cap9) (by omega)
    have hX9 : Ext w (w9.setCell ⟨w6.heap.size, 1, none⟩ (.slice ao9 D.length cap9)) := below_grown ((unhide H7').2.2.trans hx9) hg10 ((unhide H7').2.2.trans hx9).size (by omega)
    have hlo10 := hlo9.grown hY9 ⟨by decide, by decide⟩ hg10
    have hY10 : Blk (w9.setCell ⟨w6.heap.size, 1, none⟩ (.slice ao9 D.length cap9)) w6.heap.size #[.int .i64 I.f, .slice ao9 D.length cap9, .int .i64 I.ws, .int .i64 I.wt, .int .i64 I.mn, .int .i64 I.mg] 24 := by
      have := hY9.set 1 (.slice ao9 D.length cap9)
      simpa using this
    have H10 := hide (And.intro hlo10 (And.intro hY10 (And.intro hR9 (And.intro hX9 hab9))))
    clear hlo9 hab9 hx9 u1 u2 hg10 hY9 hR9 hX9 hlo10 hY10 q0 q1 q2 q3 q4 q5 f1 c0 c1 c2 HC
    go_upto_region 10 with fail
    generalize w9.setCell ⟨w6.heap.size, 1, none⟩ (.slice ao9 D.length cap9) = w10 at H10 ⊢
    obtain ⟨hlo10, hY10, hR10, hX10, hab10⟩ := unhide H10
    obtain ⟨q0, q1, q2, q3, q4, q5⟩ := hY10.six
    obtain ⟨p0, p1, p2, p3, p4, p5⟩ := hR10.six
    obtain ⟨f0, f1, f2, f3, f4, f5⟩ := hR10.frees
    have hB11 := hR10.put6 (.int .i64 I.f) (.slice ao9 D.length cap9) (.int .i64 I.ws) (.int .i64 I.wt) (.int .i64 I.mn) (.int .i64 I.mg)
    have hg11 := grown_put6 w10 (w.heap.size + 1) (.int .i64 I.f) (.slice ao9 D.length cap9) (.int .i64 I.ws) (.int .i64 I.wt) (.int .i64 I.mn) (.int .i64 I.mg)
    have hL11 := (hlo10.grown hR10 ⟨by decide, by decide⟩ hg11).lower (b2 := w.heap.size) (by omega)
    have hX11 : Ext w _ := below_grown hX10 hg11 hX10.size (by omega)
    have H11 := hide (And.intro hB11 (And.intro hL11 (And.intro hX11 hab10)))
    clear hlo10 hY10 hR10 hX10 hab10 H10 hB11 hg11 hL11 hX11
    go_wp2
    obtain ⟨hB11, hL11, hX11, hab11⟩ := unhide H11
    obtain ⟨r0, r1, r2, r3, r4, r5⟩ := hB11.six
    refine bodyPost_ret (v := .tuple #[.agg #[.int .i64 I.f, .slice ao9 D.length cap9, .int .i64 I.ws, .int .i64 I.wt, .int .i64 I.mn, .int .i64 I.mg], .int .i64 0]) (by simp [results, Try.results16, go_sem, r0, r1, r2, r3, r4, r5]) rfl ?_
    exact ⟨ao9, cap9, D, rfl, hL11, hab11, hX11⟩
end
end Go.Proofs.Ytpjapdifmfpcnaa
