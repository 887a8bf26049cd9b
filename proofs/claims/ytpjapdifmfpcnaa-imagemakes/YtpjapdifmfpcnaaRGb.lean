/-
  Images: the document's Generate: all levels.
-/
import Derived.Test.YtpjapdifmfpcnaaRGa
import Derived.Test.YtpjapdifmfpcnaaJG
namespace Go.Proofs.Ytpjapdifmfpcnaa
open Go.RowKit
set_option linter.unusedVariables false
set_option linter.unusedSimpArgs false

/-- How far the document's Generate has come. -/
structure GnI (w wr : World) (base : Nat) (I : Img) (ks : List Nat) (s : Nat) (l : Lev) (ao : Option Addr) (cap k : Nat) (D : List Ent) (x : Ent) (Bl : Nat) : Prop where
  len : D.length = k + 1
  abs : absL D = chn ks s l k
  lo : LO wr base (.slice ao D.length cap) D
  img : Blk wr w.heap.size #[.int .i64 I.f, .slice ao D.length cap, .int .i64 I.ws, .int .i64 I.wt, .int .i64 I.mn, .int .i64 I.mg] 24
  res : Blk wr (w.heap.size + 1) #[.int .i64 0, .slice none 0 0, .int .i64 0, .int .i64 0, .int .i64 0, .int .i64 0] 24
  last : D[k]? = some x
  lev : Blk wr Bl #[.int .i64 x.1, .int .i64 x.2.1, x.2.2.1] 48
  ext : Ext w wr
  blw : w.heap.size + 1 < Bl
  bas : w.heap.size + 1 < base
  apart : ∀ r, (Value.slice ao D.length cap).ownBlock = some r → r ≠ Bl
theorem GnI.exts {w wr w' : World} {base : Nat} {I : Img} {ks : List Nat} {s : Nat} {l : Lev} {ao : Option Addr} {cap k : Nat} {D : List Ent} {x : Ent} {Bl : Nat} (h : GnI w wr base I ks s l ao cap k D x Bl) (hx : Ext wr w') : GnI w w' base I ks s l ao cap k D x Bl :=
  ⟨h.len, h.abs, h.lo.ext hx, h.img.ext hx, h.res.ext hx, h.last, h.lev.ext hx, h.ext.trans hx, h.blw, h.bas, h.apart⟩
/-- The next level under way. -/
structure NtI (w5 wq : World) (Bn : Nat) (a b : Int) (no : Option Addr) (nc : Nat) (xs : List Int) : Prop where
  ext : Ext w5 wq
  blk : Blk wq Bn #[.int .i64 a, .int .i64 b, .slice no xs.length nc] 48
  own : Own .u8 wq w5.heap.size 5 (.slice no xs.length nc) xs
theorem NtI.exts {w5 wq w' : World} {Bn : Nat} {a b : Int} {no : Option Addr} {nc : Nat} {xs : List Int} (h : NtI w5 wq Bn a b no nc xs) (hx : Ext wq w') : NtI w5 w' Bn a b no nc xs := ⟨h.ext.trans hx, h.blk.ext hx, h.own.kept hx⟩
/-- The first levels of a row of the call's own. -/
theorem LO.takeN {w : World} {base g n cap : Nat} {L : List Ent} (h : LO w base (.slice (some ⟨g, 0, none⟩) n cap) L) (m : Nat) (hm : m ≤ L.length) : LO w base (.slice (some ⟨g, 0, none⟩) m cap) (L.take m) := by
  have hl : (L.take m).length = m := by simp; omega
  refine ⟨?_, fun p hp => h.bys p (List.mem_of_mem_take hp), List.Pairwise.sublist (List.take_sublist _ _) h.alone⟩
  obtain ⟨h1, h2⟩ := h.own
  rw [hl]
  refine ⟨by rw [lcells_len, hl], ?_⟩
  rcases h2 with ⟨e, _⟩ | ⟨g2, c2, cur, e, hb, hg, hnc, hcm, hcs, htake⟩
  · cases e
  · cases e
    refine .inr ⟨g, cap, cur, rfl, hb, hg, by omega, hcm, hcs, ?_⟩
    have e2 : lcells (L.take m) = (lcells L).take (m * 3) := by
      have h3 : lcells L = lcells (L.take m) ++ lcells (L.drop m) := by rw [← lcells_append, List.take_append_drop]
      have h4 : (lcells (L.take m)).length = m * 3 := by rw [lcells_len, hl]
      conv => rhs; rw [h3]
      rw [List.take_append_of_le_length (by omega), ← h4, List.take_length]
    rw [e2, ← htake, List.take_take, Nat.min_eq_left (Nat.mul_le_mul_right _ hm)]

theorem infoS : (Try.prog.info? 27).map (fun i => (i.zero, i.size, i.bytes)) = some (some (.slice none 0 0), 1, 24) := by kernel_rfl
/-- 'append(four, x)' of slices of bytes. -/
theorem wpList_append_sl {w : World} {ops : Array Oper} {rest : List Oper} {o : Oper} {a : Act} {Q : Exit → Act → World → Prop} (hgd : o.guard = none) (s x : Operand)
    (ho : o.op = .call { callee := .builtin .append, args := #[s, x], argTypes := #[62, 62] }) (base : Nat) (v : Value) (vs : List Value) (y : Value) (hs : a.eval s = v)
    (hown : w.ownsRow base 27 1 v vs.length vs) (g c : Nat) (hx : a.eval x = .slice (some ⟨g, 0, none⟩) 1 c) (t : TypeId) (hB : Blk w g #[y] t) (hy : y.oneCell' = true)
    (hL : vs.length ≤ 1000) (hbase : base ≤ w.heap.size)
    (h : ∀ ao cap w', w'.ownsRow base 27 1 (.slice ao (vs.length + 1) cap) (vs.length + 1) (vs ++ [y]) → w.grownBy w' v.ownBlock → wpList Try.prog ops Q rest (a.put o.dst (.slice ao (vs.length + 1) cap)) w') :
    wpList Try.prog ops Q (o :: rest) a w := by
  obtain ⟨i0, hi, hz0, hz1, hz2⟩ := info_parts infoS
  refine wpList_append_own w hgd s x 62 ho base 27 i0 _ 1 24 Try.underlying62 hi hz0 hz1 hz2 rfl (by decide) v vs.length vs hs hown ⟨g, 0, none⟩ 1 c [y] hx rfl ?_ (by intro u hu; simp at hu; subst hu; exact hy) (by unfold maxLen; omega) (by omega) hbase ?_
  · intro j u hu
    rw [Addr.add_lit, Nat.zero_add]
    exact hB.cell (by simpa using hu)
  · intro v' w' h1 h2 _
    have hsh : ∃ ao cap, v' = .slice ao (vs.length + 1) cap := by
      rcases h1.2 with ⟨_, h0⟩ | ⟨g2, c2, cur, e, _⟩
      · omega
      · exact ⟨_, _, e⟩
    obtain ⟨ao, cap, rfl⟩ := hsh
    exact h ao cap w' h1 h2

section
variable {w : World} {v : Value} {L : List Ent} {I : Img}
set_option maxRecDepth 10000 in
set_option maxHeartbeats 4000000 in
theorem refGen_good (h : LR w v L) (hL : L.length ≤ 1000) (hA : I.L = absL L) (hbL : ∀ p ∈ L, p.2.2.2.length ≤ 140737488355328) (hby : ∀ p ∈ L, Byt p.2.2.2) (hE : genE I = 0) :
    Calls Try.prog 17 #[.agg #[.int .i64 I.f, v, .int .i64 I.ws, .int .i64 I.wt, .int .i64 I.mn, .int .i64 I.mg]] w fun e w' => ∃ ao cap L', e = .returned (.tuple #[.agg #[.int .i64 I.f, .slice ao L'.length cap, .int .i64 I.ws, .int .i64 I.wt, .int .i64 I.mn, .int .i64 I.mg], .int .i64 0]) ∧ LO w' w.heap.size (.slice ao L'.length cap) L' ∧ absL L' = genL I ∧ Ext w w' := by
  obtain ⟨ao, cap, rfl, hao, hlc, hcm, _⟩ := h.shape
  have hcm2 : cap ≤ 9223372036854775807 := by unfold maxLen at hcm; omega
  have HH := hide h
  have HA := hide hA
  have hX1 := ((Ext.refl w).alloc (.cells #[.int .i64 I.f, .slice ao L.length cap, .int .i64 I.ws, .int .i64 I.wt, .int .i64 I.mn, .int .i64 I.mg] 24)).alloc (.cells #[.int .i64 0, .slice none 0 0, .int .i64 0, .int .i64 0, .int .i64 0, .int .i64 0] 24)
  have hB1 := (Blk.new w #[.int .i64 I.f, .slice ao L.length cap, .int .i64 I.ws, .int .i64 I.wt, .int .i64 I.mn, .int .i64 I.mg] 24).alloc (.cells #[.int .i64 0, .slice none 0 0, .int .i64 0, .int .i64 0, .int .i64 0, .int .i64 0] 24)
  have hR1 : Blk ((w.alloc (.cells #[.int .i64 I.f, .slice ao L.length cap, .int .i64 I.ws, .int .i64 I.wt, .int .i64 I.mn, .int .i64 I.mg] 24)).alloc (.cells #[.int .i64 0, .slice none 0 0, .int .i64 0, .int .i64 0, .int .i64 0, .int .i64 0] 24)) (w.heap.size + 1) #[.int .i64 0, .slice none 0 0, .int .i64 0, .int .i64 0, .int .i64 0, .int .i64 0] 24 := Blk.at (by simp)
  have H1 := hide (And.intro hX1 (And.intro hB1 hR1))
  have HBL := hide hbL
  obtain ⟨hok, hh, hpw⟩ := genE_zero hE
  have HTH : Hid (thB (absL L) 0 = true) := by
    show _ = _
    rw [th_has (s := sizI I.f) (by rw [← hA]; exact (okB_iff.1 hok).2.2.1) 0, ← hA]
    exact hh
  rw [hA] at hh
  obtain ⟨k0, hk, hk0, hget, hw⟩ := has_get hh
  obtain rfl : k0 = 0 := by omega
  obtain ⟨⟨a1, a2⟩, ⟨b1, b2⟩, hlen, hs0⟩ := lev_good hok hA hk hw
  rw [show (0 : Int).toNat = 0 from rfl] at hget
  have hg0 : I.L.getD 0 noLev = absE L[0] := by rw [hA]; exact hget
  rw [hg0] at hpw
  have hp1 : powB L[0].1 = true := (Bool.and_eq_true_iff.1 hpw).1
  have hp2 : powB L[0].2.1 = true := (Bool.and_eq_true_iff.1 hpw).2
  obtain ⟨hsd, hsd2⟩ := siz_bd I.f
  obtain ⟨s, hs⟩ : ∃ s : Nat, sizI I.f = (s : Int) := ⟨(sizI I.f).toNat, by omega⟩
  have hs1 : s ≠ 0 := by omega
  have hs4 : s ≤ 4 := by omega
  have hgood : goodB s (absE L[0]) = true := goodB_iff.2 ⟨⟨a1, a2⟩, ⟨b1, b2⟩, by rw [← hs]; exact hlen⟩
  have hGL : genL I = chn (chs8 I.f) s (absE L[0]) (lgs L[0].1 L[0].2.1) := by
    unfold genL
    rw [hg0, hs]
    rfl
  have hbyt0 : Byt (absE L[0]).2.2 := hby _ (List.getElem_mem hk)
  obtain ⟨l0, hl0⟩ : ∃ l0, l0 = absE L[0] := ⟨_, rfl⟩
  have HL0 := hide (And.intro hl0 (And.intro hGL (And.intro hgood hbyt0)))
  have HP1 : Hid (∀ wx, Calls Try.prog 37 #[.int .i64 L[0].1] wx fun e w' => e = .returned (.bool true) ∧ wx = w') := fun wx => by
    refine (refPower_any L[0].1 wx a1 a2).mono ?_
    rintro e w' ⟨rfl, rfl⟩
    exact ⟨by rw [hp1], rfl⟩
  have HP2 : Hid (∀ wx, Calls Try.prog 37 #[.int .i64 L[0].2.1] wx fun e w' => e = .returned (.bool true) ∧ wx = w') := fun wx => by
    refine (refPower_any L[0].2.1 wx b1 b2).mono ?_
    rintro e w' ⟨rfl, rfl⟩
    exact ⟨by rw [hp2], rfl⟩
  have HSZ : Hid (∀ wx, Calls Try.prog 29 #[.int .i64 I.f] wx fun e w' => e = .returned (.int .i64 (s : Int)) ∧ wx = w') := fun wx => by
    rw [← hs]
    refine (refSize_any I.f wx).mono ?_
    rintro e w' ⟨rfl, rfl⟩
    exact ⟨rfl, rfl⟩
  have HS := hide hs
  have HPW := hide (And.intro hp1 hp2)
  have HOK := hide hok
  have hkn : (0 : Int) < (L.length : Int) := by omega
  clear h hA hao hcm hX1 hB1 hR1 hE hok hh hpw hbL hby hget hw hk0 hlen hs0 hg0 hs hgood hGL hbyt0 hl0 hp1 hp2
  go_enter Try.func17, Try.ntmps17
  go_wp2_with fail
  refine (refRight_any (I := I) ((unhide HH).ext (unhide H1).1) (unhide HA)).mono ?_
  rintro e w3 ⟨rfl, hx3⟩
  rw [unhide HOK]
  have H3 := hide (And.intro ((unhide H1).1.trans hx3) (And.intro ((unhide H1).2.1.ext hx3) ((unhide H1).2.2.ext hx3)))
  clear H1 hx3
  obtain ⟨q0, q1, q2, q3, q4, q5⟩ := (unhide H3).2.1.six
  go_wp2_with fail
  refine (refThere_any (I := I) ((unhide HH).ext (unhide H3).1) 0).mono ?_
  rintro e w4 ⟨rfl, hx4⟩
  rw [unhide HTH]
  have H4 := hide (And.intro ((unhide H3).1.trans hx4) (And.intro ((unhide H3).2.1.ext hx4) ((unhide H3).2.2.ext hx4)))
  clear H3 hx4 q0 q1 q2 q3 q4 q5 HTH
  obtain ⟨b, off, bo, bcap, rfl, eb, c0, c1, c2, hr⟩ := ((unhide HH).ext (unhide H4).1).at 0 hk
  simp only [Nat.zero_mul, Nat.add_zero] at c0 c1 c2
  obtain ⟨q0, q1, q2, q3, q4, q5⟩ := (unhide H4).2.1.six
  have hz4 := (unhide H4).2.2.lt
  clear hr eb
  go_wp2_with (first | (go_at_call 37; first | (with_reducible refine (unhide HP1 _).mono ?_; rintro e ws ⟨rfl, rfl⟩) | (with_reducible refine (unhide HP2 _).mono ?_; rintro e ws ⟨rfl, rfl⟩)))
  refine (refCopy_any (I := I) ((unhide HH).ext (unhide H4).1) (by omega) (unhide HBL)).mono ?_
  rintro e w5 ⟨ao5, cap5, D0, rfl, hlo5, habs5, hx5⟩
  clear q0 q1 q2 q3 q4 q5 c0 c1 c2 HP1 HP2
  have hDl : D0.length = L.length := by
    have h5 := congrArg List.length habs5
    rw [absL_len, absL_len] at h5
    exact h5
  have hkD : 0 < D0.length := by omega
  obtain ⟨g, off5, bo5, bcap5, eg, eb5, c0, c1, c2, hrx⟩ := hlo5.lr.at 0 hkD
  obtain ⟨g2, cur, eg2, _, hgb, hcur⟩ := hlo5.blk (by omega)
  rw [eg] at eg2
  cases eg2
  subst eg
  simp only [Nat.zero_mul, Nat.add_zero] at c0 c1 c2
  have hax : absE D0[0] = absE L[0] := by
    have h5 := congrArg (fun l => l.getD 0 noLev) habs5
    rw [absL_getD D0 0 hkD, absL_getD L 0 hk] at h5
    exact h5
  have hcap5 : D0.length ≤ cap5 ∧ cap5 ≤ 9223372036854775807 := by
    obtain ⟨_, _, e9, _, h9, h10⟩ := hlo5.cut
    cases e9
    unfold maxLen at h10
    exact ⟨h9, by omega⟩
  obtain ⟨hc5a, hc5b⟩ := hcap5
  -- the image's block takes the copy, then its first level alone
  have hI5 := (unhide H4).2.1.ext hx5
  have hg6 := grown_put6 w5 w.heap.size (.int .i64 I.f) (.slice (some ⟨g, 0, none⟩) D0.length cap5) (.int .i64 I.ws) (.int .i64 I.wt) (.int .i64 I.mn) (.int .i64 I.mg)
  have hB6 := hI5.put6 (.int .i64 I.f) (.slice (some ⟨g, 0, none⟩) D0.length cap5) (.int .i64 I.ws) (.int .i64 I.wt) (.int .i64 I.mn) (.int .i64 I.mg)
  have hlo6 := hlo5.grown hI5 ⟨by decide, by decide⟩ hg6
  have hx52 := (unhide H4).1.trans hx5
  have hx6 : Ext w _ := below_grown hx52 hg6 hx52.size (Nat.le_refl _)
  have hR6 := ((unhide H4).2.2.ext hx5).grown hg6 (by omega)
  obtain ⟨q0, q1, q2, q3, q4, q5⟩ := hI5.six
  obtain ⟨f0, f1, f2, f3, f4, f5⟩ := hI5.frees
  have hz5 := hx5.size
  have H6 := hide (And.intro hx6 (And.intro hB6 (And.intro hR6 hlo6)))
  have HAX := hide (And.intro hax (And.intro hDl hkD))
  clear hlo5 habs5 hax hcur hrx hI5 hg6 hB6 hlo6 hx52 hx6 hR6 hx5 c0 c1 c2 H4 eb5 hDl
  go_upto_region 8 with fail
  generalize (((((w5.setCell ⟨w.heap.size, 0, none⟩ (.int .i64 I.f)).setCell ⟨w.heap.size, 1, none⟩ (.slice (some ⟨g, 0, none⟩) D0.length cap5)).setCell ⟨w.heap.size, 2, none⟩ (.int .i64 I.ws)).setCell ⟨w.heap.size, 3, none⟩ (.int .i64 I.wt)).setCell ⟨w.heap.size, 4, none⟩ (.int .i64 I.mn)).setCell ⟨w.heap.size, 5, none⟩ (.int .i64 I.mg) = w6 at H6 ⊢
  clear q0 q1 q2 q3 q4 q5 f0 f1 f2 f3 f4 f5
  obtain ⟨x0, hx0⟩ : ∃ x0, x0 = D0[0] := ⟨_, rfl⟩
  have hB7 := (unhide H6).2.1.set 1 (.slice (some ⟨g, 0, none⟩) 1 cap5)
  have hg7 := grownBy_set w6 w.heap.size 1 (.slice (some ⟨g, 0, none⟩) 1 cap5)
  have hlo7 := ((unhide H6).2.2.2.takeN 1 (by omega)).grown (unhide H6).2.1 ⟨by decide, by decide⟩ hg7
  have hR7 := (unhide H6).2.2.1.other (r := w.heap.size) 1 (.slice (some ⟨g, 0, none⟩) 1 cap5) (by omega)
  have hx7 : Ext w _ := below_grown (unhide H6).1 hg7 (unhide H6).1.size (Nat.le_refl _)
  have hD1 : D0.take 1 = [x0] := by
    rw [hx0]
    cases D0 with
    | nil => simp at hkD
    | cons a r => rfl
  rw [hD1] at hlo7
  obtain ⟨q0, q1, q2, q3, q4, q5⟩ := (unhide H6).2.1.six
  have f1 := (unhide H6).2.1.free 1
  have H7 := hide (And.intro hx7 (And.intro (show Blk (w6.setCell ⟨w.heap.size, 1, none⟩ (.slice (some ⟨g, 0, none⟩) 1 cap5)) w.heap.size #[.int .i64 I.f, .slice (some ⟨g, 0, none⟩) 1 cap5, .int .i64 I.ws, .int .i64 I.wt, .int .i64 I.mn, .int .i64 I.mg] 24 by simpa using hB7) (And.intro hR7 hlo7)))
  have hnl1 : ¬ (cap5 : Int) < 1 := by omega
  have hc51 : (1 : Int) ≤ (cap5 : Int) := by omega
  rw [← hx0] at HAX
  clear hB7 hg7 hlo7 hR7 hx7 hD1 H6 hx0
  go_upto_region 9 with fail
  generalize w6.setCell ⟨w.heap.size, 1, none⟩ (.slice (some ⟨g, 0, none⟩) 1 cap5) = w7 at H7 ⊢
  clear q0 q1 q2 q3 q4 q5 f1
  obtain ⟨g9, off9, bo9, bcap9, eg9, eb9, c0, c1, c2, hr9⟩ := (unhide H7).2.2.2.lr.at 0 (by simp)
  cases eg9
  simp only [Nat.zero_mul, Nat.add_zero, List.getElem_cons_zero] at c0 c1 c2 eb9
  obtain ⟨q0, q1, q2, q3, q4, q5⟩ := (unhide H7).2.1.six
  rw [← eb9] at c2
  have hx8 := (Ext.refl w7).alloc (.cells #[.int .i64 x0.1, .int .i64 x0.2.1, x0.2.2.1] 48)
  have hz7 := (unhide H7).2.2.1.lt
  have hGn : GnI w (w7.alloc (.cells #[.int .i64 x0.1, .int .i64 x0.2.1, x0.2.2.1] 48)) w4.heap.size I (chs8 I.f) s l0 (some ⟨g, 0, none⟩) cap5 0 [x0] x0 w7.heap.size :=
    ⟨rfl, by rw [chn_zero, (unhide HL0).1, ← (unhide HAX).1]; rfl, (unhide H7).2.2.2.ext hx8, (unhide H7).2.1.ext hx8, (unhide H7).2.2.1.ext hx8, rfl, Blk.new _ _ _, (unhide H7).1.trans hx8, by omega, by omega, fun r e => by have := (World.ownsRow.lt (unhide H7).2.2.2.own r e).2; omega⟩
  rw [eb9] at hGn c2
  have HGn := hide hGn
  clear hGn hx8 hr9 eb9
  go_wp2_with (first | (go_at_call 29; refine (unhide HSZ _).mono ?_; rintro e ws ⟨rfl, rfl⟩))
  clear q0 q1 q2 q3 q4 q5 c0 c1 c2
  generalize w7.heap.size = Bl0 at HGn ⊢
  generalize w7.alloc (.cells #[.int .i64 x0.1, .int .i64 x0.2.1, .slice bo9 x0.2.2.2.length bcap9] 48) = w8 at HGn ⊢
  generalize hlg : lgs L[0].1 L[0].2.1 = lg0 at *
  have HLG := hide hlg
  have hlg6 : lg0 ≤ 6 := by rw [← hlg]; exact lg_le _
  clear hlg H7 HSZ
  go_loopw [5] (fun pv wr => ∃ (k : Nat) (ao : Option Addr) (cap : Nat) (D : List Ent) (x : Ent) (Bl : Nat), k ≤ lg0 ∧ pv = .pointer (some ⟨Bl, 0, none⟩) ∧ GnI w wr w4.heap.size I (chs8 I.f) s l0 ao cap k D x Bl) (fun _ wr => lg0 + 1 - lenAt wr w.heap.size)
  case atStart => exact ⟨0, _, _, _, _, _, Nat.zero_le _, rfl, unhide HGn⟩
  case round =>
    clear HGn
    obtain ⟨k, ao9, cap9, D, x, Bl, hk9, rfl, hI⟩ := hrel
    have hlen := hI.len
    have hkD : k < D.length := by omega
    have hxk : D[k] = x := by
      have h1 := hI.last
      rw [List.getElem?_eq_getElem hkD] at h1
      exact Option.some.inj h1
    have hlast := chn_last hlen hI.abs
    rw [hxk] at hlast
    have hl01 : l0.1 = L[0].1 ∧ l0.2.1 = L[0].2.1 := by rw [(unhide HL0).1]; exact ⟨rfl, rfl⟩
    have hgk := itL_good (ks := chs8 I.f) (s := s) (l := l0) (by rw [(unhide HL0).1]; exact (unhide HL0).2.2.1) k
    have hbk := itL_byt (ks := chs8 I.f) (s := s) (l := l0) (by rw [(unhide HL0).1]; exact (unhide HL0).2.2.2) k
    obtain ⟨iw1, iw2⟩ := itL_w (chs8 I.f) s l0 k
    have hend := lgs_end (w := L[0].1) (h := L[0].2.1) ⟨a1, a2⟩ ⟨b1, b2⟩ (k := k) (by rw [unhide HLG]; exact hk9)
    rw [unhide HLG, ← hl01.1, ← hl01.2, ← iw1, ← iw2, ← hlast] at hend
    have hpk : ∀ n, powB n = true → ∀ j, powB (halfs n j) = true := fun n hn j => by
      induction j with
      | zero => exact hn
      | succ j ih => exact powB_half ih
    have hq1 : powB x.1 = true := by
      have h1 := hpk _ (unhide HPW).1 k
      rw [← hl01.1, ← iw1, ← hlast] at h1
      exact h1
    have hq2 : powB x.2.1 = true := by
      have h1 := hpk _ (unhide HPW).2 k
      rw [← hl01.2, ← iw2, ← hlast] at h1
      exact h1
    rw [← hlast] at hgk hbk
    obtain ⟨g1, g2, g3⟩ := goodB_iff.1 hgk
    have ea : (absE x).1 = x.1 ∧ (absE x).2.1 = x.2.1 ∧ (absE x).2.2 = x.2.2.2 := ⟨rfl, rfl, rfl⟩
    rw [ea.1] at g1 g3 hend
    rw [ea.2.1] at g2 g3 hend
    rw [ea.2.2] at g3 hbk
    obtain ⟨W, hxW⟩ := Int.eq_ofNat_of_zero_le (show 0 ≤ x.1 by omega)
    obtain ⟨H, hxH⟩ := Int.eq_ofNat_of_zero_le (show 0 ≤ x.2.1 by omega)
    have hnx : nxt (chs8 I.f) s (itL (chs8 I.f) s l0 k) = (((hN W : Nat) : Int), ((hN H : Nat) : Int), nb (chs8 I.f) s W H x.2.2.2 (hN W * hN H)) := by
      rw [← hlast]
      show (half x.1, half x.2.1, nb _ _ x.1.toNat x.2.1.toNat x.2.2.2 (hN x.1.toNat * hN x.2.1.toNat)) = _
      rw [hxW, hxH, ← hN_half, ← hN_half, Int.toNat_natCast, Int.toNat_natCast]
    have hox := hI.lo.bys x (by rw [← hxk]; exact List.getElem_mem hkD)
    obtain ⟨bo, bcap, hsh⟩ := hox.shape
    have hrow := hox.row
    rw [hsh] at hrow
    have hlv := hI.lev
    rw [hsh, hxW, hxH] at hlv
    rw [hxW] at hend g1 g3 hq1
    rw [hxH] at hend g2 g3 hq2
    obtain ⟨bs, hbs⟩ : ∃ bs, bs = x.2.2.2 := ⟨_, rfl⟩
    rw [← hbs] at hrow hlv hnx hbk g3 hsh
    have hbl : bs.length = W * H * s := by
      have : ((W * H * s : Nat) : Int) = (W : Int) * (H : Int) * (s : Int) := by simp
      omega
    have hW1 : 1 ≤ W := by omega
    have hH1 : 1 ≤ H := by omega
    have hW6 : W ≤ 64 := by omega
    have hH6 : H ≤ 64 := by omega
    have hevW : 1 < W → W = 2 * hN W := fun h => by
      have := powB_even hq1 (by omega)
      rw [← hN_half] at this
      omega
    have hevH : 1 < H → H = 2 * hN H := fun h => by
      have := powB_even hq2 (by omega)
      rw [← hN_half] at this
      omega
    have hla := lenAt_of hI.img.six.2.1
    have HI := hide hI
    have HF := hide (And.intro hxk (And.intro hsh (And.intro hnx (And.intro hbl (And.intro hbk (And.intro hrow (And.intro hbs hla)))))))
    have HLV := hide hlv
    obtain ⟨l1, l2, l3⟩ := hlv.three
    have HEV := hide (And.intro hevW hevH)
    by_cases hlt : k < lg0
    · have hWH : 1 < (W : Int) ∨ 1 < (H : Int) := hend.2 hlt
      have hx9 := (Ext.refl wr).alloc (.cells #[.int .i64 ((hN W : Nat) : Int), .int .i64 ((hN H : Nat) : Int), .slice none 0 0] 48)
      have H9 := hide (And.intro hx9 (Blk.new wr #[.int .i64 ((hN W : Nat) : Int), .int .i64 ((hN H : Nat) : Int), .slice none 0 0] 48))
      have hhW : (W < 2 ∧ ((hN W : Nat) : Int) = 1) ∨ (2 ≤ W ∧ ((hN W : Nat) : Int) = (W : Int) / 2) := by unfold hN; omega
      have hhH : (H < 2 ∧ ((hN H : Nat) : Int) = 1) ∨ (2 ≤ H ∧ ((hN H : Nat) : Int) = (H : Int) / 2) := by unfold hN; omega
      clear hI hend hgk hbk ea g1 g2 g3 hq1 hq2 hxW hxH hnx hox hsh hrow hlv hbs hbl hx9 hla hlast hxk hl01 iw1 iw2 hpk hevW hevH hlen
      go_upto_region 11 with fail
      go_cut [61] from 54 to 152 (fun pv wc => pv = .bool true ∧ wr = wc)
      case first =>
        rcases (by omega : 1 < (W : Int) ∨ (¬ 1 < (W : Int) ∧ 1 < (H : Int))) with hw | ⟨hw, hh⟩
        · go_wp2
          go_meet
          exact ⟨rfl, rfl⟩
        · go_wp2
          go_meet
          exact ⟨rfl, rfl⟩
      case rest =>
      obtain ⟨rfl, rfl⟩ := hcut
      go_upto_region 13 with fail
      go_cut [6] from 70 to 152 (fun pv wc => pv = .pointer (some ⟨wr.heap.size, 0, none⟩) ∧ wc = wr.alloc (.cells #[.int .i64 ((hN W : Nat) : Int), .int .i64 ((hN H : Nat) : Int), .slice none 0 0] 48))
      case first =>
        have ht1 : Int.tdiv (W : Int) 2 = (W : Int) / 2 := Int.tdiv_eq_ediv_of_nonneg (by omega)
        have ht2 : Int.tdiv (H : Int) 2 = (H : Int) / 2 := Int.tdiv_eq_ediv_of_nonneg (by omega)
        rcases hhW with ⟨hw2, hwe⟩ | ⟨hw2, hwe⟩ <;> rcases hhH with ⟨hh2, hhe⟩ | ⟨hh2, hhe⟩
        case inl.inl => exfalso; omega
        all_goals
          have HWE := hide (And.intro hwe hhe)
          clear hwe hhe
          first
            | (have mw : (W : Int) / 2 < 1 := by omega)
            | (have mw : ¬ (W : Int) / 2 < 1 := by omega)
          first
            | (have mh : (H : Int) / 2 < 1 := by omega)
            | (have mh : ¬ (H : Int) / 2 < 1 := by omega)
          go_wp2
          go_meet
          refine ⟨rfl, ?_⟩
          rw [(unhide HWE).1, (unhide HWE).2]
      case rest =>
      obtain ⟨rfl, rfl⟩ := hcut
      rename World => wo
      have hNt : NtI wo (wo.alloc (.cells #[.int .i64 ((hN W : Nat) : Int), .int .i64 ((hN H : Nat) : Int), .slice none 0 0] 48)) wo.heap.size ((hN W : Nat) : Int) ((hN H : Nat) : Int) none 0 (nb (chs8 I.f) s W H bs (0 * hN W)) := by
        rw [Nat.zero_mul]
        exact ⟨(unhide H9).1, (unhide H9).2, Own.nil _ _ _ _⟩
      have HNt := hide hNt
      obtain ⟨n0, n1, n2⟩ := hNt.blk.three
      have hhW2 : hN W ≤ 64 := by unfold hN; omega
      have hhH2 : hN H ≤ 64 := by unfold hN; omega
      have hzr : Bl < wo.heap.size ∧ w.heap.size + 1 < wo.heap.size := ⟨(unhide HI).lev.lt, (unhide HI).res.lt⟩
      obtain ⟨hzr1, hzr2⟩ := hzr
      clear hNt hhW hhH H9 l1 l2 l3
      generalize hwn : wo.alloc (.cells #[.int .i64 ((hN W : Nat) : Int), .int .i64 ((hN H : Nat) : Int), .slice none 0 0] 48) = w9 at *
      clear hwn
      go_wp2_with fail
      clear n0 n1 n2
      go_loopw [81] (fun yv wq => ∃ (j : Nat) (no : Option Addr) (nc : Nat), j ≤ hN H ∧ yv = .int .i64 (j : Int) ∧ NtI wo wq wo.heap.size ((hN W : Nat) : Int) ((hN H : Nat) : Int) no nc (nb (chs8 I.f) s W H bs (j * hN W))) (fun yv _ => hN H - (intOf yv).toNat)
      case atStart => exact ⟨0, none, 0, Nat.zero_le _, rfl, unhide HNt⟩
      case round =>
        clear HNt
        obtain ⟨j, no, nc, hj, rfl, hN1⟩ := hrel
        obtain ⟨n0, n1, n2⟩ := hN1.blk.three
        have HN1 := hide hN1
        clear hN1
        by_cases hlty : j < hN H
        · have hlty2 : (j : Int) < ((hN H : Nat) : Int) := by omega
          go_wp2_with fail
          clear n0 n1 n2
          go_loopw [86] (fun xv wq => ∃ (i : Nat) (no : Option Addr) (nc : Nat), i ≤ hN W ∧ xv = .int .i64 (i : Int) ∧ NtI wo wq wo.heap.size ((hN W : Nat) : Int) ((hN H : Nat) : Int) no nc (nb (chs8 I.f) s W H bs (j * hN W + i))) (fun xv _ => hN W - (intOf xv).toNat)
          case atStart => exact ⟨0, no, nc, Nat.zero_le _, rfl, unhide HN1⟩
          case round =>
            clear HN1
            obtain ⟨i, no, nc, hi9, rfl, hN1⟩ := hrel
            by_cases hltx : i < hN W
            · have hltx2 : (i : Int) < ((hN W : Nat) : Int) := by omega
              have HN1 := hide hN1
              clear hN1
              rename World => wx
              go_wp2_with fail
              go_loopw [9, 89] (fun fv kv wz => ∃ (kk : Nat) (vs : List Value) (fo : Option Addr) (fc : Nat), kk ≤ 4 ∧ kv = .int .i64 (kk : Int) ∧ fv = .slice fo vs.length fc ∧ wz.ownsRow wx.heap.size 27 1 (.slice fo vs.length fc) vs.length vs ∧ vs.length = (frL s W H bs i j kk).length ∧ (∀ n (h : n < vs.length) (h2 : n < (frL s W H bs i j kk).length), Row .u8 wo vs[n] (frL s W H bs i j kk)[n]) ∧ Ext wx wz) (fun _ kv _ => 4 - (intOf kv).toNat)
              case atStart => exact ⟨0, [], none, 0, Nat.zero_le _, rfl, rfl, World.ownsRow_nil _ _ _ _, rfl, fun n h => by simp at h, Ext.refl _⟩
              case round =>
                obtain ⟨kk, vs, fo, fc, hkk, rfl, rfl, hfo, hvl, hvr, hxz⟩ := hrel
                have HV := hide (And.intro hfo (And.intro hvl (And.intro hvr hxz)))
                have hfle := frL_le s W H bs i j kk
                have hv4 : vs.length ≤ 4 := by omega
                by_cases hltk : kk < 4
                · have hltk2 : (kk : Int) < 4 := by omega
                  obtain ⟨a, ha⟩ : ∃ a, a = 2 * i + kk % 2 := ⟨_, rfl⟩
                  obtain ⟨bb, hbb⟩ : ∃ bb, bb = 2 * j + kk / 2 := ⟨_, rfl⟩
                  have HAB := hide (And.intro ha hbb)
                  have ea1 : 2 * (i : Int) + (kk : Int) % 2 = (a : Int) := by omega
                  have ea2 : 2 * (j : Int) + (kk : Int) / 2 = (bb : Int) := by omega
                  have ht1 : Int.tmod (kk : Int) 2 = (kk : Int) % 2 := Int.tmod_eq_emod_of_nonneg (by omega)
                  have ht2 : Int.tdiv (kk : Int) 2 = (kk : Int) / 2 := Int.tdiv_eq_ediv_of_nonneg (by omega)
                  have hxo := (unhide HN1).ext.trans hxz
                  obtain ⟨l1, l2, l3⟩ := ((unhide HLV).ext hxo).three
                  have HEA := hide (And.intro ea1 ea2)
                  clear hfo hvl hvr hxz ha hbb ea1 ea2 hfle
                  go_upto_region 24 with fail
                  go_cut [11, 12] from 92 to 135 (fun p9 q9 wc => p9 = .int .i64 (a : Int) ∧ q9 = .int .i64 (bb : Int) ∧ wr = wc)
                  case first =>
                    go_wp2
                    go_meet
                    exact ⟨by rw [← (unhide HEA).1], by rw [← (unhide HEA).2], rfl⟩
                  case rest =>
                  obtain ⟨rfl, rfl, rfl⟩ := hcut
                  clear ht1 ht2 HEA
                  by_cases hab : a < W ∧ bb < H
                  · obtain ⟨h1, h2⟩ := hab
                    have h1' : (a : Int) < (W : Int) := by omega
                    have h2' : (bb : Int) < (H : Int) := by omega
                    obtain ⟨q, hq⟩ : ∃ q, q = bb * W + a := ⟨_, rfl⟩
                    have hqW : q < W * H := by
                      have h3 : (bb + 1) * W ≤ H * W := Nat.mul_le_mul_right _ h2
                      rw [Nat.succ_mul, Nat.mul_comm H] at h3
                      omega
                    have hfr : frL s W H bs i j (kk + 1) = frL s W H bs i j kk ++ [cellL s bs q] := by
                      rw [frL, ← (unhide HAB).1, ← (unhide HAB).2, if_pos ⟨h1, h2⟩, hq]
                    have HFR := hide hfr
                    have hbl := (unhide HF).2.2.2.1
                    have hqs : (q + 1) * s ≤ bs.length := by
                      rw [hbl]
                      exact Nat.mul_le_mul_right _ hqW
                    have hqs2 := hqs
                    rw [Nat.succ_mul] at hqs2
                    obtain ⟨at1, hat1⟩ : ∃ at1, at1 = q * s := ⟨_, rfl⟩
                    obtain ⟨at2, hat2⟩ : ∃ at2, at2 = q * s + s := ⟨_, rfl⟩
                    obtain ⟨bw, hbw⟩ : ∃ bw, bw = bb * W := ⟨_, rfl⟩
                    have he0 : (bb : Int) * (W : Int) = (bw : Int) := by rw [hbw]; simp
                    have hqe : (bw : Int) + (a : Int) = (q : Int) := by rw [hq, hbw]; simp
                    have he1 : ((bw : Int) + (a : Int)) * (s : Int) = (at1 : Int) := by rw [hqe, hat1]; simp
                    have he2 : ((bw : Int) + (a : Int) + 1) * (s : Int) = (at2 : Int) := by
                      rw [hqe, hat2, Int.add_mul, Int.one_mul]
                      simp
                    have hbw2 : bw ≤ 4096 := by
                      rw [hbw]
                      have : bb * W ≤ 64 * 64 := Nat.mul_le_mul (by omega) hW6
                      omega
                    have hrw := (unhide HF).2.2.2.2.2.1
                    obtain ⟨b0, off0, eb0, hpart⟩ := hrw.part (q * s) s (by omega) hqs2
                    obtain ⟨_, _, esh, _, hbc1, hbm1⟩ := hrw.shape
                    cases esh
                    subst eb0
                    have hbm2 : bcap ≤ 9223372036854775807 := by unfold maxLen at hbm1; omega
                    have hcl := cellL_len (s := s) (q := q) (xs := bs) hqs
                    have hrr : Row .u8 wo (.slice (some ⟨b0, off0 + at1, none⟩) (at2 - at1) (bcap - at1)) (cellL s bs q) := by
                      rw [hat2, hat1, Nat.add_sub_cancel_left]
                      exact hpart
                    have HRR := hide hrr
                    have k1 : (at1 : Int) ≤ (at2 : Int) := by omega
                    have k2 : (at2 : Int) ≤ (bcap : Int) := by omega
                    have k3 : ¬ bcap = at1 := by omega
                    have k4 : at2 ≤ bcap := by omega
                    have hvz := hide (show vs.length ≤ 1000 by omega)
                    have hzx := (unhide HV).2.2.2.size
                    have HOW := hide (World.ownsRow.alloc (unhide HV).1 (.cells #[.slice (some ⟨b0, off0 + at1, none⟩) (at2 - at1) (bcap - at1)] 27))
                    clear hfr hqs hqs2 hq hqW hat1 hat2 hbw hqe hbl hrw hpart hbc1 hbm1 hcl hrr hxo
                    go_wp2_with (at_builtin; refine wpList_append_sl rfl (.tmp 112) (.tmp 133) rfl wx.heap.size _ vs (.slice (some ⟨b0, off0 + at1, none⟩) (at2 - at1) (bcap - at1)) rfl (unhide HOW) wr.heap.size 1 ?z1 27 (Blk.new _ _ _) rfl (unhide hvz) ?z3 ?_)
                    case z1 => rfl
                    case z3 => simp; omega
                    intro fo2 fc2 w8 hown8 hg8
                    have hx8 : Ext wx w8 := by
                      have h3 := (unhide HV).2.2.2.alloc (.cells #[.slice (some ⟨b0, off0 + at1, none⟩) (at2 - at1) (bcap - at1)] 27)
                      exact h3.grown hg8 h3.size (fun r e => (World.ownsRow.lt (unhide HOW) r e).1)
                    have H8 := hide (And.intro hown8 hx8)
                    clear hown8 hg8 hx8 l1 l2 l3
                    go_wp2
                    go_roundw
                    case rel =>
                      have hvl := (unhide HV).2.1
                      have hl2 : (vs ++ [Value.slice (some ⟨b0, off0 + at1, none⟩) (at2 - at1) (bcap - at1)]).length = vs.length + 1 := by simp
                      refine ⟨kk + 1, vs ++ [.slice (some ⟨b0, off0 + at1, none⟩) (at2 - at1) (bcap - at1)], fo2, fc2, by omega, by go_num, by rw [hl2], by rw [hl2]; exact (unhide H8).1, by rw [hl2, unhide HFR, hvl]; simp, fun n h h2 => ?_, (unhide H8).2⟩
                      rw [hl2] at h
                      have hfr := unhide HFR
                      by_cases hn : n < vs.length
                      · have e1 : (vs ++ [Value.slice (some ⟨b0, off0 + at1, none⟩) (at2 - at1) (bcap - at1)])[n]'(by rw [hl2]; exact h) = vs[n] := List.getElem_append_left hn
                        have e2 : (frL s W H bs i j (kk + 1))[n]'h2 = (frL s W H bs i j kk)[n]'(by omega) := by
                          simp only [hfr]
                          exact List.getElem_append_left (by omega)
                        rw [e1, e2]
                        exact (unhide HV).2.2.1 n hn (by omega)
                      · obtain rfl : n = vs.length := by omega
                        have e1 : (vs ++ [Value.slice (some ⟨b0, off0 + at1, none⟩) (at2 - at1) (bcap - at1)])[vs.length]'(by rw [hl2]; exact h) = Value.slice (some ⟨b0, off0 + at1, none⟩) (at2 - at1) (bcap - at1) := by simp
                        have e2 : (frL s W H bs i j (kk + 1))[vs.length]'h2 = cellL s bs q := by
                          simp only [hfr, hvl]
                          simp
                        rw [e1, e2]
                        exact unhide HRR
                    case measure => simp [intOf]; omega
                  · have hfr : frL s W H bs i j (kk + 1) = frL s W H bs i j kk := by
                      rw [frL, ← (unhide HAB).1, ← (unhide HAB).2, if_neg hab, List.append_nil]
                    have HFR := hide hfr
                    rcases (by omega : ¬ (a : Int) < (W : Int) ∨ ((a : Int) < (W : Int) ∧ ¬ (bb : Int) < (H : Int))) with h1' | ⟨h1', h2'⟩
                    all_goals
                      clear hfr hab hxo
                      go_wp2
                      go_roundw
                      case rel =>
                        refine ⟨kk + 1, vs, fo, fc, by omega, by go_num, rfl, (unhide HV).1, by rw [unhide HFR]; exact (unhide HV).2.1, fun n h h2 => ?_, (unhide HV).2.2.2⟩
                        have hfr := unhide HFR
                        have e2 : (frL s W H bs i j (kk + 1))[n]'h2 = (frL s W H bs i j kk)[n]'(by rw [← hfr]; exact h2) := by simp only [hfr]
                        rw [e2]
                        exact (unhide HV).2.2.1 n h _
                      case measure => simp [intOf]; omega
                · obtain rfl : kk = 4 := by omega
                  have hnl4 : ¬ ((4 : Nat) : Int) < 4 := by omega
                  clear hfo hvl hvr hxz hfle
                  have hex := (unhide HEV)
                  have hgx : 2 * i + min 2 W ≤ W := by
                    rcases (by omega : W = 1 ∨ 1 < W) with rfl | hw
                    · unfold hN at hltx
                      omega
                    · have := hex.1 hw
                      omega
                  have hgy : 2 * j + min 2 H ≤ H := by
                    rcases (by omega : H = 1 ∨ 1 < H) with rfl | hw
                    · unfold hN at hlty
                      omega
                    · have := hex.2 hw
                      omega
                  have hfg := frL_grp (s := s) (xs := bs) hgx hgy hW1 hH1
                  have hgl := grp_len s W H bs i j
                  have hg4 : (grp s W H bs i j).length ≤ 4 := by
                    rw [hgl]
                    have : min 2 W * min 2 H ≤ 2 * 2 := Nat.mul_le_mul (by omega) (by omega)
                    omega
                  have hg1 : 1 ≤ (grp s W H bs i j).length := grp_pos hW1 hH1
                  have hgm : ∀ g ∈ grp s W H bs i j, g.length = s ∧ Byt g := fun g hg => by
                    unfold grp at hg
                    obtain ⟨q, hq, rfl⟩ := List.mem_map.1 hg
                    have hq2 := List.mem_range.1 hq
                    have hq3 := pq_lt hgx hgy hq2
                    refine ⟨cellL_len ?_, (unhide HF).2.2.2.2.1.cut _ _⟩
                    rw [(unhide HF).2.2.2.1]
                    exact Nat.mul_le_mul_right _ hq3
                  have hBR : BR wr (.slice fo vs.length fc) (grp s W H bs i j) := by
                    obtain ⟨h1, h2, h3, h4⟩ := unhide HV
                    rw [hfg] at h2
                    rcases h1.2 with ⟨e1, h0⟩ | ⟨g3, c3, cur3, e1, _, _, hnc, hcm, _⟩
                    · omega
                    · cases e1
                      refine ⟨g3, 0, fc, by rw [h2], by omega, hcm, fun n hn => ⟨vs[n]'(by omega), ?_, ?_⟩⟩
                      · have := World.ownsRow.cells h1 (g := g3) rfl n (vs[n]'(by omega)) (by simp [h2, hn])
                        rw [Addr.add_lit] at this
                        exact this
                      · have h5 := h3 n (by omega) (by rw [hfg]; exact hn)
                        have e5 : (frL s W H bs i j 4)[n]'(by rw [hfg]; exact hn) = (grp s W H bs i j)[n] := by simp only [hfg]
                        rw [e5] at h5
                        exact h5.ext ((unhide HN1).ext.trans h4)
                  have hvl : vs.length = (grp s W H bs i j).length := by rw [← hfg]; exact (unhide HV).2.1
                  have HMEAN : Hid (∀ wm, Ext wr wm → Calls Try.prog 38 #[.int .i64 I.f, .slice fo vs.length fc] wm fun e w' => ∃ g, e = .returned (.slice (some ⟨g, 0, none⟩) s s) ∧ Own .u8 w' wm.heap.size 5 (.slice (some ⟨g, 0, none⟩) s s) (meanB (chs8 I.f) s (grp s W H bs i j)) ∧ Ext wm w') := fun wm hm =>
                    refMean_any I.f s (unhide HS) hs1 _ _ wm (hBR.ext hm) hg1 hg4 hgm
                  have hN2 := (unhide HN1).exts (unhide HV).2.2.2
                  have hsn : nb (chs8 I.f) s W H bs (j * hN W + (i + 1)) = nb (chs8 I.f) s W H bs (j * hN W + i) ++ meanB (chs8 I.f) s (grp s W H bs i j) := by
                    obtain ⟨ix1, ix2⟩ := idx_at (j := j) hltx
                    rw [show j * hN W + (i + 1) = (j * hN W + i) + 1 by omega, nb, ix1, ix2]
                  have hml : (meanB (chs8 I.f) s (grp s W H bs i j)).length = s := low_length _ _
                  have hnl9 : (nb (chs8 I.f) s W H bs (j * hN W + i)).length = (j * hN W + i) * s := nb_len _ _ _ _ _ _
                  have hnb : (j * hN W + i) * s ≤ 100000 := by
                    have h1 : j * hN W ≤ 64 * 64 := Nat.mul_le_mul (by omega) hhW2
                    have h2 : (j * hN W + i) * s ≤ 4160 * 4 := Nat.mul_le_mul (by omega) hs4
                    omega
                  have himg := (unhide HI).img.ext hN2.ext
                  have HSN := hide (And.intro hsn (And.intro hml hnl9))
                  have HN2 := hide hN2
                  have HIMG := hide himg
                  clear hfg hgl hg4 hg1 hgm hBR hvl hN2 hsn hml hnl9 hgx hgy hex himg
                  generalize meanB (chs8 I.f) s (grp s W H bs i j) = mb at *
                  obtain ⟨nx1, hnx1⟩ : ∃ nx1, nx1 = nb (chs8 I.f) s W H bs (j * hN W + (i + 1)) := ⟨_, rfl⟩
                  rw [← hnx1] at HSN
                  have HNX1 := hide hnx1
                  clear hnx1
                  generalize nb (chs8 I.f) s W H bs (j * hN W + i) = nx0 at *
                  go_upto_region 28 with fail
                  have cnr : wr.cell? ⟨wo.heap.size, 2, none⟩ = some (.slice no nx0.length nc) := (unhide HN2).blk.three.2.2
                  have HS0 : wr.drew.cell? ⟨w.heap.size, 0, none⟩ = some (.int .i64 I.f) := (unhide HIMG).six.1
                  refine wp_region_noPanic ?_
                  refine wp_region_held_drew (S := fun wz => wz.cell? ⟨w.heap.size, 0, none⟩ = some (.int .i64 I.f)) (by kernel_rfl) HS0 (fun HS9 => ?_)
                  refine wpAnyH_take (i := 0) (oi := { dst := some 136, op := Op.fieldAddr 48 (Operand.tmp 6) 2, type := 0, pos := _, after := _, guard := none }) (v := .pointer (some ⟨wo.heap.size, 2, none⟩)) rfl (by kernel_rfl) (by kernel_rfl) (by kernel_rfl) (fun _ _ _ h => h) (Or.inl ⟨by rfl, fun _ _ => rfl⟩) HS9 ?_
                  simp only [Act.put, List.setIfInBounds_toArray, List.set_cons_zero, List.set_cons_succ]
                  refine wpAnyH_take (i := 2) (oi := { dst := some 138, op := Op.fieldAddr 24 (Operand.tmp 1) 0, type := 0, pos := _, after := _, guard := none }) (v := .pointer (some ⟨w.heap.size, 0, none⟩)) rfl (by kernel_rfl) (by kernel_rfl) (by kernel_rfl) (fun _ _ _ h => h) (Or.inl ⟨by rfl, fun _ _ => rfl⟩) HS9 ?_
                  simp only [Act.put, List.setIfInBounds_toArray, List.set_cons_zero, List.set_cons_succ]
                  refine wpAnyH_take (i := 3) (oi := { dst := some 139, op := Op.load 3 (Operand.tmp 138), type := 3, pos := _, after := _, guard := none }) (v := .int .i64 I.f) rfl (by kernel_rfl) (by kernel_rfl) (by kernel_rfl) (fun _ _ _ h => h) (Or.inl ⟨by rfl, fun wx hx => by go_simp⟩) HS9 ?_
                  simp only [Act.put, List.setIfInBounds_toArray, List.set_cons_zero, List.set_cons_succ]
                  refine wpAnyH_take (i := 4) (oi := { dst := some 140, op := Op.move (Operand.tmp 9), type := 62, pos := _, after := _, guard := none }) (v := .slice fo vs.length fc) rfl (by kernel_rfl) (by kernel_rfl) (by kernel_rfl) (fun _ _ _ h => h) (Or.inl ⟨by rfl, fun _ _ => rfl⟩) HS9 ?_
                  simp only [Act.put, List.setIfInBounds_toArray, List.set_cons_zero, List.set_cons_succ]
                  refine wpAnyH_ready (rs := [1, 5]) (by kernel_rfl) (by simp) (AllReadyH.cons (o := { dst := some 137, op := Op.load 27 (Operand.tmp 136), type := 27, pos := _, after := _, guard := none }) rfl (fun KK hK => ?_) (AllReadyH.cons (o := { dst := some 141, op := Op.call { callee := Callee.value (Operand.func 38), args := #[Operand.tmp 139, Operand.tmp 140], argTypes := #[3, 62] }, type := 27, pos := _, after := _, guard := none }) rfl (fun KK hK => ?_) AllReadyH.nil))
                  · refine Eq.mpr (if_pos (by rfl)) ?_
                    go_simp
                    refine hK.out _ _ HS9 (fun _ => ?_)
                    clear hK KK
                    try simp only [Act.put, List.setIfInBounds_toArray, List.set_cons_zero, List.set_cons_succ]
                    refine wpAnyH_ready (rs := [5]) (by kernel_rfl) (by simp) (AllReadyH.cons (o := { dst := some 141, op := Op.call { callee := Callee.value (Operand.func 38), args := #[Operand.tmp 139, Operand.tmp 140], argTypes := #[3, 62] }, type := 27, pos := _, after := _, guard := none }) rfl (fun KK hK => ?_) AllReadyH.nil)
                    refine Eq.mpr (if_pos (by rfl)) ?_
                    go_simp
                    refine (unhide HMEAN _ (ext_0 wr)).mono ?_
                    rintro e wm ⟨gm, rfl, hom, hxm⟩
                    have hxm2 := (ext_0 wr).trans hxm
                    have hNm := (unhide HN2).exts hxm2
                    have hIm := (unhide HIMG).ext hxm2
                    have cnm := hNm.blk.three.2.2
                    have HS9 : wm.cell? ⟨w.heap.size, 0, none⟩ = some (.int .i64 I.f) := hIm.six.1
                    refine hK.out _ _ HS9 (fun _ => ?_)
                    clear hK KK
                    try simp only [Act.put, List.setIfInBounds_toArray, List.set_cons_zero, List.set_cons_succ]
                    have hrm : Row .u8 wm (.slice (some ⟨gm, 0, none⟩) mb.length s) mb := by
                      rw [(unhide HSN).2.1]
                      exact hom.row
                    obtain ⟨i0, hi, hz0, hz1, hz2⟩ := info_parts info5
                    obtain ⟨ao8, cap8, w8, hrun8, ho8, hg8⟩ := app_row (P := Try.prog) (t := 27) (ty := 27) Try.underlying27 hi hz0 hz1 hz2 (w := wm) hNm.own hrm (by rw [(unhide HSN).2.1]; omega) hNm.ext.size (by rw [(unhide HSN).2.1, (unhide HSN).2.2]; unfold maxLen; omega) (by rw [(unhide HSN).2.1, (unhide HSN).2.2]; omega)
                    rw [← (unhide HSN).1] at ho8
                    rw [(unhide HSN).2.1] at hrun8 ho8
                    have hB8 := blk_by2 hNm.blk hNm.own (by decide) hg8
                    have hI8 := blk_by2 hIm hNm.own (by decide) hg8
                    have hx8 : Ext wo w8 := hNm.ext.grown hg8 hNm.ext.size (fun r e => (hNm.own.lt r e).1)
                    have hg9 := grownBy_set w8 wo.heap.size 2 (.slice ao8 (nx0.length + s) cap8)
                    have hB9 : Blk (w8.setCell ⟨wo.heap.size, 2, none⟩ (.slice ao8 (nx0.length + s) cap8)) wo.heap.size #[.int .i64 ((hN W : Nat) : Int), .int .i64 ((hN H : Nat) : Int), .slice ao8 (nx0.length + s) cap8] 48 := by
                      have := hB8.set 2 (.slice ao8 (nx0.length + s) cap8)
                      simpa using this
                    have hx9 : Ext wo _ := below_grown hx8 hg9 hx8.size (Nat.le_refl _)
                    have ho9 := ho8.grown hg9 (fun b hb e => own_neT ho8 hB8 (by decide) b hb e)
                    have hI9 := hI8.other (r := wo.heap.size) 2 (.slice ao8 (nx0.length + s) cap8) (by omega)
                    have hnl8 : nx1.length = nx0.length + s := by rw [(unhide HSN).1, List.length_append, (unhide HSN).2.1]
                    have hNF : NtI wo (w8.setCell ⟨wo.heap.size, 2, none⟩ (.slice ao8 (nx0.length + s) cap8)) wo.heap.size ((hN W : Nat) : Int) ((hN H : Nat) : Int) ao8 cap8 nx1 := ⟨hx9, by rw [hnl8]; exact hB9, by rw [hnl8]; exact ho9⟩
                    have HNF := hide hNF
                    have c80 := hB8.three.2.2
                    have f82 := hB8.free 2
                    have HS10 : w8.cell? ⟨w.heap.size, 0, none⟩ = some (.int .i64 I.f) := hI8.six.1
                    have HS11 : (w8.setCell ⟨wo.heap.size, 2, none⟩ (.slice ao8 (nx0.length + s) cap8)).cell? ⟨w.heap.size, 0, none⟩ = some (.int .i64 I.f) := hI9.six.1
                    clear hrm hom hxm hxm2 hNm hIm ho8 hg8 hB8 hI8 hx8 hg9 hB9 hx9 ho9 hI9 hnl8 hNF
                    refine wpAnyH_ready (rs := [6]) (by kernel_rfl) (by simp) (AllReadyH.cons (o := { dst := some 142, op := Op.call { callee := Callee.builtin Builtin.append, args := #[Operand.tmp 137, Operand.tmp 141], argTypes := #[27, 27] }, type := 27, pos := _, after := _, guard := none }) rfl (fun KK hK => ?_) AllReadyH.nil)
                    refine step_run (by rfl) (.tmp 137) (.tmp 141) 27 (by rfl) (by rfl) (by rfl) hrun8 ?_
                    refine hK.out _ _ HS10 (fun _ => ?_)
                    clear hK KK hrun8
                    try simp only [Act.put, List.setIfInBounds_toArray, List.set_cons_zero, List.set_cons_succ]
                    refine wpAnyH_take (i := 7) (oi := { dst := some 143, op := Op.fieldAddr 48 (Operand.tmp 6) 2, type := 0, pos := _, after := _, guard := none }) (v := .pointer (some ⟨wo.heap.size, 2, none⟩)) rfl (by kernel_rfl) (by kernel_rfl) (by kernel_rfl) (fun _ _ _ h => h) (Or.inl ⟨by rfl, fun _ _ => rfl⟩) HS10 ?_
                    simp only [Act.put, List.setIfInBounds_toArray, List.set_cons_zero, List.set_cons_succ]
                    refine wpAnyH_ready (rs := [8]) (by kernel_rfl) (by simp) (AllReadyH.cons (o := { dst := none, op := Op.store 27 (Operand.tmp 143) (Operand.tmp 142), type := 0, pos := _, after := _, guard := none }) rfl (fun KK hK => ?_) AllReadyH.nil)
                    refine Eq.mpr (if_pos (by rfl)) ?_
                    go_simp
                    refine hK.out _ _ HS11 (fun _ => ?_)
                    clear hK KK c80 f82
                    try simp only [Act.put, List.setIfInBounds_toArray, List.set_cons_zero, List.set_cons_succ]
                    refine wpAnyH_done (by kernel_rfl) ?_ _
                    refine NoPanic.normal ?_
                    clear HS10 HS11 cnm
                    go_wp2
                    go_roundw
                    case rel => exact ⟨i + 1, ao8, cap8, by omega, by go_num, by rw [← unhide HNX1]; exact unhide HNF⟩
                    case measure => simp [intOf]; omega
                  · refine Eq.mpr (if_pos (by rfl)) ?_
                    go_simp
                    refine (unhide HMEAN _ (ext_0 wr)).mono ?_
                    rintro e wm ⟨gm, rfl, hom, hxm⟩
                    have hxm2 := (ext_0 wr).trans hxm
                    have hNm := (unhide HN2).exts hxm2
                    have hIm := (unhide HIMG).ext hxm2
                    have cnm := hNm.blk.three.2.2
                    have HS9 : wm.cell? ⟨w.heap.size, 0, none⟩ = some (.int .i64 I.f) := hIm.six.1
                    refine hK.out _ _ HS9 (fun _ => ?_)
                    clear hK KK
                    try simp only [Act.put, List.setIfInBounds_toArray, List.set_cons_zero, List.set_cons_succ]
                    refine wpAnyH_ready (rs := [1]) (by kernel_rfl) (by simp) (AllReadyH.cons (o := { dst := some 137, op := Op.load 27 (Operand.tmp 136), type := 27, pos := _, after := _, guard := none }) rfl (fun KK hK => ?_) AllReadyH.nil)
                    refine Eq.mpr (if_pos (by rfl)) ?_
                    go_simp
                    refine hK.out _ _ HS9 (fun _ => ?_)
                    clear hK KK
                    try simp only [Act.put, List.setIfInBounds_toArray, List.set_cons_zero, List.set_cons_succ]
                    have hrm : Row .u8 wm (.slice (some ⟨gm, 0, none⟩) mb.length s) mb := by
                      rw [(unhide HSN).2.1]
                      exact hom.row
                    obtain ⟨i0, hi, hz0, hz1, hz2⟩ := info_parts info5
                    obtain ⟨ao8, cap8, w8, hrun8, ho8, hg8⟩ := app_row (P := Try.prog) (t := 27) (ty := 27) Try.underlying27 hi hz0 hz1 hz2 (w := wm) hNm.own hrm (by rw [(unhide HSN).2.1]; omega) hNm.ext.size (by rw [(unhide HSN).2.1, (unhide HSN).2.2]; unfold maxLen; omega) (by rw [(unhide HSN).2.1, (unhide HSN).2.2]; omega)
                    rw [← (unhide HSN).1] at ho8
                    rw [(unhide HSN).2.1] at hrun8 ho8
                    have hB8 := blk_by2 hNm.blk hNm.own (by decide) hg8
                    have hI8 := blk_by2 hIm hNm.own (by decide) hg8
                    have hx8 : Ext wo w8 := hNm.ext.grown hg8 hNm.ext.size (fun r e => (hNm.own.lt r e).1)
                    have hg9 := grownBy_set w8 wo.heap.size 2 (.slice ao8 (nx0.length + s) cap8)
                    have hB9 : Blk (w8.setCell ⟨wo.heap.size, 2, none⟩ (.slice ao8 (nx0.length + s) cap8)) wo.heap.size #[.int .i64 ((hN W : Nat) : Int), .int .i64 ((hN H : Nat) : Int), .slice ao8 (nx0.length + s) cap8] 48 := by
                      have := hB8.set 2 (.slice ao8 (nx0.length + s) cap8)
                      simpa using this
                    have hx9 : Ext wo _ := below_grown hx8 hg9 hx8.size (Nat.le_refl _)
                    have ho9 := ho8.grown hg9 (fun b hb e => own_neT ho8 hB8 (by decide) b hb e)
                    have hI9 := hI8.other (r := wo.heap.size) 2 (.slice ao8 (nx0.length + s) cap8) (by omega)
                    have hnl8 : nx1.length = nx0.length + s := by rw [(unhide HSN).1, List.length_append, (unhide HSN).2.1]
                    have hNF : NtI wo (w8.setCell ⟨wo.heap.size, 2, none⟩ (.slice ao8 (nx0.length + s) cap8)) wo.heap.size ((hN W : Nat) : Int) ((hN H : Nat) : Int) ao8 cap8 nx1 := ⟨hx9, by rw [hnl8]; exact hB9, by rw [hnl8]; exact ho9⟩
                    have HNF := hide hNF
                    have c80 := hB8.three.2.2
                    have f82 := hB8.free 2
                    have HS10 : w8.cell? ⟨w.heap.size, 0, none⟩ = some (.int .i64 I.f) := hI8.six.1
                    have HS11 : (w8.setCell ⟨wo.heap.size, 2, none⟩ (.slice ao8 (nx0.length + s) cap8)).cell? ⟨w.heap.size, 0, none⟩ = some (.int .i64 I.f) := hI9.six.1
                    clear hrm hom hxm hxm2 hNm hIm ho8 hg8 hB8 hI8 hx8 hg9 hB9 hx9 ho9 hI9 hnl8 hNF
                    refine wpAnyH_ready (rs := [6]) (by kernel_rfl) (by simp) (AllReadyH.cons (o := { dst := some 142, op := Op.call { callee := Callee.builtin Builtin.append, args := #[Operand.tmp 137, Operand.tmp 141], argTypes := #[27, 27] }, type := 27, pos := _, after := _, guard := none }) rfl (fun KK hK => ?_) AllReadyH.nil)
                    refine step_run (by rfl) (.tmp 137) (.tmp 141) 27 (by rfl) (by rfl) (by rfl) hrun8 ?_
                    refine hK.out _ _ HS10 (fun _ => ?_)
                    clear hK KK hrun8
                    try simp only [Act.put, List.setIfInBounds_toArray, List.set_cons_zero, List.set_cons_succ]
                    refine wpAnyH_take (i := 7) (oi := { dst := some 143, op := Op.fieldAddr 48 (Operand.tmp 6) 2, type := 0, pos := _, after := _, guard := none }) (v := .pointer (some ⟨wo.heap.size, 2, none⟩)) rfl (by kernel_rfl) (by kernel_rfl) (by kernel_rfl) (fun _ _ _ h => h) (Or.inl ⟨by rfl, fun _ _ => rfl⟩) HS10 ?_
                    simp only [Act.put, List.setIfInBounds_toArray, List.set_cons_zero, List.set_cons_succ]
                    refine wpAnyH_ready (rs := [8]) (by kernel_rfl) (by simp) (AllReadyH.cons (o := { dst := none, op := Op.store 27 (Operand.tmp 143) (Operand.tmp 142), type := 0, pos := _, after := _, guard := none }) rfl (fun KK hK => ?_) AllReadyH.nil)
                    refine Eq.mpr (if_pos (by rfl)) ?_
                    go_simp
                    refine hK.out _ _ HS11 (fun _ => ?_)
                    clear hK KK c80 f82
                    try simp only [Act.put, List.setIfInBounds_toArray, List.set_cons_zero, List.set_cons_succ]
                    refine wpAnyH_done (by kernel_rfl) ?_ _
                    refine NoPanic.normal ?_
                    clear HS10 HS11 cnm
                    go_wp2
                    go_roundw
                    case rel => exact ⟨i + 1, ao8, cap8, by omega, by go_num, by rw [← unhide HNX1]; exact unhide HNF⟩
                    case measure => simp [intOf]; omega
            · obtain rfl : i = hN W := by omega
              have hnl : ¬ ((hN W : Nat) : Int) < ((hN W : Nat) : Int) := by omega
              have HN1 := hide hN1
              clear hN1
              go_wp2
              go_roundw
              case rel => exact ⟨j + 1, no, nc, by omega, by go_num, by rw [Nat.succ_mul]; exact unhide HN1⟩
              case measure => simp [intOf]; omega
        · obtain rfl : j = hN H := by omega
          have hnl : ¬ ((hN H : Nat) : Int) < ((hN H : Nat) : Int) := by omega
          have hN1 := unhide HN1
          rw [Nat.mul_comm (hN H) (hN W)] at hN1
          have hnbl := nb_len (chs8 I.f) s W H bs (hN W * hN H)
          have hIy := (unhide HI).exts hN1.ext
          obtain ⟨q0, q1, q2, q3, q4, q5⟩ := hIy.img.six
          have hx10 := (Ext.refl wr).alloc (.cells #[.int .i64 ((hN W : Nat) : Int), .int .i64 ((hN H : Nat) : Int), .slice no (nb (chs8 I.f) s W H bs (hN W * hN H)).length nc] 48)
          have hI10 := hIy.exts hx10
          have hN10 := hN1.exts hx10
          have h10i := hI10.img
          have HN10 := hide hN10
          have HI10 := hide hI10
          have hDle : D.length ≤ 3518437208780 := by have := hIy.len; omega
          obtain ⟨t0, t1, t2⟩ := hN1.blk.three
          obtain ⟨nbs, hnbs⟩ : ∃ nbs, nbs = nb (chs8 I.f) s W H bs (hN W * hN H) := ⟨_, rfl⟩
          have HNB := hide hnbs
          rw [← hnbs] at HN10 t2
          have q1' := hI10.img.six.2.1
          have hz10 : w4.heap.size ≤ wr.heap.size + 1 := by
            obtain ⟨_, _, _, _, h7, h6⟩ := hIy.lo.blk (by rw [hIy.len]; omega)
            have h5 := (Array.getElem?_eq_some_iff.1 h6).1
            omega
          clear hN1 hIy hI10 hN10 h10i hx10 hnbs hnbl HN1 n0 n1 n2
          go_upto_region 31 with fail
          have hown10 : (wr.alloc (.cells #[.int .i64 ((hN W : Nat) : Int), .int .i64 ((hN H : Nat) : Int), .slice no nbs.length nc] 48)).ownsRow w4.heap.size 48 3 (.slice ao9 D.length cap9) D.length (lcells D) := by
            have := (unhide HI10).lo.own
            rw [← unhide HNB] at this
            exact this
          have HOW := hide hown10
          clear hown10
          go_wp2_with (at_builtin; refine wpList_append_lev rfl (.tmp 147) (.tmp 149) rfl w4.heap.size _ D (((hN W : Nat) : Int), ((hN H : Nat) : Int), .slice no nbs.length nc, nbs) rfl (unhide HOW) wr.heap.size 1 rfl 48 (Blk.new _ _ _) rfl hDle (by simp; exact hz10) ?_)
          intro ao11 cap11 w11 hown11 hg11
          rw [← unhide HNB] at HI10
          have hg11b : (wr.alloc (.cells #[.int .i64 ((hN W : Nat) : Int), .int .i64 ((hN H : Nat) : Int), .slice no nbs.length nc] 48)).grownBy w11 (Value.slice ao9 D.length cap9).ownBlock := hg11
          have hlo10 := (unhide HI10).lo
          have hI10 := unhide HI10
          have hN10 := unhide HN10
          have hsz0 := hI10.bas
          have hob : ∀ r, (Value.slice ao9 D.length cap9).ownBlock = some r → w4.heap.size ≤ r := fun r e => (World.ownsRow.lt hlo10.own r e).1
          have hw4o : w4.heap.size ≤ wo.heap.size := by
            obtain ⟨_, _, _, _, h7, h6⟩ := (unhide HI).lo.blk (by rw [(unhide HI).len]; omega)
            have h5 := (Array.getElem?_eq_some_iff.1 h6).1
            omega
          have hl11 : (D ++ [(((hN W : Nat) : Int), ((hN H : Nat) : Int), Value.slice no nbs.length nc, nbs)]).length = D.length + 1 := by simp
          have hlo11 : LO w11 w4.heap.size (.slice ao11 (D ++ [(((hN W : Nat) : Int), ((hN H : Nat) : Int), Value.slice no nbs.length nc, nbs)]).length cap11) (D ++ [(((hN W : Nat) : Int), ((hN H : Nat) : Int), Value.slice no nbs.length nc, nbs)]) := by
            rw [hl11]
            refine LO.app hlo10 (by rw [hl11]; exact hown11) hg11b (hN10.own.lower hw4o) fun p hp b2 hb2 e => ?_
            have h1 := (((unhide HI).lo.bys p hp).lt b2 hb2).2
            have h2 := (hN10.own.lt b2 e).1
            omega
          have himg11 := hI10.img.by (by decide) hlo10 hg11b
          have hres11 := hI10.res.by (by decide) hlo10 hg11b
          have hx11 : Ext w w11 := hI10.ext.grown hg11b hI10.ext.size (fun r e => by have := hob r e; omega)
          have hlv10 := (unhide HLV).ext (hN10.ext)
          have hlev11 : Blk w11 Bl #[.int .i64 (W : Int), .int .i64 (H : Int), .slice bo bs.length bcap] 48 := (hg11b.block Bl hlv10.lt (fun e => hI10.apart Bl e.symm rfl)).trans hlv10
          have hg12 := grownBy_set w11 w.heap.size 1 (.slice ao11 (D.length + 1) cap11)
          have himg12 : Blk (w11.setCell ⟨w.heap.size, 1, none⟩ (.slice ao11 (D.length + 1) cap11)) w.heap.size #[.int .i64 I.f, .slice ao11 (D.length + 1) cap11, .int .i64 I.ws, .int .i64 I.wt, .int .i64 I.mn, .int .i64 I.mg] 24 := by
            have := himg11.set 1 (.slice ao11 (D.length + 1) cap11)
            simpa using this
          have hres12 := hres11.other (r := w.heap.size) 1 (.slice ao11 (D.length + 1) cap11) (by omega)
          have hblw := hI10.blw
          have hlev12 := hlev11.other (r := w.heap.size) 1 (.slice ao11 (D.length + 1) cap11) (by omega)
          have hlo12 := hlo11.grown himg11 ⟨by decide, by decide⟩ hg12
          have hx12 : Ext w _ := below_grown hx11 hg12 hx11.size (Nat.le_refl _)
          obtain ⟨s0, s1, s2, s3, s4, s5⟩ := himg11.six
          have fs1 := himg11.free 1
          have H12 := hide (And.intro himg12 (And.intro hres12 (And.intro hlo12 hx12)))
          obtain ⟨v0, v1, v2⟩ := hlev12.three
          clear hown11 hg11 hg11b hlo10 hI10 hN10 hob hlo11 himg11 hres11 hx11 hlv10 hlev11 hg12 himg12 hres12 hlo12 hx12 HOW HN10 HI10 q0 q1 q2 q3 q4 q5 q1' t0 t1 t2
          go_upto_region 32 with fail
          generalize w11.setCell ⟨w.heap.size, 1, none⟩ (.slice ao11 (D.length + 1) cap11) = w12 at *
          clear s0 s1 s2 s3 s4 s5 fs1 hlev12
          have hx13 := (Ext.refl w12).alloc (.cells #[.int .i64 (W : Int), .int .i64 (H : Int), .slice bo bs.length bcap] 48)
          have hB13 := Blk.new w12 #[.int .i64 (W : Int), .int .i64 (H : Int), .slice bo bs.length bcap] 48
          obtain ⟨g0, g1, g2⟩ := hB13.three
          obtain ⟨e0, e1, e2, _⟩ := hB13.frees
          have hlo13 := (unhide H12).2.2.1.ext hx13
          have himg13 := (unhide H12).1.ext hx13
          have hres13 := (unhide H12).2.1.ext hx13
          have hx130 := (unhide H12).2.2.2.trans hx13
          obtain ⟨g9, off9, bo99, bcap99, eg9, eb9, c0, c1, c2, hr9⟩ := hlo13.lr.at D.length (by rw [hl11]; omega)
          obtain ⟨g8, cur8, eg8, _, _, _⟩ := hlo13.blk (by rw [hl11]; omega)
          rw [eg9] at eg8
          cases eg8
          subst eg9
          have hlastY : (D ++ [(((hN W : Nat) : Int), ((hN H : Nat) : Int), Value.slice no nbs.length nc, nbs)])[D.length]'(by rw [hl11]; omega) = (((hN W : Nat) : Int), ((hN H : Nat) : Int), Value.slice no nbs.length nc, nbs) := by simp
          have hY1 : ((D ++ [(((hN W : Nat) : Int), ((hN H : Nat) : Int), Value.slice no nbs.length nc, nbs)])[D.length]'(by rw [hl11]; omega)).1 = ((hN W : Nat) : Int) := by rw [hlastY]
          have hY2 : ((D ++ [(((hN W : Nat) : Int), ((hN H : Nat) : Int), Value.slice no nbs.length nc, nbs)])[D.length]'(by rw [hl11]; omega)).2.1 = ((hN H : Nat) : Int) := by rw [hlastY]
          have hY3 : ((D ++ [(((hN W : Nat) : Int), ((hN H : Nat) : Int), Value.slice no nbs.length nc, nbs)])[D.length]'(by rw [hl11]; omega)).2.2.1 = Value.slice no nbs.length nc := by rw [hlastY]
          rw [hY1] at c0
          rw [hY2] at c1
          rw [← eb9, hY3] at c2
          simp only [Nat.zero_add] at c0 c1 c2
          have q1 := himg13.six.2.1
          have hdl : (D.length : Int) < ((D.length + 1 : Nat) : Int) := by omega
          have hd6 : D.length ≤ 10 := by have := (unhide HI).len; omega
          have hx14 := (Ext.refl w12).alloc (.cells #[.int .i64 ((hN W : Nat) : Int), .int .i64 ((hN H : Nat) : Int), .slice no nbs.length nc] 48)
          have hz12 := (unhide H12).2.1.lt
          have himg14 := (unhide H12).1.ext hx14
          have hgl12 : ∀ r, (Value.slice (some ⟨g9, 0, none⟩) (D ++ [(((hN W : Nat) : Int), ((hN H : Nat) : Int), Value.slice no nbs.length nc, nbs)]).length cap11).ownBlock = some r → r ≠ w12.heap.size := fun r e => by
            have := (World.ownsRow.lt (unhide H12).2.2.1.own r e).2
            omega
          have hlo14 := (unhide H12).2.2.1.ext hx14
          have hlk := (unhide HI).len
          have hGF : GnI w (w12.alloc (.cells #[.int .i64 ((hN W : Nat) : Int), .int .i64 ((hN H : Nat) : Int), .slice no nbs.length nc] 48)) w4.heap.size I (chs8 I.f) s l0 (some ⟨g9, 0, none⟩) cap11 (k + 1) (D ++ [(((hN W : Nat) : Int), ((hN H : Nat) : Int), Value.slice no nbs.length nc, nbs)]) (((hN W : Nat) : Int), ((hN H : Nat) : Int), Value.slice no nbs.length nc, nbs) w12.heap.size :=
            ⟨by rw [hl11, hlk], by rw [absL_append, (unhide HI).abs, chn_succ, (unhide HF).2.2.1, unhide HNB]; rfl, hlo14, by rw [hl11]; exact himg14, (unhide H12).2.1.ext hx14, by rw [List.getElem?_append_right (by omega), hlk, Nat.sub_self]; rfl, Blk.new _ _ _, (unhide H12).2.2.2.trans hx14, by omega, hsz0, hgl12⟩
          have HGF := hide hGF
          have HLA : Hid (lenAt (w12.alloc (.cells #[.int .i64 ((hN W : Nat) : Int), .int .i64 ((hN H : Nat) : Int), .slice no nbs.length nc] 48)) w.heap.size = D.length + 1) := lenAt_of himg14.six.2.1
          have HLK := hide hlk
          clear hlo13 himg13 hres13 hx130 hx13 hB13 eb9 hr9 hlastY hY1 hY2 hY3 himg14 hx14 hgl12 hlo14 hGF hl11 hlk
          go_wp2
          go_roundw
          case rel => exact ⟨k + 1, _, _, _, _, _, by omega, rfl, unhide HGF⟩
          case measure =>
            rw [unhide HLA, (unhide HF).2.2.2.2.2.2.2, unhide HLK]
            omega
    · have hkl : k = lg0 := by omega
      subst hkl
      have hI := unhide HI
      have hnW : ¬ 1 < (W : Int) := fun h => hlt (hend.1 (.inl h))
      have hnH : ¬ 1 < (H : Int) := fun h => hlt (hend.1 (.inr h))
      obtain ⟨y0, y1, y2, y3, y4, y5⟩ := hI.img.six
      obtain ⟨r0, r1, r2, r3, r4, r5⟩ := hI.res.six
      obtain ⟨f0, f1, f2, f3, f4, f5⟩ := hI.res.frees
      have hB10 := hI.res.put6 (.int .i64 I.f) (.slice ao9 D.length cap9) (.int .i64 I.ws) (.int .i64 I.wt) (.int .i64 I.mn) (.int .i64 I.mg)
      have hg10 := grown_put6 wr (w.heap.size + 1) (.int .i64 I.f) (.slice ao9 D.length cap9) (.int .i64 I.ws) (.int .i64 I.wt) (.int .i64 I.mn) (.int .i64 I.mg)
      have hlo10 := hI.lo.grown hI.res ⟨by decide, by decide⟩ hg10
      have hx10 : Ext w _ := below_grown hI.ext hg10 hI.ext.size (by omega)
      have hbas := hI.bas
      have H10 := hide (And.intro hB10 (And.intro hlo10 (And.intro hx10 hI.abs)))
      clear hB10 hg10 hlo10 hx10 hend hgk hbk ea g1 g2 g3 hq1 hq2 hxW hxH hnx hox hsh hrow hlv hbs hbl hla hlast hxk hl01 iw1 iw2 hpk hevW hevH hlen hI HF HLV HEV HI
      go_wp2
      obtain ⟨hB10, hlo10, hx10, habs⟩ := unhide H10
      obtain ⟨t0, t1, t2, t3, t4, t5⟩ := hB10.six
      refine bodyPost_ret (v := .tuple #[.agg #[.int .i64 I.f, .slice ao9 D.length cap9, .int .i64 I.ws, .int .i64 I.wt, .int .i64 I.mn, .int .i64 I.mg], .int .i64 0]) (by simp [results, Try.results17, go_sem, t0, t1, t2, t3, t4, t5]) rfl ?_
      refine ⟨ao9, cap9, D, rfl, hlo10.lower (by omega), ?_, hx10⟩
      rw [habs, (unhide HL0).2.1, ← (unhide HL0).1]
end
end Go.Proofs.Ytpjapdifmfpcnaa
