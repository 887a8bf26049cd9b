/-
  All lines: read.
-/
import Derived.Test.YtdcamcpffiilbaaDoorZX
namespace Go.Proofs.YtdcamcpffiilbaaDoor
open Go.RowKit
set_option linter.unusedVariables false
set_option linter.unusedSimpArgs false

/-- Rows that are read while a reader turns. -/
structure RL (w : World) (T : Nat → Prop) (base : Nat) (v : Value) (P : List (Value × List Tok)) : Prop where
  own : w.ownsRow base 23 1 v P.length (P.map (·.1))
  nT : ∀ b, v.ownBlock = some b → ¬ T b
  rows : ∀ p ∈ P, TF T w p.1 p.2
theorem RL.step {w w' : World} {T T' : Nat → Prop} {base : Nat} {v : Value} {P : List (Value × List Tok)} (h : RL w T base v P) (ho : Out T w w') (hw : Wid T T' w) : RL w' T' base v P := by
  refine ⟨ownsKept h.own ho h.nT, fun b hb e => ?_, fun p hp => (h.rows p hp).step ho hw⟩
  rcases (hw b).2 e with h1 | h1
  · exact h.nT b hb h1
  · have := (World.ownsRow.lt h.own b hb).2
    omega
theorem RL.ext {w w' : World} {T : Nat → Prop} {base : Nat} {v : Value} {P : List (Value × List Tok)} (h : RL w T base v P) (hx : Ext w w') : RL w' T base v P := h.step (Out.of_ext hx) (Wid.refl _ _)
theorem RL.at {w : World} {T : Nat → Prop} {base n cap : Nat} {ro : Option Addr} {P : List (Value × List Tok)} (h : RL w T base (.slice ro n cap) P) (i : Nat) (hi : i < P.length) : ∃ g, ro = some ⟨g, 0, none⟩ ∧ w.cell? ⟨g, i, none⟩ = some P[i].1 := by
  rcases h.own.2 with ⟨_, e⟩ | ⟨g, c, cur, e, _⟩
  · omega
  · cases e
    refine ⟨g, rfl, ?_⟩
    have := h.own.cellAt i (by omega)
    rw [this]
    simp [hi]
/-- Lines of tokens out of a text. -/
def LinesOk (Ls : List (List Tok)) : Prop := ∀ l ∈ Ls, l ≠ [] ∧ l.length ≤ 8192 ∧ ∀ t ∈ l, TokOk t
theorem lines_ok : ∀ (X : List Tok), X.length ≤ 8192 → (∀ t ∈ X, TokOk t) → LinesOk (linesP X) ∧ (linesP X).length ≤ X.length ∧ ∀ l ∈ linesP X, l.length ≤ X.length
  | [], _, _ => ⟨(fun l hl => by cases hl), Nat.le_refl _, (fun l hl => by cases hl)⟩
  | t :: X, hl, ht => by
    simp only [List.length_cons] at hl
    obtain ⟨h1, h2, h3⟩ := lines_ok X (by omega) (fun u hu => ht u (by simp [hu]))
    rw [linesP_cons]
    cases hX : linesP X with
    | nil =>
      show LinesOk [[t]] ∧ _ ∧ _
      refine ⟨fun l hl => ?_, by simp [linesC], fun l hl => ?_⟩
      · simp at hl
        subst hl
        exact ⟨by simp, by simp, fun u hu => by simp at hu; rw [hu]; exact ht t (by simp)⟩
      · simp [linesC] at hl
        subst hl
        simp
    | cons r rs =>
      rw [hX] at h1 h2 h3
      have hr := h1 r (by simp)
      by_cases hu : t.line = (hd0 r).line
      · rw [linesC_pos _ hu]
        refine ⟨fun l hl => ?_, by simp at h2 ⊢; omega, fun l hl => ?_⟩
        · simp only [List.mem_cons] at hl
          rcases hl with rfl | hl
          · refine ⟨by simp, by have := h3 r (by simp); simp; omega, fun u hu => ?_⟩
            simp only [List.mem_cons] at hu
            rcases hu with rfl | hu
            · exact ht _ (by simp)
            · exact hr.2.2 u hu
          · exact h1 l (by simp [hl])
        · simp only [List.mem_cons] at hl
          rcases hl with rfl | hl
          · have := h3 r (by simp); simp; omega
          · have := h3 l (by simp [hl]); simp; omega
      · rw [linesC_neg _ hu]
        refine ⟨fun l hl => ?_, by simp at h2 ⊢; omega, fun l hl => ?_⟩
        · simp only [List.mem_cons] at hl
          rcases hl with rfl | hl | hl
          · exact ⟨by simp, by simp, fun u hu => by simp at hu; rw [hu]; exact ht t (by simp)⟩
          · subst hl; exact hr
          · exact h1 l (by simp [hl])
        · simp only [List.mem_cons] at hl
          rcases hl with rfl | hl | hl
          · simp
          · subst hl; have := h3 l (by simp); simp; omega
          · have := h3 l (by simp [hl]); simp; omega
theorem open_len {E : Env} {ps q : List Part} {r : List Tok} {b : Bool} (h : openP E ps r b = some q) : q.length ≤ ps.length + 1 := by
  unfold openP at h
  split at h
  · cases h; simp
  · split at h
    · cases h
    · cases h; simp
theorem turn_len {ps q : List Part} (h : turnP ps = some q) : q.length ≤ ps.length + 1 := by
  unfold turnP at h
  split at h
  · cases h
  · split at h
    · cases h
    · cases h; simp <;> omega
theorem end_len {ps q : List Part} (h : endP ps = some q) : q.length ≤ ps.length + 1 := by
  unfold endP at h
  split at h
  · cases h
  · cases h; simp <;> omega
/-- A directive keeps what is asked of words and parts. -/
theorem obey_ok {E F : Env} {ps q : List Part} {l : List Tok} {first : Bool} (h : obeyP E ps l first = some (F, q)) (hE : EnvOk E) (hl : l.length ≤ 8192) (ht : ∀ t ∈ l, TokOk t) : EnvOk F ∧ q.length ≤ ps.length + 1 := by
  cases l with
  | nil => cases h; exact ⟨hE, by omega⟩
  | cons x r =>
    simp only [List.length_cons] at hl
    unfold obeyP at h
    simp only at h
    split at h
    · rw [Option.map_eq_some_iff] at h
      obtain ⟨p, hp, e⟩ := h
      cases e
      exact ⟨hE, open_len hp⟩
    split at h
    · rw [Option.map_eq_some_iff] at h
      obtain ⟨p, hp, e⟩ := h
      cases e
      exact ⟨hE, open_len hp⟩
    split at h
    · rw [Option.map_eq_some_iff] at h
      obtain ⟨p, hp, e⟩ := h
      cases e
      exact ⟨hE, turn_len hp⟩
    split at h
    · rw [Option.map_eq_some_iff] at h
      obtain ⟨p, hp, e⟩ := h
      cases e
      exact ⟨hE, end_len hp⟩
    split at h
    · cases h
      exact ⟨hE, by omega⟩
    split at h
    · split at h
      · cases h
        exact ⟨hE, by omega⟩
      · cases h
    split at h
    · rw [Option.map_eq_some_iff] at h
      obtain ⟨p, hp, e⟩ := h
      cases e
      refine ⟨?_, by omega⟩
      unfold defineP at hp
      split at hp
      · cases hp
      · split at hp
        · cases hp
        · cases hp
          refine hE.set _ _ ?_ (fun t h2 => ht t ?_)
          · cases r <;> simp at hl ⊢ <;> omega
          · cases r with
            | nil => cases h2
            | cons a b => simp at h2 ⊢; exact .inr (.inr h2)
    split at h
    · rw [Option.map_eq_some_iff] at h
      obtain ⟨p, hp, e⟩ := h
      cases e
      refine ⟨?_, by omega⟩
      unfold undefP at hp
      split at hp
      · cases hp
      · cases hp
        exact hE.del _
    · cases h

/-- What read answers. -/
def ReadQ (w : World) (T : Nat → Prop) (base rb mb : Nat) (R : (List Tok × List Part) × Int × Int) (e : Ending) (w' : World) : Prop :=
  e = .returned (.agg #[.int .i64 R.2.1, .int .i64 R.2.2]) ∧ Out T w w' ∧ (R.2.1 = 0 → ∃ T' n po pc to tc E, RD w' T' base rb mb n po pc to tc E R.1.2 R.1.1)

/-- A Spot's block holds no token. -/
theorem spot_no {w : World} {wb : Nat} {t : TypeId} (h : Blk w wb spotZ t) (i : Nat) (x : ByteArray) : w.cell? ⟨wb, i, none⟩ ≠ some (.string x) := fun e => by
  by_cases h0 : i = 0
  · subst h0
    rw [h.cell (i := 0) (v := .int .i64 0) rfl] at e
    cases e
  · by_cases h1 : i = 1
    · subst h1
      rw [h.cell (i := 1) (v := .int .i64 0) rfl] at e
      cases e
    · have hc := cell_of_row w wb i spotZ t (0, 0) h
      rw [hc] at e
      have : spotZ[i]? = none := Array.getElem?_eq_none (by show 2 ≤ i; omega)
      rw [this] at e
      cases e
theorem TF.beside {w w' : World} {wb : Nat} {T : Nat → Prop} {t : TypeId} {v : Value} {L : List Tok} (h : TF T w v L) (hb : Blk w wb spotZ t) (hg : w.grownBy w' (some wb)) : TF T w' v L := by
  have h1 : TF (fun b => b = wb ∨ T b) w v L := by
    refine ⟨h.1, fun b off n cap e hL hT => ?_⟩
    rcases hT with hT | hT
    · obtain ⟨ao, cap', e', _, _, _, h4⟩ := h.1
      obtain ⟨b', off', e2, c⟩ := h4 0 hL
      rw [e] at e'
      cases e'
      cases e2
      subst hT
      exact spot_no hb _ _ c.text
    · exact h.2 b off n cap e hL hT
  have h2 := h1.out (Out.of_grown (T := fun b => b = wb ∨ T b) hg (fun k e => .inl (by cases e; rfl)))
  exact ⟨h2.1, fun b off n cap e hL hT => h2.2 b off n cap e hL (.inr hT)⟩
/-- What holds line by line. -/
structure RdI (w2 wr : World) (T0 T1 : Nat → Prop) (base base1 rb mb wb : Nat) (rows : Value) (P : List (Value × List Tok)) (n1 : Nat) (po1 : Option Addr) (pc1 : Nat) (to1 : Option Addr) (tc1 : Nat) (E1 : Env) (ps1 : List Part) (tl1 : List Tok) : Prop where
  wid : Wid T0 T1 w2
  out : Out T0 w2 wr
  rd : RD wr T1 base rb mb n1 po1 pc1 to1 tc1 E1 ps1 tl1
  rl : RL wr T1 base1 rows P
  wrong : Blk wr wb spotZ 26
  nwb : ¬ T1 wb
section
variable {w2 wr wx : World} {T0 T1 T2 : Nat → Prop} {base base1 rb mb wb : Nat} {rows : Value} {P : List (Value × List Tok)} {n1 n2 : Nat} {po1 po2 : Option Addr} {pc1 pc2 : Nat} {to1 to2 : Option Addr} {tc1 tc2 : Nat} {E1 E2 : Env} {ps1 ps2 : List Part} {tl1 tl2 : List Tok}
theorem RdI.step (h : RdI w2 wr T0 T1 base base1 rb mb wb rows P n1 po1 pc1 to1 tc1 E1 ps1 tl1) (ho : Out T1 wr wx) (hw : Wid T1 T2 wr) (hr : RD wx T2 base rb mb n2 po2 pc2 to2 tc2 E2 ps2 tl2) : RdI w2 wx T0 T2 base base1 rb mb wb rows P n2 po2 pc2 to2 tc2 E2 ps2 tl2 := by
  refine ⟨h.wid.trans hw h.out.size, h.out.trans ho (fun b hb => (h.wid b).2 hb), hr, h.rl.step ho hw, h.wrong.out ho h.nwb, fun e => ?_⟩
  rcases (hw wb).2 e with h1 | h1
  · exact h.nwb h1
  · have := h.wrong.lt
    omega
/-- T holds but what is there. -/
theorem RdI.cut (h : RdI w2 wr T0 T1 base base1 rb mb wb rows P n1 po1 pc1 to1 tc1 E1 ps1 tl1) : RdI w2 wr T0 (fun b => T1 b ∧ b < wr.heap.size) base base1 rb mb wb rows P n1 po1 pc1 to1 tc1 E1 ps1 tl1 := by
  have hw : Wid T1 (fun b => T1 b ∧ b < wr.heap.size) wr := fun b => ⟨fun hb e => ⟨e, hb⟩, fun e => .inl e.1⟩
  exact h.step (Out.refl _ _) hw (h.rd.wid hw)
theorem RdI.ext (h : RdI w2 wr T0 T1 base base1 rb mb wb rows P n1 po1 pc1 to1 tc1 E1 ps1 tl1) (hx : Ext wr wx) : RdI w2 wx T0 T1 base base1 rb mb wb rows P n1 po1 pc1 to1 tc1 E1 ps1 tl1 := h.step (Out.of_ext hx) (Wid.refl _ _) (h.rd.ext hx)
end

set_option maxHeartbeats 4000000 in
set_option maxRecDepth 100000 in
theorem readL_any {T : Nat → Prop} {base rb mb n : Nat} {po : Option Addr} {pc : Nat} {to : Option Addr} {tc : Nat} {E : Env} {ps : List Part} {tl : List Tok} (W0 w : World) (m : Int) (hS : Std W0 m) (hX0 : Ext W0 w) (hb0 : W0.heap.size ≤ base) (h : RD w T base rb mb n po pc to tc E ps tl) (hn : n ≤ 1000) (hps : ps.length ≤ 1000) (htl : tl.length ≤ 2048) (hE : EnvOk E)
    (X : List Tok) (ao : Option Addr) (ca : Nat) (hX : TR w (.slice ao X.length ca) X) (hXl : X.length ≤ 8192) (hXt : ∀ t ∈ X, TokOk t) :
    Calls Tryd.prog 10 #[.pointer (some ⟨rb, 0, none⟩), .slice ao X.length ca] w (ReadQ w T base rb mb (readP true E ps tl (linesP X))) := by
  obtain ⟨hLok, hLlen, _⟩ := lines_ok X hXl hXt
  have HLok := hide hLok
  have HSTD := hide hS
  have HX0 := hide hX0
  have H := hide h
  have HE := hide hE
  have hbase := h.high
  obtain ⟨w1, hw1⟩ : ∃ w1, w1 = w.alloc (.cells spotZ 26) := ⟨_, rfl⟩
  obtain ⟨wb, hwb⟩ : ∃ wb, wb = w.heap.size := ⟨_, rfl⟩
  have X1 : Hid (Ext w w1) := by rw [hw1]; exact (Ext.refl w).alloc _
  have HB1 : Hid (Blk w1 wb spotZ 26) := by rw [hw1, hwb]; exact Blk.new _ _ _
  have HLN := hide (lines_any X ao ca w1 (hX.ext (unhide X1)) (by omega))
  have hw1s : w1.heap.size = wb + 1 := by rw [hw1, hwb, World.size_alloc]
  have HWB := hide hwb
  have HW1S := hide hw1s
  obtain ⟨R, hR⟩ : ∃ R, R = readP true E ps tl (linesP X) := ⟨_, rfl⟩
  rw [← hR]
  have HR := hide hR
  clear hLok hS hX0 h hE hX hwb hw1s hR hXt
  go_enter Tryd.func10, Tryd.ntmps10
  go_wp2_with fail
  rw [show (w.alloc (.cells #[.int .i64 0, .int .i64 0] 26)) = w1 from hw1.symm, show w.heap.size = wb from (unhide HWB).symm]
  clear hw1
  go_step3
  go_wp2_with fail
  go_step3
  go_wp2_with fail
  refine (unhide HLN).mono ?_
  rintro e w2 ⟨ro, rc, P, rfl, hLR, hPm, hx2⟩
  have hPl : P.length ≤ 8192 := by
    have := congrArg List.length hPm
    rw [List.length_map] at this
    omega
  have HI0 : Hid (RdI w2 w2 (fun b => T b ∧ b < w.heap.size) (fun b => T b ∧ b < w.heap.size) base w1.heap.size rb mb wb (.slice ro P.length rc) P n po pc to tc E ps tl) := by
    have hw : Wid T (fun b => T b ∧ b < w.heap.size) w := fun b => ⟨fun hb e => ⟨e, hb⟩, fun e => .inl e.1⟩
    refine ⟨Wid.refl _ _, Out.refl _ _, (((unhide H).wid hw).ext (unhide X1)).ext hx2, ⟨hLR.1, fun b hb e => ?_, fun p hp => ⟨(hLR.2 p hp).1, fun b off n' cap e hL hT => ?_⟩⟩, (unhide HB1).ext hx2, fun e => ?_⟩
    · have h1 := (World.ownsRow.lt hLR.1 b hb).1
      have h2 := unhide HW1S
      have h3 := unhide HWB
      have h4 := e.2
      omega
    · have h1 := (hLR.2 p hp).2 b (by rw [e]; rfl)
      have h2 := unhide HW1S
      have h3 := unhide HWB
      have h4 := hT.2
      omega
    · have h3 := unhide HWB
      have h4 := e.2
      omega
  have HPOK : Hid (∀ p ∈ P, p.2 ≠ [] ∧ p.2.length ≤ 8192 ∧ ∀ t ∈ p.2, TokOk t) := fun p hp => unhide HLok p.2 (by rw [← hPm]; exact List.mem_map_of_mem hp)
  have HRP : Hid (R = readP (decide (0 = 0)) E ps tl ((P.drop 0).map (·.2))) := by
    show R = _
    rw [unhide HR, List.drop_zero, hPm]
    rfl
  have HO2 : Hid (∀ wx, Out (fun b => T b ∧ b < w.heap.size) w2 wx → Out T w wx) := fun wx ho => ((Out.of_ext ((unhide X1).trans hx2)).trans (ho.wide (T' := T) (fun k e => e.1)) (fun b hb => .inl hb))
  have HX2 : Hid (Ext W0 w2) := ((unhide HX0).trans (unhide X1)).trans hx2
  clear hLR hPm hx2 HLN HLok HR HX0 HB1 X1
  obtain ⟨T0, hT0⟩ : ∃ T0, T0 = (fun b => T b ∧ b < w.heap.size) := ⟨_, rfl⟩
  rw [← hT0] at HI0 HO2
  have HLOW : Hid (∀ b, T0 b → W0.heap.size ≤ b) := fun b e => by
    rw [hT0] at e
    exact Nat.le_trans hb0 ((unhide H).low b e.1)
  clear hT0
  have HFIN : Hid (∀ (wx : World) (a c : Value), Out T w wx → Out T w ((wx.setCell ⟨wb, 0, none⟩ a).setCell ⟨wb, 1, none⟩ c)) := fun wx a c ho => by
    refine ho.trans (Out.of_grown (T := fun q => q = wb) ((grownBy_set wx wb 0 a).trans (grownBy_set _ wb 1 c)) (fun k e => by cases e; rfl)) (fun q hq => .inr ?_)
    have := unhide HWB
    omega
  go_wp2
  go_loopw [12] (fun jv wr => ∃ (j : Nat) (T1 : Nat → Prop) (n1 : Nat) (po1 : Option Addr) (pc1 : Nat) (to1 : Option Addr) (tc1 : Nat) (E1 : Env) (ps1 : List Part) (tl1 : List Tok), j ≤ P.length ∧ jv = .int .i64 (j : Int) ∧ RdI w2 wr T0 T1 base w1.heap.size rb mb wb (.slice ro P.length rc) P n1 po1 pc1 to1 tc1 E1 ps1 tl1 ∧ EnvOk E1 ∧ n1 ≤ n + 2 * j ∧ ps1.length ≤ ps.length + j ∧ tl1.length ≤ 2048 ∧ R = readP (decide (j = 0)) E1 ps1 tl1 ((P.drop j).map (·.2))) (fun jv _ => P.length - (intOf jv).toNat)
  case atStart => exact ⟨0, T0, n, po, pc, to, tc, E, ps, tl, by omega, rfl, unhide HI0, unhide HE, by omega, by omega, htl, unhide HRP⟩
  case round =>
    obtain ⟨j, T1', n1, po1, pc1, to1, tc1, E1, ps1, tl1, hj, rfl, hI1', hE1, hn1, hps1, htl1, hR1⟩ := hrel
    obtain ⟨T1, hT1⟩ : ∃ T1, T1 = (fun b => T1' b ∧ b < wr.heap.size) := ⟨_, rfl⟩
    have HI1 : Hid (RdI w2 wr T0 T1 base w1.heap.size rb mb wb (.slice ro P.length rc) P n1 po1 pc1 to1 tc1 E1 ps1 tl1) := by rw [hT1]; exact hI1'.cut
    have HUP : Hid (∀ q, T1 q → q < wr.heap.size) := fun q e => by rw [hT1] at e; exact e.2
    have HR1 := hide hR1
    have HE1 := hide hE1
    clear hT1 hI1' hR1 hE1 HI0 HRP
    have XR : Hid (Ext W0 wr) := (unhide HI1).out.ext0 (unhide HX2) (unhide HLOW)
    by_cases hlt : j < P.length
    · obtain ⟨hne, hll, hlt2⟩ := unhide HPOK P[j] (List.getElem_mem hlt)
      obtain ⟨g0, hg0, cv⟩ := (unhide HI1).rl.at j hlt
      subst hg0
      have htf := (unhide HI1).rl.rows P[j] (List.getElem_mem hlt)
      have HRJ : Hid (R = readP (decide (j = 0)) E1 ps1 tl1 (P[j].2 :: (P.drop (j + 1)).map (·.2))) := by
        show R = _
        rw [unhide HR1, List.drop_eq_getElem_cons hlt]
        rfl
      obtain ⟨⟨v, l⟩, hpj⟩ : ∃ p, P[j] = p := ⟨_, rfl⟩
      rw [hpj] at hne hll hlt2 cv htf HRJ
      simp only at hne hll hlt2 cv htf HRJ
      obtain ⟨t0, ts, hl0⟩ : ∃ t0 ts, l = t0 :: ts := by
        cases l with
        | nil => exact absurd rfl hne
        | cons a b => exact ⟨a, b, rfl⟩
      have hlpos : 0 < l.length := by rw [hl0]; simp
      have HTF0 := hide htf
      obtain ⟨lo, lc, hv, _, hlc, hlm, hat⟩ := htf.1
      obtain ⟨b, off, hlo, hc0⟩ := hat 0 hlpos
      have hl00 : l[0] = t0 := by simp [hl0]
      rw [Nat.zero_mul, Nat.add_zero, hl00] at hc0
      subst hlo
      subst hv
      have HNB : Hid (¬ T1 b) := htf.2 b off _ _ rfl hlpos
      have HC4 := hide hc0.line
      have ok0 : TokOk t0 := hlt2 t0 (by rw [hl0]; simp)
      obtain ⟨hk1, hk2, hk3, hk4, hk5⟩ := ok0
      have HLT := hide hlt2
      have HRD1 := hide (unhide HI1).rd
      have HSD : Hid (Std wr.drew m) := (unhide HSTD).ext (unhide XR).drew
      obtain ⟨rest, hrest⟩ : ∃ rest, rest = (P.drop (j + 1)).map (·.2) := ⟨_, rfl⟩
      rw [← hrest] at HRJ
      have HREST := hide hrest
      have HL0 := hide hl0
      clear hpj hne htf hat hc0 hl00 hlt2 hrest hl0 HR1
      have hlm2 : lc ≤ 9223372036854775807 := by unfold maxLen at hlm; omega
      have i0 : (0 : Int) ≤ 0 ∧ (0 : Int) < (l.length : Int) := ⟨by omega, by omega⟩
      go_wp2
      clear cv
      refine wp_region_noPanic ?_
      refine wp_region_held_drew (S := fun wx => Blk wx rb #[.map (some mb), .slice po1 ps1.length pc1, .slice to1 tl1.length tc1] 40 ∧ wx.cell? ⟨b, off + 4, none⟩ = some (.int .i64 t0.line)) (by kernel_rfl) ⟨(unhide HRD1).blk, unhide HC4⟩ (fun HS => ?_)
      refine wpAnyH_take (i := 0) (oi := { dst := some 17, op := Op.move (Operand.tmp 0), type := _, pos := _, after := _, guard := none }) (v := .pointer (some ⟨rb, 0, none⟩)) rfl (by kernel_rfl) (by kernel_rfl) (by kernel_rfl) (fun _ _ _ h => h) (Or.inl ⟨by rfl, fun wx hx => by go_simp⟩) HS ?_
      simp only [Act.put, List.setIfInBounds_toArray, List.set_cons_zero, List.set_cons_succ]
      refine wpAnyH_take (i := 1) (oi := { dst := some 18, op := Op.nilCheck (Operand.tmp 17), type := _, pos := _, after := _, guard := none }) (v := .pointer (some ⟨rb, 0, none⟩)) rfl (by kernel_rfl) (by kernel_rfl) (by kernel_rfl) (fun _ _ _ h => h) (Or.inl ⟨by rfl, fun wx hx => by go_simp⟩) HS ?_
      simp only [Act.put, List.setIfInBounds_toArray, List.set_cons_zero, List.set_cons_succ]
      refine wpAnyH_take (i := 2) (oi := { dst := some 19, op := Op.fieldAddr 40 (Operand.tmp 18) 0, type := _, pos := _, after := _, guard := none }) (v := .pointer (some ⟨rb, 0, none⟩)) rfl (by kernel_rfl) (by kernel_rfl) (by kernel_rfl) (fun _ _ _ h => h) (Or.inl ⟨by rfl, fun wx hx => by go_simp⟩) HS ?_
      simp only [Act.put, List.setIfInBounds_toArray, List.set_cons_zero, List.set_cons_succ]
      refine wpAnyH_take (i := 3) (oi := { dst := some 20, op := Op.load 37 (Operand.tmp 19), type := _, pos := _, after := _, guard := none }) (v := .map (some mb)) rfl (by kernel_rfl) (by kernel_rfl) (by kernel_rfl) (fun _ _ _ h => h) (Or.inl ⟨by rfl, fun wx hx => by have c0 := hx.1.cell (i := 0) (v := .map (some mb)) rfl; go_simp⟩) HS ?_
      simp only [Act.put, List.setIfInBounds_toArray, List.set_cons_zero, List.set_cons_succ]
      refine wpAnyH_take (i := 4) (oi := { dst := some 21, op := Op.move (Operand.tmp 6), type := _, pos := _, after := _, guard := none }) (v := .slice (some ⟨b, off, none⟩) l.length lc) rfl (by kernel_rfl) (by kernel_rfl) (by kernel_rfl) (fun _ _ _ h => h) (Or.inl ⟨by rfl, fun wx hx => by go_simp⟩) HS ?_
      simp only [Act.put, List.setIfInBounds_toArray, List.set_cons_zero, List.set_cons_succ]
      refine wpAnyH_take (i := 5) (oi := { dst := some 22, op := Op.indexAddr 23 (Operand.tmp 21) (Operand.const (Value.int IntKind.i64 0)), type := _, pos := _, after := _, guard := none }) (v := .pointer (some ⟨b, off, none⟩)) rfl (by kernel_rfl) (by kernel_rfl) (by kernel_rfl) (fun _ _ _ h => h) (Or.inl ⟨by rfl, fun wx hx => by go_simp⟩) HS ?_
      simp only [Act.put, List.setIfInBounds_toArray, List.set_cons_zero, List.set_cons_succ]
      refine wpAnyH_take (i := 6) (oi := { dst := some 23, op := Op.fieldAddr 33 (Operand.tmp 22) 4, type := _, pos := _, after := _, guard := none }) (v := .pointer (some ⟨b, off + 4, none⟩)) rfl (by kernel_rfl) (by kernel_rfl) (by kernel_rfl) (fun _ _ _ h => h) (Or.inl ⟨by rfl, fun wx hx => by go_simp⟩) HS ?_
      simp only [Act.put, List.setIfInBounds_toArray, List.set_cons_zero, List.set_cons_succ]
      refine wpAnyH_take (i := 7) (oi := { dst := some 24, op := Op.load 3 (Operand.tmp 23), type := _, pos := _, after := _, guard := none }) (v := .int .i64 t0.line) rfl (by kernel_rfl) (by kernel_rfl) (by kernel_rfl) (fun _ _ _ h => h) (Or.inl ⟨by rfl, fun wx hx => by have c0 := hx.2; go_simp⟩) HS ?_
      simp only [Act.put, List.setIfInBounds_toArray, List.set_cons_zero, List.set_cons_succ]
      refine wpAnyH_take (i := 8) (oi := { dst := some 25, op := Op.binOp BinOp.add 3 (Operand.tmp 24) (Operand.const (Value.int IntKind.i64 1)) 3, type := _, pos := _, after := _, guard := none }) (v := .int .i64 (t0.line + 1)) rfl (by kernel_rfl) (by kernel_rfl) (by kernel_rfl) (fun _ _ _ h => h) (Or.inl ⟨by rfl, fun wx hx => by go_simp; exact wrapIdX (by omega) (by omega)⟩) HS ?_
      simp only [Act.put, List.setIfInBounds_toArray, List.set_cons_zero, List.set_cons_succ]
      refine wpAnyH_ready (rs := [9]) (by kernel_rfl) (by simp) (AllReadyH.cons (o := { dst := some 26, op := Op.call { callee := Callee.value (Operand.func 19), args := #[Operand.tmp 25], argTypes := #[3] }, type := _, pos := _, after := _, guard := none }) rfl (fun KK hK => ?_) AllReadyH.nil)
      go_simp
      refine (whole_any (t0.line + 1) wr.drew m (by omega) (by omega) (unhide HSD)).mono ?_
      rintro e w5 ⟨ao5, cap5, rfl, hO5, hx5⟩
      obtain ⟨WL, hWL⟩ : ∃ WL, WL = wholeL (t0.line + 1) := ⟨_, rfl⟩
      rw [← hWL] at hO5 ⊢
      have HWL := hide hWL
      clear hWL
      have HS2 := And.intro (HS.1.ext hx5) ((hx5.cell (p := ⟨b, off + 4, none⟩) (World.block_lt_of_cell? _ _ HS.2)).trans HS.2)
      clear HS
      have HS := HS2
      clear HS2
      refine hK.out _ _ HS (fun _ => ?_)
      clear hK KK
      try simp only [Act.put, List.setIfInBounds_toArray, List.set_cons_zero, List.set_cons_succ]
      have hTF5 : TF T1 w5 (.slice ao5 WL.length cap5) WL := TF.of_TO hO5 (fun q hq e => by have := unhide HUP q e; have h2 : wr.heap.size ≤ q := hq; omega)
      obtain ⟨w6, hput, hrd6, hg6⟩ := (((unhide HRD1).ext (Ext.refl wr).drew).ext hx5).putE wLine (by decide) (by unfold maxLen; omega) _ WL hTF5
      rw [show (⟨wLine.toArray⟩ : ByteArray) = ⟨#[95, 95, 76, 73, 78, 69, 95, 95]⟩ from rfl] at hput
      have ho6 : Out T1 wr w6 := (Out.of_ext ((Ext.refl wr).drew.trans hx5)).trans (Out.of_grown (T := T1) hg6 (fun k e => by cases e; exact (unhide HRD1).tmb)) (fun q hq => .inl hq)
      have HPUT := hide hput
      have HRD6 := hide hrd6
      have HO6 := hide ho6
      have HG6 := hide hg6
      clear hput hrd6 ho6 hg6 hTF5 hO5 hx5
      refine wpAnyH_ready (rs := [10]) (by kernel_rfl) (by simp) (AllReadyH.cons (o := { dst := none, op := Op.mapUpdate 37 (Operand.tmp 20) (Operand.const (Value.string { data := #[95, 95, 76, 73, 78, 69, 95, 95] })) (Operand.tmp 26), type := _, pos := _, after := _, guard := none }) rfl (fun KK hK => ?_) AllReadyH.nil)
      refine Eq.mpr (if_pos (by rfl)) ?_
      have hput := unhide HPUT
      go_simp
      clear hput
      refine hK.out _ _ ⟨HS.1.grown (unhide HG6) (unhide HRD1).ne, ?_⟩ (fun _ => ?_)
      · have h1 := (unhide HG6).block b (World.block_lt_of_cell? _ _ HS.2) (fun e => by cases e; exact unhide HNB (unhide HRD1).tmb)
        have h2 := HS.2
        unfold World.cell? at h2 ⊢
        simp only at h1 h2 ⊢
        rw [h1]
        exact h2
      clear hK KK
      try simp only [Act.put, List.setIfInBounds_toArray, List.set_cons_zero, List.set_cons_succ]
      refine wpAnyH_done (by kernel_rfl) ?_ _
      refine NoPanic.normal ?_
      obtain ⟨E6, hE6⟩ : ∃ E6, E6 = setE E1 wLine (some WL) := ⟨_, rfl⟩
      rw [← hE6] at HRD6
      have HEK6 : Hid (EnvOk E6) := by rw [hE6, unhide HWL]; exact (unhide HE1).whole _ _
      have HR6 : Hid (R = if t0.text = [35] then (match obeyP E6 ps1 ts (decide (j = 0)) with | none => (([], []), 210, t0.place) | some (E2, ps2) => readP false E2 ps2 tl1 rest) else if countsP ps1 = false then readP false E6 ps1 tl1 rest else if (lineP E6 tl1 l).2.1 ≠ 0 then (([], []), (lineP E6 tl1 l).2) else readP false E6 ps1 (lineP E6 tl1 l).1 rest) := by
        show R = _
        rw [unhide HRJ, hE6, unhide HWL, unhide HL0]
        rfl
      have HI6 : Hid (RdI w2 w6 T0 T1 base w1.heap.size rb mb wb (.slice (some ⟨g0, 0, none⟩) P.length rc) P (n1 + 1) po1 pc1 to1 tc1 E6 ps1 tl1) := (unhide HI1).step (unhide HO6) (Wid.refl _ _) (unhide HRD6)
      have HTF6 := hide ((unhide HTF0).out (unhide HO6))
      have XR6 : Hid (Ext W0 w6) := (unhide HI6).out.ext0 (unhide HX2) (unhide HLOW)
      have HSD6 := hide ((unhide HSTD).ext (unhide XR6))
      have hupd : wr.heap.size ≤ w6.heap.size := (unhide HO6).size
      have HAT : Hid (∀ wx, Out T1 w6 wx → TokAt wx b off t0) := fun wx ho => by
        obtain ⟨b', off', e, hc⟩ := ((unhide HTF6).out ho).1.at 0 hlpos
        cases e
        have e2 : l[0] = t0 := by simp [unhide HL0]
        rw [e2] at hc
        simpa using hc
      have c1 := (unhide HAT w6 (Out.refl _ _)).text
      clear hE6 HRJ HWL HE1 HRD1 HI1 HTF0 HC4 HSD HO6 HG6 HPUT HRD6 XR HUP
      by_cases ht35 : t0.text = [35]
      · have HR7 : Hid (R = match obeyP E6 ps1 ts (decide (j = 0)) with | none => (([], []), 210, t0.place) | some (E2, ps2) => readP false E2 ps2 tl1 rest) := by
          show R = _
          rw [unhide HR6, if_pos ht35]
        rw [ht35] at c1
        have hts : l.length - 1 = ts.length := by rw [unhide HL0]; simp
        have HTS := hide hts
        have hft : ((j : Int) == 0) = decide (j = 0) := by
          by_cases h0 : j = 0
          · rw [h0]; rfl
          · rw [beq_eq_false_iff_ne.2 (show (j : Int) ≠ 0 by omega), decide_eq_false h0]
        have HFT := hide hft
        have HTT0 : Hid (TF T1 w6 (.slice (if lc = 1 then some ⟨b, off, none⟩ else some ⟨b, off + 5, none⟩) ts.length (lc - 1)) ts) := by
          have := unhide HTF6
          rw [unhide HL0] at this
          exact this.tail1
        have HTX : Hid (∀ t ∈ ts, t.text.length ≤ 1000000) := fun t ht => by have := (unhide HLT t (by rw [unhide HL0]; simp [ht])).1; omega
        have i1 : (1 : Int) ≤ (l.length : Int) := by omega
        clear hts hft ht35
        by_cases hlc1 : lc = 1
        · subst hlc1
          have hts0 : ts = [] := List.length_eq_zero_iff.1 (by have := unhide HTS; omega)
          subst hts0
          have HTT : Hid (TF T1 w6 (.slice (some ⟨b, off, none⟩) 0 0) []) := by
            have := unhide HTT0
            rw [if_pos rfl] at this
            exact this
          have HOB := hide (obey_any w6 (unhide HI6).rd (by omega) (by omega) [] (some ⟨b, off, none⟩) (0) (unhide HTT) (unhide HTX) m (unhide HSD6) ((j : Int) == 0))
          go_wp2_with fail
          refine (unhide HOB).mono ?_
          rintro e w7 hd
          have HD := hide hd
          clear hd HOB i0 i1 c1
          rw [unhide HFT] at HD
          have HATT := hide (unhide HAT w7 (unhide HD).1)
          have HWR := hide ((unhide HI6).wrong.out (unhide HD).1 (unhide HI6).nwb)
          have HI7o : Hid (Out T0 w2 w7) := (unhide HI6).out.trans (unhide HD).1 (fun q hq => ((unhide HI6).wid q).2 hq)
          cases hq : obeyP E6 ps1 [] (decide (j = 0)) with
          | none =>
            have hRR : R = (([], []), 210, t0.place) := by rw [unhide HR7, hq]
            rw [hq] at HD
            obtain rfl := (unhide HD).value
            subst hRR
            have p3 := (unhide HATT).place
            have c0 := (unhide HWR).cell (i := 0) (v := .int .i64 0) rfl
            have c1 := (unhide HWR).cell (i := 1) (v := .int .i64 0) rfl
            have fz := fun i => (unhide HWR).free i
            have B2 := (((((unhide HWR).set 0 (.int .i64 210)).set 1 (.int .i64 t0.place)).set 0 (.int .i64 210)).set 1 (.int .i64 t0.place))
            have R0 := hide (B2.cell (i := 0) (v := .int .i64 210) rfl)
            have R1 := hide (B2.cell (i := 1) (v := .int .i64 t0.place) rfl)
            have HB2 := hide B2
            clear hq HR7 HR6 B2
            go_wp2
            rw [Exit.noGoto_ret]
            refine bodyPost_ret (v := .agg #[.int .i64 210, .int .i64 t0.place]) (by have r0 := unhide R0; have r1 := unhide R1; simp [results, Tryd.results10, go_sem, r0, r1]) rfl ⟨rfl, unhide HFIN _ _ _ (unhide HFIN _ _ _ (unhide HO2 _ (unhide HI7o))), fun e => absurd e (show ¬ (210 : Int) = 0 by decide)⟩
          | some q =>
            obtain ⟨E2, ps2⟩ := q
            have HRR : Hid (R = readP (decide (j + 1 = 0)) E2 ps2 tl1 ((P.drop (j + 1)).map (·.2))) := by
              show R = _
              rw [unhide HR7, hq, unhide HREST]
              rfl
            obtain ⟨hE2, hp2⟩ := obey_ok hq (unhide HEK6) (by have := unhide HTS; omega) (fun t ht => unhide HLT t (by rw [unhide HL0]; simp [ht]))
            rw [hq] at HD
            have HE2 := hide hE2
            obtain ⟨he, T2, po2, pc2, hw2, hr2⟩ := (unhide HD).2
            subst he
            have HI7 : Hid (RdI w2 w7 T0 T2 base w1.heap.size rb mb wb (.slice (some ⟨g0, 0, none⟩) P.length rc) P (n1 + 1 + 1) po2 pc2 to1 tc1 E2 ps2 tl1) := (unhide HI6).step (unhide HD).1 hw2 hr2
            clear hq hw2 hr2 hE2 HR7 HR6
            go_wp2
            refine ⟨⟨j + 1, T2, n1 + 1 + 1, po2, pc2, to1, tc1, E2, ps2, tl1, by omega, by push_cast; rfl, unhide HI7, unhide HE2, by omega, by omega, htl1, unhide HRR⟩, ?_⟩
            simp [intOf]
            omega
        · have HTT : Hid (TF T1 w6 (.slice (some ⟨b, off + 5, none⟩) ts.length (lc - 1)) ts) := by
            have := unhide HTT0
            rw [if_neg hlc1] at this
            exact this
          have HOB := hide (obey_any w6 (unhide HI6).rd (by omega) (by omega) ts (some ⟨b, off + 5, none⟩) (lc - 1) (unhide HTT) (unhide HTX) m (unhide HSD6) ((j : Int) == 0))
          go_wp2_with fail
          rw [unhide HTS]
          refine (unhide HOB).mono ?_
          rintro e w7 hd
          have HD := hide hd
          clear hd HOB i0 i1 c1
          rw [unhide HFT] at HD
          have HATT := hide (unhide HAT w7 (unhide HD).1)
          have HWR := hide ((unhide HI6).wrong.out (unhide HD).1 (unhide HI6).nwb)
          have HI7o : Hid (Out T0 w2 w7) := (unhide HI6).out.trans (unhide HD).1 (fun q hq => ((unhide HI6).wid q).2 hq)
          cases hq : obeyP E6 ps1 ts (decide (j = 0)) with
          | none =>
            have hRR : R = (([], []), 210, t0.place) := by rw [unhide HR7, hq]
            rw [hq] at HD
            obtain rfl := (unhide HD).value
            subst hRR
            have p3 := (unhide HATT).place
            have c0 := (unhide HWR).cell (i := 0) (v := .int .i64 0) rfl
            have c1 := (unhide HWR).cell (i := 1) (v := .int .i64 0) rfl
            have fz := fun i => (unhide HWR).free i
            have B2 := (((((unhide HWR).set 0 (.int .i64 210)).set 1 (.int .i64 t0.place)).set 0 (.int .i64 210)).set 1 (.int .i64 t0.place))
            have R0 := hide (B2.cell (i := 0) (v := .int .i64 210) rfl)
            have R1 := hide (B2.cell (i := 1) (v := .int .i64 t0.place) rfl)
            have HB2 := hide B2
            clear hq HR7 HR6 B2
            go_wp2
            rw [Exit.noGoto_ret]
            refine bodyPost_ret (v := .agg #[.int .i64 210, .int .i64 t0.place]) (by have r0 := unhide R0; have r1 := unhide R1; simp [results, Tryd.results10, go_sem, r0, r1]) rfl ⟨rfl, unhide HFIN _ _ _ (unhide HFIN _ _ _ (unhide HO2 _ (unhide HI7o))), fun e => absurd e (show ¬ (210 : Int) = 0 by decide)⟩
          | some q =>
            obtain ⟨E2, ps2⟩ := q
            have HRR : Hid (R = readP (decide (j + 1 = 0)) E2 ps2 tl1 ((P.drop (j + 1)).map (·.2))) := by
              show R = _
              rw [unhide HR7, hq, unhide HREST]
              rfl
            obtain ⟨hE2, hp2⟩ := obey_ok hq (unhide HEK6) (by have := unhide HTS; omega) (fun t ht => unhide HLT t (by rw [unhide HL0]; simp [ht]))
            rw [hq] at HD
            have HE2 := hide hE2
            obtain ⟨he, T2, po2, pc2, hw2, hr2⟩ := (unhide HD).2
            subst he
            have HI7 : Hid (RdI w2 w7 T0 T2 base w1.heap.size rb mb wb (.slice (some ⟨g0, 0, none⟩) P.length rc) P (n1 + 1 + 1) po2 pc2 to1 tc1 E2 ps2 tl1) := (unhide HI6).step (unhide HD).1 hw2 hr2
            clear hq hw2 hr2 hE2 HR7 HR6
            go_wp2
            refine ⟨⟨j + 1, T2, n1 + 1 + 1, po2, pc2, to1, tc1, E2, ps2, tl1, by omega, by push_cast; rfl, unhide HI7, unhide HE2, by omega, by omega, htl1, unhide HRR⟩, ?_⟩
            simp [intOf]
            omega
      · have f35 : (t0.text == [35]) = false := beq_eq_false_iff_ne.2 ht35
        have HR7 : Hid (R = if countsP ps1 = false then readP false E6 ps1 tl1 rest else if (lineP E6 tl1 l).2.1 ≠ 0 then (([], []), (lineP E6 tl1 l).2) else readP false E6 ps1 (lineP E6 tl1 l).1 rest) := by
          show R = _
          rw [unhide HR6, if_neg ht35]
        clear ht35 HR6
        have HC := hide (counts_any w6 (unhide HI6).rd (by omega))
        cases hc : countsP ps1 with
        | false =>
          rw [hc] at HC
          have HRR : Hid (R = readP (decide (j + 1 = 0)) E6 ps1 tl1 ((P.drop (j + 1)).map (·.2))) := by
            show R = _
            rw [unhide HR7, if_pos hc, unhide HREST]
            rfl
          clear hc HR7
          go_wp2_with fail
          refine (unhide HC).mono ?_
          rintro e w7 ⟨rfl, k7, rfl⟩
          have HI7 := hide ((unhide HI6).ext ((Ext.refl w6).drewN k7))
          go_wp2
          refine ⟨⟨j + 1, T1, n1 + 1, po1, pc1, to1, tc1, E6, ps1, tl1, by omega, by push_cast; rfl, unhide HI7, unhide HEK6, by omega, by omega, htl1, unhide HRR⟩, ?_⟩
          simp [intOf]
          omega
        | true =>
          rw [hc] at HC
          have HR8 : Hid (R = if (lineP E6 tl1 l).2.1 ≠ 0 then (([], []), (lineP E6 tl1 l).2) else readP false E6 ps1 (lineP E6 tl1 l).1 rest) := by
            show R = _
            rw [unhide HR7, if_neg (by rw [hc]; decide)]
          clear hc HR7
          go_wp2_with fail
          refine (unhide HC).mono ?_
          rintro e w7 ⟨rfl, k7, rfl⟩
          obtain ⟨w7, hw7⟩ : ∃ w7, w7 = w6.drewN k7 := ⟨_, rfl⟩
          have HI7 : Hid (RdI w2 w7 T0 T1 base w1.heap.size rb mb wb (.slice (some ⟨g0, 0, none⟩) P.length rc) P (n1 + 1) po1 pc1 to1 tc1 E6 ps1 tl1) := by rw [hw7]; exact (unhide HI6).ext ((Ext.refl w6).drewN k7)
          have HTF7 : Hid (TF T1 w7 (.slice (some ⟨b, off, none⟩) l.length lc) l) := by rw [hw7]; exact (unhide HTF6).ext ((Ext.refl w6).drewN k7)
          rw [← hw7]
          clear hw7 HC c1 f35 HI6 HTF6 HAT HSD6 XR6 i0
          have hEt : ∀ k L, E6 k = some L → ∀ t ∈ L, t.text.length ≤ 1000000 := fun k L e t ht => by have := ((unhide HEK6 k L e).2 t ht).1; omega
          have hEl : ∀ k L, E6 k = some L → L.length ≤ 1000000 := fun k L e => by have := (unhide HEK6 k L e).1; omega
          have HET := hide hEt
          have HEL := hide hEl
          clear hEt hEl
          go_wp2
          go_loopw [49] (fun iv wq => ∃ (i : Nat) (T2 : Nat → Prop) (to2 : Option Addr) (tc2 : Nat) (tl2 : List Tok), i ≤ l.length ∧ iv = .int .i64 (i : Int) ∧ RdI w2 wq T0 T2 base w1.heap.size rb mb wb (.slice (some ⟨g0, 0, none⟩) P.length rc) P (n1 + 1) po1 pc1 to2 tc2 E6 ps1 tl2 ∧ TF T2 wq (.slice (some ⟨b, off, none⟩) l.length lc) l ∧ tl2.length ≤ 2048 ∧ lineP E6 tl1 l = lineP E6 tl2 (l.drop i)) (fun iv _ => l.length - (intOf iv).toNat)
          case atStart => exact ⟨0, T1, to1, tc1, tl1, by omega, rfl, unhide HI7, unhide HTF7, htl1, by rw [List.drop_zero]⟩
          case round =>
            obtain ⟨i, T2', to2, tc2, tl2, hi, rfl, hI2', htf2', htl2, hln2⟩ := hrel
            obtain ⟨T2, hT2⟩ : ∃ T2, T2 = (fun q => T2' q ∧ q < wr.heap.size) := ⟨_, rfl⟩
            have HI8 : Hid (RdI w2 wr T0 T2 base w1.heap.size rb mb wb (.slice (some ⟨g0, 0, none⟩) P.length rc) P (n1 + 1) po1 pc1 to2 tc2 E6 ps1 tl2) := by rw [hT2]; exact hI2'.cut
            have HTF8 : Hid (TF T2 wr (.slice (some ⟨b, off, none⟩) l.length lc) l) := by rw [hT2]; exact htf2'.wid2 (fun q hq => .inl hq.1)
            have HUP2 : Hid (¬ T2 wr.heap.size) := fun e => by rw [hT2] at e; exact absurd e.2 (Nat.lt_irrefl _)
            have HLN2 := hide hln2
            clear hT2 hI2' htf2' hln2 HI7 HTF7
            by_cases hil : i < l.length
            · obtain ⟨b', off', e', hc⟩ := (unhide HTF8).1.at i hil
              cases e'
              obtain ⟨t, ht⟩ : ∃ t, t = l[i] := ⟨_, rfl⟩
              rw [← ht] at hc
              have k0 := hc.kind; have k1 := hc.text; have k2 := hc.num; have k3 := hc.place; have k4 := hc.line
              have htx : t.text.length ≤ 1000000 := by have := (unhide HLT t (by rw [ht]; exact List.getElem_mem hil)).1; omega
              have HDR : Hid (l.drop i = t :: l.drop (i + 1)) := by
                show l.drop i = _
                rw [ht]
                exact List.drop_eq_getElem_cons hil
              obtain ⟨wA, hwA⟩ : ∃ wA, wA = wr.alloc (.cells #[.int .i64 t.kind, .string ⟨t.text.toArray⟩, .int .i32 t.num, .int .i64 t.place, .int .i64 t.line] 33) := ⟨_, rfl⟩
              have HIA : Hid (RdI w2 wA T0 T2 base w1.heap.size rb mb wb (.slice (some ⟨g0, 0, none⟩) P.length rc) P (n1 + 1) po1 pc1 to2 tc2 E6 ps1 tl2) := by rw [hwA]; exact (unhide HI8).ext ((Ext.refl wr).alloc _)
              have HTFA : Hid (TF T2 wA (.slice (some ⟨b, off, none⟩) l.length lc) l) := by rw [hwA]; exact (unhide HTF8).ext ((Ext.refl wr).alloc _)
              have HTB : Hid (Blk wA wr.heap.size #[.int .i64 t.kind, .string ⟨t.text.toArray⟩, .int .i32 t.num, .int .i64 t.place, .int .i64 t.line] 33) := by rw [hwA]; exact Blk.new _ _ _
              have HTE := hide (tell2_any wA (unhide HIA).rd (unhide HET) (unhide HEL) htl2 t htx)
              have HWA := hide hwA
              clear hwA ht hc
              go_wp2_with fail
              rw [← unhide HWA]
              refine (unhide HTE).mono ?_
              rintro e w9 hq
              have HQ := hide hq
              clear hq HTE k0 k1 k2 k3 k4
              have HTB9 := hide ((unhide HTB).out (unhide HQ).1 (unhide HUP2))
              have HWR := hide ((unhide HIA).wrong.out (unhide HQ).1 (unhide HIA).nwb)
              have HI9o : Hid (Out T0 w2 w9) := (unhide HIA).out.trans (unhide HQ).1 (fun q hq => ((unhide HIA).wid q).2 hq)
              cases htp : toldP E6 tl2 t with
              | none =>
                have hlp : lineP E6 tl1 l = ([], 3, t.place) := by
                  rw [unhide HLN2, unhide HDR]
                  show (match toldP E6 tl2 t with | none => ([], 3, t.place) | some tl' => lineP E6 tl' (l.drop (i + 1))) = _
                  rw [htp]
                have hRR : R = (([], []), 3, t.place) := by
                  rw [unhide HR8, hlp]
                  exact if_pos (show (3 : Int) ≠ 0 by decide)
                rw [htp] at HQ
                obtain rfl := (unhide HQ).value
                subst hRR
                have p3 := (unhide HTB9).cell (i := 3) (v := .int .i64 t.place) rfl
                have c0 := (unhide HWR).cell (i := 0) (v := .int .i64 0) rfl
                have c1 := (unhide HWR).cell (i := 1) (v := .int .i64 0) rfl
                have fz := fun i => (unhide HWR).free i
                have B2 := (((((unhide HWR).set 0 (.int .i64 3)).set 1 (.int .i64 t.place)).set 0 (.int .i64 3)).set 1 (.int .i64 t.place))
                have R0 := hide (B2.cell (i := 0) (v := .int .i64 3) rfl)
                have R1 := hide (B2.cell (i := 1) (v := .int .i64 t.place) rfl)
                clear htp hlp B2 HR8
                go_wp2
                rw [Exit.noGoto_ret]
                refine bodyPost_ret (v := .agg #[.int .i64 3, .int .i64 t.place]) (by have r0 := unhide R0; have r1 := unhide R1; simp [results, Tryd.results10, go_sem, r0, r1]) rfl ⟨rfl, unhide HFIN _ _ _ (unhide HFIN _ _ _ (unhide HO2 _ (unhide HI9o))), fun e => absurd e (show ¬ (3 : Int) = 0 by decide)⟩
              | some tl9 =>
                rw [htp] at HQ
                obtain ⟨he, hl9, T9, to9, tc9, hw9, hr9⟩ := (unhide HQ).2
                subst he
                have HI9 : Hid (RdI w2 w9 T0 T9 base w1.heap.size rb mb wb (.slice (some ⟨g0, 0, none⟩) P.length rc) P (n1 + 1) po1 pc1 to9 tc9 E6 ps1 tl9) := (unhide HIA).step (unhide HQ).1 hw9 hr9
                have HTF9 := hide ((unhide HTFA).step (unhide HQ).1 hw9)
                have HLN9 : Hid (lineP E6 tl1 l = lineP E6 tl9 (l.drop (i + 1))) := by
                  show lineP E6 tl1 l = _
                  rw [unhide HLN2, unhide HDR]
                  show (match toldP E6 tl2 t with | none => ([], 3, t.place) | some tl' => lineP E6 tl' (l.drop (i + 1))) = _
                  rw [htp]
                clear htp hw9 hr9
                go_wp2
                refine ⟨⟨i + 1, T9, to9, tc9, tl9, by omega, by push_cast; rfl, unhide HI9, unhide HTF9, hl9, unhide HLN9⟩, ?_⟩
                simp [intOf]
                omega
            · have hde : l.drop i = [] := List.drop_of_length_le (by omega)
              have hlp : lineP E6 tl1 l = (tl2, 0, 0) := by rw [unhide HLN2, hde]; rfl
              have HRR : Hid (R = readP (decide (j + 1 = 0)) E6 ps1 tl2 ((P.drop (j + 1)).map (·.2))) := by
                show R = _
                rw [unhide HR8, hlp, unhide HREST]
                exact if_neg (by simp)
              clear hde hlp
              go_wp2
              refine ⟨⟨j + 1, T2, n1 + 1, po1, pc1, to2, tc2, E6, ps1, tl2, by omega, by push_cast; rfl, unhide HI8, unhide HEK6, by omega, by omega, htl2, unhide HRR⟩, ?_⟩
              simp [intOf]
              omega
    · have hje : P.drop j = [] := List.drop_of_length_le (by omega)
      have hRR : R = ((tl1, ps1), 0, 0) := by rw [unhide HR1, hje]; rfl
      subst hRR
      have HI2 := hide (unhide HI1)
      have c0 := (unhide HI1).wrong.cell (i := 0) (v := .int .i64 0) rfl
      have c1 := (unhide HI1).wrong.cell (i := 1) (v := .int .i64 0) rfl
      have fz := fun i => (unhide HI1).wrong.free i
      have B2 := (((unhide HI1).wrong.set 0 (.int .i64 0)).set 1 (.int .i64 0))
      have R0 := hide (B2.cell (i := 0) (v := .int .i64 0) rfl)
      have R1 := hide (B2.cell (i := 1) (v := .int .i64 0) rfl)
      clear B2
      go_wp2
      rw [Exit.noGoto_ret]
      refine bodyPost_ret (v := .agg #[.int .i64 0, .int .i64 0]) (by have r0 := unhide R0; have r1 := unhide R1; simp [results, Tryd.results10, go_sem, r0, r1]) rfl ⟨rfl, unhide HFIN _ _ _ (unhide HO2 _ (unhide HI1).out), fun _ => ?_⟩
      have hgr := ((grownBy_set wr wb 0 (.int .i64 0)).trans (grownBy_set _ wb 1 (.int .i64 0)))
      exact ⟨T1, n1, po1, pc1, to1, tc1, E1, (unhide HI1).rd.beside (U := fun q => q = wb) (Out.of_grown hgr (fun k e => by cases e; rfl)) (fun q hq e => by subst hq; exact (unhide HI1).nwb e) (fun k L e v hv => hv.beside (unhide HI1).wrong hgr)⟩
end Go.Proofs.YtdcamcpffiilbaaDoor
