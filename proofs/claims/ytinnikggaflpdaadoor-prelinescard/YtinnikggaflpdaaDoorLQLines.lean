/-
  PreLines: whatever tokens are told line by line: all of them, in order, and no two lines side by side are one. The library's tables are laid as the program's text lays them.
-/
import Derived.Test.YtinnikggaflpdaaDoorZH
import Derived.Test.YtinnikggaflpdaaDoorZJ
import Derived.Test.YtinnikggaflpdaaDoorFrP
import Derived.Test.YtinnikggaflpdaaDoorFrT
namespace Go.Proofs.YtinnikggaflpdaaDoor
open Go.ChangeShapes Go.WideShapes Go.ChangeAt Go.RowKit
set_option linter.unusedSimpArgs false
set_option linter.unusedVariables false

theorem rows_same : ∀ (X : List Tok), ∀ l ∈ linesP X, ∀ t ∈ l, t.line = (hd0 l).line
  | [], l, hl, _, _ => by cases hl
  | t :: X, l, hl, u, hu => by
    have ih := rows_same X
    rw [linesP_cons] at hl
    cases h : linesP X with
    | nil =>
      rw [h] at hl
      simp [linesC] at hl
      subst hl
      simp at hu
      subst hu
      rfl
    | cons r rs =>
      rw [h] at hl ih
      by_cases hq : t.line = (hd0 r).line
      · rw [linesC_pos _ hq] at hl
        simp only [List.mem_cons] at hl
        rcases hl with rfl | hl
        · simp only [List.mem_cons] at hu
          rcases hu with rfl | hu
          · rfl
          · exact (ih r (by simp) u hu).trans hq.symm
        · exact ih l (by simp [hl]) u hu
      · rw [linesC_neg _ hq] at hl
        simp only [List.mem_cons] at hl
        rcases hl with rfl | rfl | hl
        · simp at hu
          subst hu
          rfl
        · exact ih l (by simp) u hu
        · exact ih l (by simp [hl]) u hu
/-- No two side by side have one line. -/
def Diff : List (List Tok) → Prop
  | a :: b :: r => (hd0 a).line ≠ (hd0 b).line ∧ Diff (b :: r)
  | _ => True
theorem rows_diff : ∀ (X : List Tok), Diff (linesP X)
  | [] => trivial
  | t :: X => by
    have ih := rows_diff X
    rw [linesP_cons]
    cases h : linesP X with
    | nil => exact trivial
    | cons r rs =>
      rw [h] at ih
      by_cases hq : t.line = (hd0 r).line
      · rw [linesC_pos _ hq]
        cases rs with
        | nil => exact trivial
        | cons b rs => exact ⟨by show t.line ≠ _; rw [hq]; exact ih.1, ih.2⟩
      · rw [linesC_neg _ hq]
        exact ⟨hq, ih⟩
theorem diff_at : ∀ (L : List (List Tok)) (i : Nat) (h : i + 1 < L.length), Diff L → (hd0 L[i]).line ≠ (hd0 L[i + 1]).line
  | a :: b :: r, 0, _, hd => hd.1
  | a :: b :: r, i + 1, h, hd => diff_at (b :: r) i (by simpa using h) hd.2
theorem wpList_append_toks {w : World} {ops : Array Oper} {rest : List Oper} {o : Oper} {a : Act} {Q : Exit → Act → World → Prop} (hgd : o.guard = none) (s x : Operand)
    (ho : o.op = .call { callee := .builtin .append, args := #[s, x], argTypes := #[23, 23] }) (base : Nat) (v : Value) (L M : List Tok) (hs : a.eval s = v)
    (hown : TO w base v L) (ao : Option Addr) (c : Nat) (hx : a.eval x = .slice ao M.length c) (hrow : TR w (.slice ao M.length c) M) (hL : L.length + M.length ≤ 2932031007402) (hbase : base ≤ w.heap.size)
    (h : ∀ N v' w', N = L ++ M → TO w' base v' N → w.grownBy w' v.ownBlock → wpList Tryd.prog ops Q rest (a.put o.dst v') w') : wpList Tryd.prog ops Q (o :: rest) a w := by
  obtain ⟨i0, hi, hz0, hz1, hz2⟩ := info_parts3 infoT
  cases ao with
  | none =>
    have hM : M = [] := by
      cases M with
      | nil => rfl
      | cons t r =>
        obtain ⟨b, off, e, _⟩ := hrow.at 0 (by simp)
        cases e
    subst hM
    obtain ⟨_, _, e, h0, _⟩ := hrow
    cases e
    have hc0 := h0 rfl
    subst hc0
    refine wpList_append_own_none hgd s x 23 ho base 35 i0 5 Tryd.underlying23 hi v _ _ hs hown hx ?_
    exact h _ v w rfl (by rw [List.append_nil]; exact hown) (World.grownBy.refl _ _)
  | some ad =>
    refine wpList_append_own w hgd s x 23 ho base 35 i0 _ 5 48 Tryd.underlying23 hi hz0 hz1 hz2 rfl (by decide) v L.length (tcells L) hs hown ad M.length c (tcells M) hx (tcells_len M) ?_ ?_ (by unfold maxLen; omega) (by omega) hbase ?_
    · by_cases h0 : 0 < M.length
      · obtain ⟨b, off, e, _⟩ := hrow.at 0 h0
        cases e
        intro j u hu
        have hjl : j < (tcells M).length := (List.getElem?_eq_some_iff.1 hu).1
        rw [tcells_len] at hjl
        have hdm : j / 5 < M.length := by omega
        obtain ⟨b', off', e', ht⟩ := hrow.at (j / 5) hdm
        cases e'
        rw [Addr.add_lit]
        have hj : j = j / 5 * 5 + j % 5 := by omega
        have hu2 := hu
        rw [hj, tcells_get M (j / 5) hdm (j % 5) (by omega)] at hu2
        have h5 : j % 5 = 0 ∨ j % 5 = 1 ∨ j % 5 = 2 ∨ j % 5 = 3 ∨ j % 5 = 4 := by omega
        have e1 : off + j = off + j / 5 * 5 + j % 5 := by omega
        rw [e1]
        rcases h5 with h5 | h5 | h5 | h5 | h5
        · rw [h5] at hu2 ⊢; simp [tcell] at hu2; rw [← hu2]; exact ht.kind
        · rw [h5] at hu2 ⊢; simp [tcell] at hu2; rw [← hu2]; exact ht.text
        · rw [h5] at hu2 ⊢; simp [tcell] at hu2; rw [← hu2]; exact ht.num
        · rw [h5] at hu2 ⊢; simp [tcell] at hu2; rw [← hu2]; exact ht.place
        · rw [h5] at hu2 ⊢; simp [tcell] at hu2; rw [← hu2]; exact ht.line
      · have : M = [] := List.length_eq_zero_iff.1 (by omega)
        subst this
        intro j u hu
        simp [tcells] at hu
    · intro u hu
      obtain ⟨t, _, ht⟩ := List.mem_flatMap.1 hu
      exact tcell_ones t u ht
    · intro v' w' h1 h2 _
      rw [← tcells_append, ← List.length_append] at h1
      exact h _ v' w' rfl h1 h2
theorem flat_take (P : List (Value × List Tok)) (k : Nat) (h : k < P.length) : ((P.take (k + 1)).map (·.2)).flatten = ((P.take k).map (·.2)).flatten ++ P[k].2 := by
  rw [List.take_succ_eq_append_getElem h, List.map_append, List.flatten_append]
  simp
theorem flat_len (P : List (Value × List Tok)) (k : Nat) : ((P.take k).map (·.2)).flatten.length ≤ (P.map (·.2)).flatten.length := by
  conv => rhs; rw [← List.take_append_drop k P, List.map_append, List.flatten_append, List.length_append]
  omega
set_option maxRecDepth 10000 in
theorem toks_len {H : Type} {enc : TypeId × Value → H} {W : World} {base : Nat} {ao : Option Addr} {n cap : Nat} {d : DataW H} {p : List MemPlace} {ts : List TypeId} {ds : List (DataW H)} {j : Nat} (h : DataW.Trod enc Tryd.prog W 0 (fun _ => true) true 23 (.slice ao n cap) d p)
    (hsz : (DataW.weightsEach Tryd.prog ts ds).all (· ≤ reachBytes) = true) (hj : ts[j]? = some 23) (hd : ds[j]? = some d) : n ≤ 2932031007402 := by
  obtain ⟨fuel, hf⟩ := h
  rcases Deep.open_slice Tryd.underlying23 hf with ⟨hcs, _⟩ | ⟨x, l, c, m, n', D, Pl, hcs, _, hl, hm, hmm, hx, hel⟩
  · simp [Value.cells] at hcs
    omega
  · simp [Value.cells] at hcs
    obtain ⟨rfl, rfl, rfl⟩ := hcs
    have hd2 := congrArg Prod.fst hx
    simp only at hd2
    rw [hd2] at hd
    have hb := sized_slice hsz hj hd Tryd.underlying23
    have h48 : Tryd.prog.bytesOf 35 = 48 := by kernel_rfl
    have hr := reachBytes_lt
    rw [h48] at hb
    simp at hb
    omega
theorem lines_ne : ∀ (X : List Tok), ∀ l ∈ linesP X, l ≠ []
  | [], l, hl => by cases hl
  | t :: X, l, hl => by
    have ih := lines_ne X
    rw [linesP_cons] at hl
    cases h : linesP X with
    | nil =>
      rw [h] at hl
      simp [linesC] at hl
      subst hl
      simp
    | cons r rs =>
      rw [h] at hl ih
      by_cases hq : t.line = (hd0 r).line
      · rw [linesC_pos _ hq] at hl
        simp only [List.mem_cons] at hl
        rcases hl with rfl | hl
        · simp
        · exact ih l (by simp [hl])
      · rw [linesC_neg _ hq] at hl
        simp only [List.mem_cons] at hl
        rcases hl with rfl | rfl | hl
        · simp
        · exact ih l (by simp)
        · exact ih l (by simp [hl])

set_option maxHeartbeats 4000000 in
set_option maxRecDepth 100000 in
theorem preLines_any (X : List Tok) (ao : Option Addr) (ca : Nat) (W : World) (m : Int) (hS : Std W m) (hX : TR W (.slice ao X.length ca) X) (hlen : X.length ≤ 2932031007402) :
    Calls Tryd.prog 4 #[.slice ao X.length ca] W fun e w' => e = .returned (.bool true) ∧ Ext W w' := by
  have HS := hide hS
  have HX := hide hX
  clear hS hX
  go_enter Tryd.func4, Tryd.ntmps4
  go_wp2_with fail
  refine (wakes11_any W m (unhide HS)).mono ?_
  rintro e w1 ⟨rfl, hx1⟩
  have X1 := hide hx1
  have HX1 := hide ((unhide HX).ext hx1)
  clear hx1
  have HMADE : Hid (TO (w1.alloc (.cells #[] 35)) w1.heap.size (.slice (some ⟨w1.heap.size, 0, none⟩) 0 0) []) := World.ownsRow_made w1 #[] 0 (Nat.le_refl _) (Nat.zero_le _) rfl
  go_wp2_with (at_builtin; refine wpList_append_toks rfl (.tmp 11) (.tmp 12) rfl w1.heap.size _ [] X rfl (unhide HMADE) ao ca rfl ((unhide HX1).ext ((Ext.refl _).alloc _)) ?c1 ?c2 ?_)
  case c1 => simp; omega
  case c2 => simp
  intro N v2 w2 hN hO2 hg2
  subst hN
  obtain ⟨ao2, ca2, hv2, _⟩ := hO2.shape
  subst hv2
  have hx12 : Ext w1 w2 := Below.trans ((Ext.refl _).alloc _) (grown_below hg2 (by simp) (fun g hg => by simp [Value.ownBlock] at hg; omega))
  have X2 := hide ((unhide X1).trans hx12)
  have HX2 := hide ((unhide HX1).ext hx12)
  have HT2 := hide hO2.tr
  clear hO2 hg2 hx12 HMADE HX1
  go_wp2_with fail
  refine (lines_any N ao2 ca2 w2 (unhide HT2) hlen).mono ?_
  rintro e w3 ⟨ro, rc, P, rfl, hLR, hPX, hx3⟩
  have X3 := hide ((unhide X2).trans hx3)
  have HX3 := hide ((unhide HX2).ext hx3)
  have HLR := hide hLR
  have HPX := hide hPX
  have hPl : P.length ≤ 2932031007402 := by
    have h1 := congrArg List.length hPX
    rw [List.length_map] at h1
    have h2 : ∀ Y : List Tok, (linesP Y).length ≤ Y.length := fun Y => by
      induction Y with
      | nil => exact Nat.le_refl _
      | cons t Y ih =>
        rw [linesP_cons]
        cases h : linesP Y with
        | nil => simp [linesC]
        | cons r rs =>
          rw [h] at ih
          by_cases hq : t.line = (hd0 r).line
          · rw [linesC_pos _ hq]; simp at ih ⊢; omega
          · rw [linesC_neg _ hq]; simp at ih ⊢; omega
    have := h2 N
    omega
  have HNE : Hid (∀ k (h : k < P.length), P[k].2 ≠ [] ∧ ∀ t ∈ P[k].2, t.line = (hd0 P[k].2).line) := fun k h => by
    have hm : P[k].2 ∈ linesP N := by rw [← hPX]; exact List.mem_map_of_mem (List.getElem_mem h)
    exact ⟨lines_ne N _ hm, rows_same N _ hm⟩
  have HDF : Hid (∀ k (h : k + 1 < P.length), (hd0 P[k].2).line ≠ (hd0 P[k + 1].2).line) := fun k h => by
    have h1 := diff_at (linesP N) k (by rw [← hPX, List.length_map]; exact h) (rows_diff N)
    simpa [← hPX] using h1
  clear hLR hPX hx3 HX2 HT2
  go_wp2
  go_loopw [4, 17] (fun av iv wr => ∃ (k : Nat) (ao4 : Option Addr) (ca4 : Nat), k ≤ P.length ∧ iv = .int .i64 (k : Int) ∧ av = .slice ao4 ((P.take k).map (·.2)).flatten.length ca4 ∧ TO wr w3.heap.size (.slice ao4 ((P.take k).map (·.2)).flatten.length ca4) ((P.take k).map (·.2)).flatten ∧ Ext w3 wr) (fun _ iv _ => P.length - (intOf iv).toNat)
  case atStart => exact ⟨0, none, 0, by omega, rfl, rfl, TO.nil _ _, Ext.refl _⟩
  case round =>
    obtain ⟨k, ao4, ca4, hk, rfl, rfl, hTO, hx⟩ := hrel
    obtain ⟨F, hF⟩ : ∃ F, F = ((P.take k).map (·.2)).flatten := ⟨_, rfl⟩
    rw [← hF] at hTO ⊢
    have HF := hide hF
    have HTO0 := hide hTO
    have XR := hide hx
    clear hTO hx hF
    by_cases hlt : k < P.length
    · obtain ⟨hne, hsame⟩ := unhide HNE k hlt
      have HFL0 := flat_take P k hlt
      rw [← unhide HF] at HFL0
      have HFL := hide HFL0
      clear HFL0
      obtain ⟨g0, hg0, cv⟩ : ∃ g0, ro = some ⟨g0, 0, none⟩ ∧ w3.cell? ⟨g0, k, none⟩ = some P[k].1 := by
        rcases (unhide HLR).1.2 with ⟨_, e⟩ | ⟨g, c, cur, e, _⟩
        · omega
        · cases e
          refine ⟨g, rfl, ?_⟩
          rw [(unhide HLR).1.cellAt k (by omega)]
          simp [hlt]
      subst hg0
      have cv2 : wr.cell? ⟨g0, k, none⟩ = some P[k].1 := by
        rw [(unhide XR).cell (p := ⟨g0, k, none⟩) (World.block_lt_of_cell? _ _ cv)]
        exact cv
      have htr := ((unhide HLR).2 P[k] (List.getElem_mem hlt)).1
      obtain ⟨v, hv⟩ : ∃ v, v = P[k].1 := ⟨_, rfl⟩
      obtain ⟨l, hl⟩ : ∃ l, l = P[k].2 := ⟨_, rfl⟩
      rw [← hv] at cv2 htr
      rw [← hl] at hne hsame htr HFL
      have hlpos : 0 < l.length := List.length_pos_iff.2 hne
      obtain ⟨lo, lc, hvv, _, hlc, hlm, hat⟩ := htr
      obtain ⟨b, off, hlo, hc0⟩ := hat 0 hlpos
      subst hlo
      subst hvv
      have htr2 := (((unhide HLR).2 P[k] (List.getElem_mem hlt)).1.ext (unhide XR))
      rw [← hv, ← hl] at htr2
      have HTR : Hid (TR wr (.slice (some ⟨b, off, none⟩) l.length lc) l) := htr2
      have HSAME := hide hsame
      have HL := hide hl
      have HV := hide hv
      have hlm2 : lc ≤ 9223372036854775807 := by unfold maxLen at hlm; omega
      have hlz : ((l.length : Int) == 0) = false := beq_eq_false_iff_ne.2 (by omega)
      have i0 : (0 : Int) ≤ 0 ∧ (0 : Int) < (l.length : Int) := ⟨by omega, by omega⟩
      clear hne hsame hat hc0 htr2 hl hv cv
      have c4 : wr.cell? ⟨b, off + 4, none⟩ = some (.int .i64 l[0].line) := by
        obtain ⟨b', off', e', h'⟩ := (unhide HTR).at 0 hlpos
        cases e'
        simpa using h'.line
      by_cases hk0 : k = 0
      · have d0 : decide ((0 : Int) < (k : Int)) = false := by rw [hk0]; decide
        have d1 : decide (0 < k) = false := by rw [hk0]; decide
        have d2 : ¬ (0 < k) := by omega
        have HK0 := hide hk0
        clear hk0
        go_wp2
        go_quiet (fail)
        obtain ⟨wc, hwc⟩ : ∃ wc, wc = wr.drewN nq := ⟨_, rfl⟩
        have HTC : Hid (TR wc (.slice (some ⟨b, off, none⟩) l.length lc) l) := by rw [hwc]; exact (unhide HTR).ext ((Ext.refl _).drewN nq)
        have HTO : Hid (TO wc w3.heap.size (.slice ao4 F.length ca4) F) := by rw [hwc]; exact (unhide HTO0).ext ((Ext.refl _).drewN nq)
        have XC : Hid (Ext w3 wc) := by rw [hwc]; exact (unhide XR).drewN nq
        rw [← hwc]
        clear hwc c4 cv2 d0 d1 d2
        go_wp2
        go_loopw [46] (fun iv wq => ∃ i : Nat, i ≤ l.length ∧ iv = .int .i64 (i : Int) ∧ Ext wc wq) (fun iv _ => l.length - (intOf iv).toNat)
        case atStart => exact ⟨0, by omega, rfl, Ext.refl _⟩
        case round =>
          obtain ⟨i, hi, rfl, hxq⟩ := hrel
          have XQ := hide hxq
          clear hxq
          by_cases hil : i < l.length
          · obtain ⟨b1, o1, e1, h1⟩ := ((unhide HTC).ext (unhide XQ)).at i hil
            cases e1
            obtain ⟨b2, o2, e2, h2⟩ := ((unhide HTC).ext (unhide XQ)).at 0 hlpos
            cases e2
            have hline : l[i].line = l[0].line := by
              have h3 := unhide HSAME l[i] (List.getElem_mem hil)
              have h4 := unhide HSAME l[0] (List.getElem_mem hlpos)
              rw [h3, h4]
            obtain ⟨t, ht⟩ : ∃ t, t = l[i] := ⟨_, rfl⟩
            rw [← ht] at h1
            have q4 := h2.line
            rw [← hline, ← ht] at q4
            have k0 := h1.kind; have k1 := h1.text; have k2 := h1.num; have k3 := h1.place; have k4 := h1.line
            rw [Nat.zero_mul, Nat.add_zero] at q4
            clear h1 h2 hline ht
            have HTB := hide (Blk.new wr #[.int .i64 t.kind, .string ⟨t.text.toArray⟩, .int .i32 t.num, .int .i64 t.place, .int .i64 t.line] 35)
            have XN : Hid (Ext wc (wr.alloc (.cells #[.int .i64 t.kind, .string ⟨t.text.toArray⟩, .int .i32 t.num, .int .i64 t.place, .int .i64 t.line] 35))) := (unhide XQ).alloc _
            obtain ⟨wA, hwA⟩ : ∃ wA, wA = wr.alloc (.cells #[.int .i64 t.kind, .string ⟨t.text.toArray⟩, .int .i32 t.num, .int .i64 t.place, .int .i64 t.line] 35) := ⟨_, rfl⟩
            obtain ⟨tb, htb⟩ : ∃ tb, tb = wr.heap.size := ⟨_, rfl⟩
            have qA : wA.cell? ⟨b, off + 4, none⟩ = some (.int .i64 t.line) := by
              rw [hwA, ((Ext.refl wr).alloc _).cell (p := ⟨b, off + 4, none⟩) (World.block_lt_of_cell? _ _ q4)]
              exact q4
            rw [← hwA] at HTB XN
            rw [← htb] at HTB
            have p4 := (unhide HTB).cell (i := 4) (v := .int .i64 t.line) rfl
            have HWA := hide hwA
            have HTBB := hide htb
            clear hwA htb
            go_wp2
            rw [← unhide HWA, ← unhide HTBB]
            clear k0 k1 k2 k3 k4 q4
            go_quiet (fail)
            go_wp2
            refine ⟨⟨i + 1, by omega, by push_cast; rfl, (unhide XN).drewN _⟩, ?_⟩
            simp [intOf]
            omega
          · have HTO6 := hide ((unhide HTO).ext (unhide XQ))
            have X6 := hide ((unhide XC).trans (unhide XQ))
            have HTR6 := hide ((unhide HTC).ext (unhide XQ))
            go_wp2_with (at_builtin; refine wpList_append_toks rfl (.tmp 58) (.tmp 59) rfl w3.heap.size _ (F) l rfl (unhide HTO6) _ _ rfl (unhide HTR6) ?c1 ?c2 ?_)
            case c1 => have h1 := unhide HFL; rw [← List.length_append, ← h1]; have h2 := flat_len P (k + 1); have h3 := unhide HPX; rw [h3, lines_flat] at h2; omega
            case c2 => exact (unhide X6).size
            intro N v7 w7 hN hO7 hg7
            obtain ⟨ao7, cap7, hv7, _⟩ := hO7.shape
            subst hv7
            have hx7 : Ext w3 w7 := Below.trans (unhide X6) (grown_below hg7 (unhide X6).size (fun q hq => (World.ownsRow.lt (unhide HTO6) q hq).1))
            rw [hN, ← unhide HFL] at hO7
            have hNl : N.length = ((P.take (k + 1)).map (·.2)).flatten.length := by rw [hN, ← unhide HFL]
            have HO7 := hide hO7
            have X7 := hide hx7
            have HNL := hide hNl
            clear hN hO7 hg7 hx7 hNl
            go_wp2
            refine ⟨⟨k + 1, ao7, cap7, by omega, by push_cast; rfl, by rw [unhide HNL], unhide HO7, unhide X7⟩, ?_⟩
            simp [intOf]
            omega
      · obtain ⟨j, hj⟩ : ∃ j, k = j + 1 := ⟨k - 1, by omega⟩
        have d0 : decide ((0 : Int) < (k : Int)) = true := decide_eq_true (by omega)
        have d1 : decide (0 < k) = true := decide_eq_true (by omega)
        have d2 : 0 < k := by omega
        have q1 : IntKind.i64.wrap ((k : Int) - 1) = (j : Int) := by rw [show (k : Int) - 1 = (j : Int) by omega]; exact wrapId (by omega) (by omega)
        have q2 : (k : Int) - 1 = (j : Int) := by omega
        have hjl : j < P.length := by omega
        obtain ⟨hne3, _⟩ := unhide HNE j hjl
        have hdf := unhide HDF j (by omega)
        have cj : wr.cell? ⟨g0, j, none⟩ = some P[j].1 := by
          have h1 : w3.cell? ⟨g0, j, none⟩ = some P[j].1 := by
            rcases (unhide HLR).1.2 with ⟨_, e⟩ | ⟨g, c, cur, e, _⟩
            · omega
            · cases e
              rw [(unhide HLR).1.cellAt j (by omega)]
              simp [hjl]
          rw [(unhide XR).cell (p := ⟨g0, j, none⟩) (World.block_lt_of_cell? _ _ h1)]
          exact h1
        have htrj := (((unhide HLR).2 P[j] (List.getElem_mem hjl)).1.ext (unhide XR))
        have hlk : l = P[j + 1].2 := by rw [unhide HL]; simp [hj]
        rw [← hlk] at hdf
        obtain ⟨vj, hvj⟩ : ∃ v, v = P[j].1 := ⟨_, rfl⟩
        obtain ⟨lj, hlj⟩ : ∃ l, l = P[j].2 := ⟨_, rfl⟩
        rw [← hvj] at cj htrj
        rw [← hlj] at hne3 hdf htrj
        have hljpos : 0 < lj.length := List.length_pos_iff.2 hne3
        obtain ⟨jo, jc, hvv, _, hjc, hjm, _⟩ := id htrj
        subst hvv
        obtain ⟨bj, offj, hjo, hcj⟩ := htrj.at 0 hljpos
        cases hjo
        have cj4 : wr.cell? ⟨bj, offj + 4, none⟩ = some (.int .i64 lj[0].line) := by simpa using hcj.line
        have ij : (0 : Int) < (lj.length : Int) := by omega
        have jz : ((lj.length : Int) == 0) = false := beq_eq_false_iff_ne.2 (by omega)
        have hd1 : hd0 l = l[0] := by cases l with | nil => simp at hlpos | cons _ _ => rfl
        have hd2 : hd0 lj = lj[0] := by cases lj with | nil => simp at hljpos | cons _ _ => rfl
        rw [hd1, hd2] at hdf
        have f1 : (l[0].line == lj[0].line) = false := beq_eq_false_iff_ne.2 (fun e => hdf e.symm)
        have f2 : (lj[0].line == l[0].line) = false := beq_eq_false_iff_ne.2 hdf
        have HJ := hide hj
        clear hj hk0 hvj hlj hlk hne3 hdf htrj hcj hd1 hd2
        go_wp2
        go_quiet (fail)
        obtain ⟨wc, hwc⟩ : ∃ wc, wc = wr.drewN nq := ⟨_, rfl⟩
        have HTC : Hid (TR wc (.slice (some ⟨b, off, none⟩) l.length lc) l) := by rw [hwc]; exact (unhide HTR).ext ((Ext.refl _).drewN nq)
        have HTO : Hid (TO wc w3.heap.size (.slice ao4 F.length ca4) F) := by rw [hwc]; exact (unhide HTO0).ext ((Ext.refl _).drewN nq)
        have XC : Hid (Ext w3 wc) := by rw [hwc]; exact (unhide XR).drewN nq
        rw [← hwc]
        clear hwc c4 cv2 d0 d1 d2 cj cj4 f1 f2 q1 q2 ij jz
        go_wp2
        go_loopw [46] (fun iv wq => ∃ i : Nat, i ≤ l.length ∧ iv = .int .i64 (i : Int) ∧ Ext wc wq) (fun iv _ => l.length - (intOf iv).toNat)
        case atStart => exact ⟨0, by omega, rfl, Ext.refl _⟩
        case round =>
          obtain ⟨i, hi, rfl, hxq⟩ := hrel
          have XQ := hide hxq
          clear hxq
          by_cases hil : i < l.length
          · obtain ⟨b1, o1, e1, h1⟩ := ((unhide HTC).ext (unhide XQ)).at i hil
            cases e1
            obtain ⟨b2, o2, e2, h2⟩ := ((unhide HTC).ext (unhide XQ)).at 0 hlpos
            cases e2
            have hline : l[i].line = l[0].line := by
              have h3 := unhide HSAME l[i] (List.getElem_mem hil)
              have h4 := unhide HSAME l[0] (List.getElem_mem hlpos)
              rw [h3, h4]
            obtain ⟨t, ht⟩ : ∃ t, t = l[i] := ⟨_, rfl⟩
            rw [← ht] at h1
            have q4 := h2.line
            rw [← hline, ← ht] at q4
            have k0 := h1.kind; have k1 := h1.text; have k2 := h1.num; have k3 := h1.place; have k4 := h1.line
            rw [Nat.zero_mul, Nat.add_zero] at q4
            clear h1 h2 hline ht
            have HTB := hide (Blk.new wr #[.int .i64 t.kind, .string ⟨t.text.toArray⟩, .int .i32 t.num, .int .i64 t.place, .int .i64 t.line] 35)
            have XN : Hid (Ext wc (wr.alloc (.cells #[.int .i64 t.kind, .string ⟨t.text.toArray⟩, .int .i32 t.num, .int .i64 t.place, .int .i64 t.line] 35))) := (unhide XQ).alloc _
            obtain ⟨wA, hwA⟩ : ∃ wA, wA = wr.alloc (.cells #[.int .i64 t.kind, .string ⟨t.text.toArray⟩, .int .i32 t.num, .int .i64 t.place, .int .i64 t.line] 35) := ⟨_, rfl⟩
            obtain ⟨tb, htb⟩ : ∃ tb, tb = wr.heap.size := ⟨_, rfl⟩
            have qA : wA.cell? ⟨b, off + 4, none⟩ = some (.int .i64 t.line) := by
              rw [hwA, ((Ext.refl wr).alloc _).cell (p := ⟨b, off + 4, none⟩) (World.block_lt_of_cell? _ _ q4)]
              exact q4
            rw [← hwA] at HTB XN
            rw [← htb] at HTB
            have p4 := (unhide HTB).cell (i := 4) (v := .int .i64 t.line) rfl
            have HWA := hide hwA
            have HTBB := hide htb
            clear hwA htb
            go_wp2
            rw [← unhide HWA, ← unhide HTBB]
            clear k0 k1 k2 k3 k4 q4
            go_quiet (fail)
            go_wp2
            refine ⟨⟨i + 1, by omega, by push_cast; rfl, (unhide XN).drewN _⟩, ?_⟩
            simp [intOf]
            omega
          · have HTO6 := hide ((unhide HTO).ext (unhide XQ))
            have X6 := hide ((unhide XC).trans (unhide XQ))
            have HTR6 := hide ((unhide HTC).ext (unhide XQ))
            go_wp2_with (at_builtin; refine wpList_append_toks rfl (.tmp 58) (.tmp 59) rfl w3.heap.size _ (F) l rfl (unhide HTO6) _ _ rfl (unhide HTR6) ?c1 ?c2 ?_)
            case c1 => have h1 := unhide HFL; rw [← List.length_append, ← h1]; have h2 := flat_len P (k + 1); have h3 := unhide HPX; rw [h3, lines_flat] at h2; omega
            case c2 => exact (unhide X6).size
            intro N v7 w7 hN hO7 hg7
            obtain ⟨ao7, cap7, hv7, _⟩ := hO7.shape
            subst hv7
            have hx7 : Ext w3 w7 := Below.trans (unhide X6) (grown_below hg7 (unhide X6).size (fun q hq => (World.ownsRow.lt (unhide HTO6) q hq).1))
            rw [hN, ← unhide HFL] at hO7
            have hNl : N.length = ((P.take (k + 1)).map (·.2)).flatten.length := by rw [hN, ← unhide HFL]
            have HO7 := hide hO7
            have X7 := hide hx7
            have HNL := hide hNl
            clear hN hO7 hg7 hx7 hNl
            go_wp2
            refine ⟨⟨k + 1, ao7, cap7, by omega, by push_cast; rfl, by rw [unhide HNL], unhide HO7, unhide X7⟩, ?_⟩
            simp [intOf]
            omega
    · have hke : P.take k = P := List.take_of_length_le (by omega)
      have hFN : F = N := by rw [unhide HF, hke, unhide HPX, lines_flat]
      subst hFN
      have HSM := hide (same11 F ao4 ao ca4 ca wr (unhide HTO0).tr ((unhide HX3).ext (unhide XR)))
      go_wp2_with fail
      refine (unhide HSM).mono ?_
      rintro e w9 ⟨rfl, hx9⟩
      have X9 := hide (((unhide X3).trans (unhide XR)).trans hx9)
      clear hx9
      go_wp2
      go_ret
      exact ⟨rfl, unhide X9⟩

set_option maxRecDepth 100000 in
theorem preLines_owes (H : Type) (enc : TypeId × Value → H) (W : World) (base : Nat) (args : Array Value) (ds : List (DataW H)) (p : List MemPlace) : OwesP H enc Tryd.prog 4 Tryd.f4 Rows.preLinesSpec laidL W base args ds p := by
  intro hval hA hsz hL hsh
  have hT := tab_of_laid hL
  clear hL
  rw [Tryd.params4] at hA hval hsz
  obtain ⟨v0, vs0, d0, ds0, p0, q0, hargs, rfl, rfl, h0, r0⟩ := trodAll_cons hA
  obtain ⟨rfl, rfl, rfl⟩ := trodAll_nil r0
  obtain rfl : args = #[v0] := by cases args; simp_all
  obtain ⟨X, tX⟩ := open_toks (hval 0 23 v0 rfl rfl) h0
  obtain ⟨m, hm⟩ := Tryd.laysM143.s1_3 W hsh
  have tX' := tX
  obtain ⟨ao, ca, rfl, _⟩ := tX'
  have hlen := toks_len (base := 0) (j := 0) h0 hsz rfl rfl
  exact ⟨⟨rfl, rfl, rfl⟩, preLines_any X ao ca W m ⟨hm, hT⟩ tX hlen⟩

set_option maxRecDepth 100000 in
theorem preLines_lifted (os : Os) (started : os.Started) (H : Type) (enc : TypeId × Value → H) :
    ReturnsInHanded {} Tryd.checked os 4 .any (fun w args => (Rows.preLinesSpec.pre enc Tryd.prog Tryd.f4 Rows.preLinesRow.domain false w args ∧ laidMetH Tryd.prog Rows.preLinesRow.laid w) ∧ sizedMet enc Tryd.prog Tryd.f4 (OpenSpec.ofChange Rows.preLinesSpec) false w args) (Rows.preLinesSpec.post enc Tryd.prog Tryd.f4 false true false false) :=
  lift_law_both (C := Tryd.checked) (laid := laidL) own laidOut started (by kernel_rfl) Tryd.func4 (T := 4) rfl Tryd.underlying4 rfl (by kernel_rfl)
    (ChangeSpec.witness_shaped (enc := enc) (C := Tryd.checked) (os := os) (X := fun w _ => laidMetH Tryd.prog laidL w) false (World.laidAll Tryd.prog os laidL) #[.slice none 0 0] 8 (World.laidAll_os _ _ _)
      (World.shaped_of_ZipB (by kernel_rfl) (by kernel_rfl)) (by kernel_rfl) (by kernel_rfl) (by kernel_rfl) (laid_fits os _)) (preLines_owes H enc)

theorem preLines_row : Rows.PreLinesSaid :=
  OpenClaim.holds_of_wide 4 Tryd.f4 rfl rfl rfl rfl rfl rfl rfl ⟨rfl, rfl, rfl, rfl, rfl⟩ rfl rfl rfl rfl rfl (by kernel_rfl) Tryd.func4 (by kernel_rfl)
    (of_decide_eq_true (by kernel_rfl)) (by unfold Func.isWrapper; rw [if_neg (of_decide_eq_false (by kernel_rfl))]; exact ⟨rfl, rfl⟩)
    (fun os started H enc _ => preLines_lifted os started H enc)

theorem preLines_plain (f : FuncId) (fn : Func) (hf : Tryd.pinned.checked.prog.funcNamed "paintbox/paintboxlaw11.PreLines" = some f) (hfn : Tryd.pinned.checked.prog.funcs[f]? = some fn) :
    false = Tryd.pinned.checked.prog.looks [] ∧ ∀ (j : Nat) t, fn.params[j]? = some t → Tryd.pinned.checked.prog.wantsStandIn t = false := by
  obtain rfl : f = 4 := Option.some.inj ((show Tryd.prog.funcNamed "paintbox/paintboxlaw11.PreLines" = some 4 by kernel_rfl).symm.trans hf) |>.symm
  obtain rfl : fn = Tryd.f4 := (Option.some.inj (Tryd.func4.symm.trans hfn)).symm
  refine ⟨by kernel_rfl, fun j t ht => ?_⟩
  rw [Tryd.params4] at ht
  have hm : t ∈ [23] := by simpa using Array.mem_of_getElem? ht
  have hall : ([23].all fun u => !Tryd.prog.wantsStandIn u) = true := by kernel_rfl
  exact (show Tryd.prog.wantsStandIn t = false by simpa using List.all_eq_true.1 hall t hm)

theorem preLines_holds : Rows.PreLinesCardSaid :=
  Claim7.holds_tied_plain_at .later [] _ _ _ _ preLines_row (fun _ h => by cases h) (by kernel_rfl) (fun _ h => by cases h) preLines_row_tie rfl ⟨rfl, rfl⟩ (by kernel_rfl) rfl preLines_plain (by kernel_rfl)
#print axioms preLines_holds
end Go.Proofs.YtinnikggaflpdaaDoor
