/-
  The document's Run: what a text says.
-/
import Derived.Test.YtdcamcpffiilbaaDoorZRh5J
import Derived.Test.YtdcamcpffiilbaaDoorZRg
import Derived.Test.YtdcamcpffiilbaaDoorYB
import Derived.Test.YtdcamcpffiilbaaDoorZL
import Derived.Deep.RegionLaw
namespace Go.Proofs.YtdcamcpffiilbaaDoor
open Go.RowKit
set_option linter.unusedVariables false
set_option linter.unusedSimpArgs false

theorem read_dir_none {kept : Byts8 → Bool} {first : Bool} {ws : List Wd} {ps : List RP} {out A : List Tok} {ls : List (List Tok)} (h : (hd0 A).kind = 4 ∧ (hd0 A).text = [35]) (hd : directR kept ws ps A.tail first = none) : readR kept first ws ps out (A :: ls) = (([], []), 210, (hd0 A).place) := by
  rw [readR, if_pos h, hd]
theorem read_dir_some {kept : Byts8 → Bool} {first : Bool} {ws ws2 : List Wd} {ps ps2 : List RP} {out A : List Tok} {ls : List (List Tok)} (h : (hd0 A).kind = 4 ∧ (hd0 A).text = [35]) (hd : directR kept ws ps A.tail first = some (ws2, ps2)) : readR kept first ws ps out (A :: ls) = readR kept false ws2 ps2 out ls := by
  rw [readR, if_pos h, hd]
theorem read_idle {kept : Byts8 → Bool} {first : Bool} {ws : List Wd} {ps : List RP} {out A : List Tok} {ls : List (List Tok)} (h : ¬ ((hd0 A).kind = 4 ∧ (hd0 A).text = [35])) (hc : countsR ps = false) : readR kept first ws ps out (A :: ls) = readR kept false ws ps out ls := by
  rw [readR, if_neg h, if_pos hc]
theorem read_told {kept : Byts8 → Bool} {first : Bool} {ws : List Wd} {ps : List RP} {out A : List Tok} {ls : List (List Tok)} (h : ¬ ((hd0 A).kind = 4 ∧ (hd0 A).text = [35])) (hc : countsR ps = true) : readR kept first ws ps out (A :: ls) = if (lineR ws out A).2.1 ≠ 0 then (([], []), (lineR ws out A).2) else readR kept false ws ps (lineR ws out A).1 ls := by
  rw [readR, if_neg h, if_neg (by rw [hc]; simp)]
theorem direct_len {kept : Byts8 → Bool} {ws ws2 : List Wd} {ps ps2 : List RP} {l : List Tok} {first : Bool} (h : directR kept ws ps l first = some (ws2, ps2)) : ws2.length ≤ ws.length + 1 ∧ ps2.length ≤ ps.length + 1 := by
  unfold directR at h
  split at h
  · cases h
    exact ⟨by omega, by omega⟩
  · rename_i t rest
    split at h
    · split at h
      · cases h
      · split at h
        · cases h
        · cases h
          refine ⟨by omega, ?_⟩
          rw [List.length_append, List.length_dropLast]
          split <;> simp <;> omega
    · split at h
      · split at h
        · cases h
        · cases h
          exact ⟨by omega, by simp⟩
      · split at h
        · cases h
          exact ⟨by omega, by omega⟩
        · split at h
          · split at h
            · cases h
              exact ⟨by omega, by omega⟩
            · cases h
          · split at h
            · split at h
              · cases h
              · cases h
                exact ⟨by simp, by omega⟩
            · split at h
              · cases h
                refine ⟨?_, by omega⟩
                unfold remR
                have := List.length_filter_le (fun p : Wd => !(p.1 == (hd0 rest).text)) ws
                omega
              · cases h
/-- A line, cut off. -/
theorem line_cut {L : List Tok} {i n : Nat} (hi : i < n) (hn : n ≤ L.length) (hall : ∀ j (h : j < L.length), i ≤ j → j < n → L[j].line = (L[i]'(by omega)).line) (hend : ∀ h : n < L.length, L[n].line ≠ (L[i]'(by omega)).line) :
    linesP (L.drop i) = (L.take n).drop i :: linesP (L.drop n) ∧ hd0 ((L.take n).drop i) = L[i]'(by omega) ∧ ((L.take n).drop i).tail = (L.take n).drop (i + 1) := by
  have hl : (L.take n).length = n := by rw [List.length_take]; omega
  have e : L.drop i = (L.take n).drop i ++ L.drop n := by
    have h := List.take_append_drop n L
    have h2 := congrArg (List.drop i) h
    rw [List.drop_append_of_le_length (by omega)] at h2
    exact h2.symm
  have hc : (L.take n).drop i = L[i]'(by omega) :: (L.take n).drop (i + 1) := by
    rw [List.drop_eq_getElem_cons (by omega), List.getElem_take]
  refine ⟨?_, ?_, ?_⟩
  · rw [e]
    refine lines_cut (L[i]'(by omega)).line _ _ (by rw [hc]; simp) (fun t ht => ?_) (fun b hb => ?_)
    · obtain ⟨k, hk, rfl⟩ := List.mem_iff_getElem.1 ht
      rw [List.length_drop, hl] at hk
      rw [List.getElem_drop, List.getElem_take]
      exact hall (i + k) (by omega) (by omega) (by omega)
    · rw [List.head?_drop] at hb
      obtain ⟨h1, h2⟩ := List.getElem?_eq_some_iff.1 hb
      rw [← h2]
      exact hend h1
  · rw [hc]
    rfl
  · rw [hc]
    rfl
/-- A piece of a row of tokens. -/
theorem TR.piece {w : World} {b off n cap : Nat} {L : List Tok} (h : TR w (.slice (some ⟨b, off, none⟩) n cap) L) (i k : Nat) (hi : i ≤ k) (hk : k ≤ L.length) : TR w (.slice (if cap = i then some ⟨b, off, none⟩ else some ⟨b, off + i * 5, none⟩) (k - i) (cap - i)) ((L.take k).drop i) := by
  obtain ⟨ao, cap2, e, _, h2, h3, h4⟩ := h
  cases e
  have hlen : ((L.take k).drop i).length = k - i := by rw [List.length_drop, List.length_take]; omega
  refine ⟨_, _, by rw [hlen], ?_, by rw [hlen]; omega, by omega, fun j hj => ?_⟩
  · intro h
    split at h <;> cases h
  · rw [hlen] at hj
    have hne : ¬ cap = i := by omega
    rw [if_neg hne]
    obtain ⟨b2, o2, e2, c⟩ := h4 (i + j) (by omega)
    cases e2
    refine ⟨b, off + i * 5, rfl, ?_⟩
    have e1 : ((L.take k).drop i)[j]'(by rw [hlen]; exact hj) = L[i + j]'(by omega) := by rw [List.getElem_drop, List.getElem_take]
    rw [e1]
    have e2 : off + i * 5 + j * 5 = off + (i + j) * 5 := by omega
    rw [e2]
    exact c
/-- What Run answers. -/
def RunD (w : World) (R : List Tok × Int × Int) (e : Ending) (w' : World) : Prop := ∃ ao cap, e = .returned (.tuple #[.slice ao R.1.length cap, .agg #[.int .i64 R.2.1, .int .i64 R.2.2]]) ∧ TR w' (.slice ao R.1.length cap) R.1 ∧ Ext w w'
/-- The blocks that turn: the state's own, and that of what is told. -/
def TT (g : Nat) (v : Value) (b : Nat) : Prop := b = g ∨ v.ownBlock = some b
/-- T's blocks, and those that are new. -/
def TU (T : Nat → Prop) (lo hi b : Nat) : Prop := T b ∨ (lo ≤ b ∧ b < hi)
theorem outThree {T : Nat → Prop} {w : World} {b : Nat} {v0 v1 v2 : Value} (hb : T b) : Out T w (((w.setCell ⟨b, 0, none⟩ v0).setCell ⟨b, 1, none⟩ v1).setCell ⟨b, 2, none⟩ v2) :=
  Out.of_grown (((grownBy_set w b 0 v0).trans (grownBy_set _ b 1 v1)).trans (grownBy_set _ b 2 v2)) (fun k e => by cases e; exact hb)
/-- What holds in memory, line by line. -/
structure RI (w0 wr : World) (g : Nat) (wo : Option Addr) (wk : Nat) (po : Option Addr) (pc : Nat) (uo : Option Addr) (uc : Nat) (ws : List Wd) (ps : List RP) (out : List Tok) : Prop where
  ext : Ext w0 wr
  low : w0.heap.size ≤ g
  blk : Blk wr g #[.slice wo ws.length wk, .slice po ps.length pc, .slice uo out.length uc] 47
  words : WR (TT g (.slice uo out.length uc)) wr (.slice wo ws.length wk) ws
  parts : PR (TT g (.slice uo out.length uc)) wr (.slice po ps.length pc) ps
  told : TO wr (g + 1) (.slice uo out.length uc) out
theorem RI.ext2 {w0 wr wx : World} {g : Nat} {wo : Option Addr} {wk : Nat} {po : Option Addr} {pc : Nat} {uo : Option Addr} {uc : Nat} {ws : List Wd} {ps : List RP} {out : List Tok} (h : RI w0 wr g wo wk po pc uo uc ws ps out) (hx : Ext wr wx) : RI w0 wx g wo wk po pc uo uc ws ps out :=
  ⟨h.ext.trans hx, h.low, h.blk.ext hx, h.words.ext hx, h.parts.ext hx, h.told.ext hx⟩

theorem TO.grown3 {w : World} {g : Nat} {v : Value} {L : List Tok} {v0 v1 v2 : Value} (h : TO w (g + 1) v L) : TO (((w.setCell ⟨g, 0, none⟩ v0).setCell ⟨g, 1, none⟩ v1).setCell ⟨g, 2, none⟩ v2) (g + 1) v L :=
  TO.keep h (((grownBy_set w g 0 v0).trans (grownBy_set _ g 1 v1)).trans (grownBy_set _ g 2 v2)) (fun b hb => by have := (World.ownsRow.lt h b hb).1; omega)
/-- 'append' at a step of a region that draws, its run known. -/
theorem step_runR {P : Program} {ops : Array Oper} {o : Oper} {a : Act} {w w' : World} {K : Act → World → Prop} {Q : Exit → Act → World → Prop} {E : Prop} (hgd : o.guard = none) (s x : Operand) (t : TypeId)
    (ho : o.op = .call { callee := .builtin .append, args := #[s, x], argTypes := #[t, t] }) {v vx v' : Value} (hs : a.eval s = v) (hx : a.eval x = vx) (hr : (Builtin.append_ #[t, t] o.type #[v, vx]).run P w = .ok v' w') (h : K (a.put o.dst v') w') :
    if Region.wanted o (yielded ops a.tmps) = true then Oper.wp P o a w K Q else E := by
  have hw : Region.wanted o (yielded ops a.tmps) = true := by simp [Region.wanted, hgd]
  rw [if_pos hw]
  unfold Oper.wp execOp
  simp only [ho, resolve, invoke, builtin, Sem.run_bind, Sem.run_pure, Result.andThen_ok, List.map_toArray, List.map_cons, List.map_nil, hs, hx, hr]
  exact h
/-- What is told, and one token more. -/
theorem RI.app {w0 wr : World} {g : Nat} {wo : Option Addr} {wk : Nat} {po : Option Addr} {pc : Nat} {uo : Option Addr} {uc : Nat} {ws : List Wd} {ps : List RP} {out : List Tok} (h : RI w0 wr g wo wk po pc uo uc ws ps out) (y : Tok) (hol : out.length ≤ 1000000) :
    ∃ vo vc N w', N = out ++ [y] ∧ (Builtin.append_ #[23, 23] 23 #[.slice uo out.length uc, .slice (some ⟨wr.heap.size, 0, none⟩) 1 1]).run Tryd.prog (wr.alloc (.cells (tcell y).toArray 33)).drew = .ok (.slice vo N.length vc) w' ∧
      Blk w' g #[.slice wo ws.length wk, .slice po ps.length pc, .slice uo out.length uc] 47 ∧ RI w0 (w'.setCell ⟨g, 2, none⟩ (.slice vo N.length vc)) g wo wk po pc vo vc ws ps N ∧
      Out (fun b => TT g (.slice uo out.length uc) b ∨ wr.heap.size ≤ b) wr (w'.setCell ⟨g, 2, none⟩ (.slice vo N.length vc)) ∧ (∀ b, (Value.slice vo N.length vc).ownBlock = some b → (Value.slice uo out.length uc).ownBlock = some b ∨ wr.heap.size ≤ b) := by
  have hx : Ext wr (wr.alloc (.cells (tcell y).toArray 33)).drew := ((Ext.refl _).alloc _).drew
  have hgl := h.blk.lt
  have hlow := h.low
  have hs : (wr.alloc (.cells (tcell y).toArray 33)).drew.heap.size = wr.heap.size + 1 := by rw [sizeD, World.size_alloc]
  obtain ⟨vo, vc, N, w', hN, hrun, hG, hgr, hloc⟩ := run_append_G (enc := tcell) (w := (wr.alloc (.cells (tcell y).toArray 33)).drew) 23 infoT Tryd.underlying23 rfl (by decide) (by decide) (g + 1) _ out y (h.told.ext hx) wr.heap.size 1 _ (blkD (Blk.new wr _ _)) rfl (tcell_ones y) (by omega) (by omega)
  have hown : ∀ b, (Value.slice uo out.length uc).ownBlock = some b → g + 1 ≤ b ∧ b < wr.heap.size := World.ownsRow.lt h.told
  have hloc2 : ∀ b, (Value.slice vo N.length vc).ownBlock = some b → (Value.slice uo out.length uc).ownBlock = some b ∨ wr.heap.size ≤ b := fun b hb => (hloc b hb).imp id (fun h => by omega)
  have hnew : ∀ b, (Value.slice vo N.length vc).ownBlock = some b → g + 1 ≤ b := fun b hb => (World.ownsRow.lt hG b hb).1
  have hbw : Blk w' g #[.slice wo ws.length wk, .slice po ps.length pc, .slice uo out.length uc] 47 := blkGrownO (h.blk.ext hx) hgr (fun e => by have := (hown g e).1; omega)
  have ho1 : Out (fun b => TT g (.slice uo out.length uc) b ∨ wr.heap.size ≤ b) wr w' := (Out.of_ext hx).trans (Out.of_grown hgr (fun k e => .inl (.inr e))) (fun k hk => .inl hk)
  have ho2 : Out (fun b => TT g (.slice uo out.length uc) b ∨ wr.heap.size ≤ b) wr (w'.setCell ⟨g, 2, none⟩ (.slice vo N.length vc)) := ho1.trans (Out.of_grown (grownBy_set _ _ _ _) (fun k e => by cases e; exact .inl (.inl rfl))) (fun k hk => .inl hk)
  have hle : ∀ b, TT g (.slice vo N.length vc) b → TT g (.slice uo out.length uc) b ∨ wr.heap.size ≤ b := fun b hb => by
    rcases hb with h1 | h1
    · exact .inl (.inl h1)
    · exact (hloc2 b h1).imp .inr id
  refine ⟨vo, vc, N, w', hN, hrun, hbw, ⟨?_, hlow, hbw.set 2 _, ?_, ?_, ?_⟩, ho2, hloc2⟩
  · refine extSet (Below.trans (h.ext.trans hx) (grown_below hgr ?_ (fun b hb => ?_))) hlow
    · have := h.ext.size
      omega
    · have := (hown b hb).1
      omega
  · exact ((h.words.less (fun b hb => hb)).out ho2).less (fun b hb => .inl (hle b hb))
  · exact ((h.parts.less (fun b hb => hb)).out ho2).less (fun b hb => .inl (hle b hb))
  · exact hG.keep (grownBy_set _ _ _ _) (fun b hb => by have := hnew b hb; omega)

set_option maxHeartbeats 16000000 in
set_option maxRecDepth 100000 in
theorem refRun_any (s : ByteArray) (w : World) : Calls Tryd.prog 6 #[.string s] w (RunD w (runR keptP s.data.toList)) := by
  obtain ⟨R, hR⟩ : ∃ R, R = runR keptP s.data.toList := ⟨_, rfl⟩
  rw [← hR]
  have hlen := list_size s
  unfold runR at hR
  obtain ⟨hLl, hLt⟩ := lexP_ok s.data.toList
  have hform : (lexP s.data.toList).2.1 = 0 → (lexP s.data.toList).2.2 = 0 := by
    unfold lexP
    split
    · intro e; cases e
    · exact (lexA_form _ 0 0 0).1
  obtain ⟨w1, hw1⟩ : ∃ w1, w1 = w.alloc (.cells spotZ 26) := ⟨_, rfl⟩
  obtain ⟨g3, hg3⟩ : ∃ g3, g3 = w.heap.size := ⟨_, rfl⟩
  have X1 : Hid (Ext w w1) := by rw [hw1]; exact (Ext.refl w).alloc _
  have HB1 : Hid (Blk w1 g3 spotZ 26) := by rw [hw1, hg3]; exact Blk.new _ _ _
  have HLX := hide (refLex_any s w1)
  obtain ⟨X, hX⟩ : ∃ X, lexP s.data.toList = X := ⟨_, rfl⟩
  rw [hX] at hR hLl hLt hform HLX
  obtain ⟨L, le, lp⟩ := X
  simp only at hR hLl hLt hform
  have HR := hide hR
  have HLT := hide hLt
  have HFO := hide hform
  have HG3 : Hid (g3 = w.heap.size) := hg3
  clear hR hX hLt hform
  go_enter Tryd.func6, Tryd.ntmps6
  go_wp2_with fail
  rw [show (w.alloc (.cells #[.int .i64 0, .int .i64 0] 26)) = w1 from hw1.symm, ← hg3]
  clear hw1 hg3
  refine (unhide HLX).mono ?_
  rintro e w2 ⟨lo, lc, rfl, hO2, hx2⟩
  simp only at hO2
  obtain ⟨w3, hw3⟩ : ∃ w3, w3 = w2.alloc (.cells #[.int .i64 le, .int .i64 lp] 26) := ⟨_, rfl⟩
  obtain ⟨pb, hpb⟩ : ∃ pb, pb = w2.heap.size := ⟨_, rfl⟩
  have X3 : Hid (Ext w w3) := by rw [hw3]; exact ((unhide X1).trans hx2).alloc _
  have HB3 : Hid (Blk w3 g3 spotZ 26) := by rw [hw3]; exact ((unhide HB1).ext hx2).alloc _
  have HP3 : Hid (Blk w3 pb #[.int .i64 le, .int .i64 lp] 26) := by rw [hw3, hpb]; exact Blk.new _ _ _
  have HT3 : Hid (TR w3 (.slice lo L.length lc) L) := by rw [hw3]; exact hO2.tr.ext ((Ext.refl w2).alloc _)
  have hgw : w.heap.size ≤ g3 := Nat.le_of_eq (unhide HG3).symm
  have p0 := (unhide HP3).cell (i := 0) (v := .int .i64 le) rfl
  have p1 := (unhide HP3).cell (i := 1) (v := .int .i64 lp) rfl
  have s0 := (unhide HB3).cell (i := 0) (v := .int .i64 0) rfl
  have s1 := (unhide HB3).cell (i := 1) (v := .int .i64 0) rfl
  have fs := fun i => (unhide HB3).free i
  have HW3 := hide hw3
  have HPB := hide hpb
  rw [unhide HW3] at p0 p1 s0 s1 fs
  rw [unhide HPB] at p0 p1
  clear hO2 hx2 hw3 hpb HLX
  by_cases hle : le = 0
  · have hlp := unhide HFO hle
    subst hle
    subst hlp
    obtain ⟨RR, hRR⟩ : ∃ RR, RR = readR keptP true beginR [] [] (linesP L) := ⟨_, rfl⟩
    have HR2 : Hid (R = if RR.2.1 ≠ 0 then ([], RR.2) else if RR.1.2 ≠ [] then ([], 210, (s.size : Int)) else (RR.1.1, 0, 0)) := by
      show R = _
      rw [unhide HR, hRR, hlen]
      exact if_neg (by simp)
    have HRR := hide hRR
    clear hRR HR
    have HNU := hide (refNumber_any 1 ⟨0, [], 0, 0, 0⟩ w3 (by omega) (by omega))
    go_wp2_with fail
    rw [← unhide HW3, ← unhide HPB]
    refine (unhide HNU).mono ?_
    rintro e w4 ⟨gn, rfl, hbn, hgn, hx4⟩
    obtain ⟨w0, hw0⟩ : ∃ w0, w0 = w4.alloc (.cells #[.string ⟨#[71, 76, 95, 69, 83]⟩, .slice (some ⟨gn, 0, none⟩) 1 1] 43) := ⟨_, rfl⟩
    obtain ⟨gw, hgww⟩ : ∃ gw, gw = w4.heap.size := ⟨_, rfl⟩
    obtain ⟨g, hg⟩ : ∃ g, g = w4.heap.size + 1 := ⟨_, rfl⟩
    obtain ⟨wS, hwS⟩ : ∃ wS, wS = w0.alloc (.cells #[.slice (some ⟨gw, 0, none⟩) 1 1, .slice none 0 0, .slice none 0 0] 47) := ⟨_, rfl⟩
    have hs0 : w0.heap.size = g := by rw [hw0, hg]; simp
    have X40 : Hid (Ext w4 w0) := by rw [hw0]; exact (Ext.refl _).alloc _
    have X0S : Hid (Ext w0 wS) := by rw [hwS]; exact (Ext.refl _).alloc _
    have X0 : Hid (Ext w w0) := ((unhide X3).trans hx4).trans (unhide X40)
    have HT0 : Hid (TR w0 (.slice lo L.length lc) L) := ((unhide HT3).ext hx4).ext (unhide X40)
    have HB30 : Hid (Blk w0 g3 spotZ 26) := ((unhide HB3).ext hx4).ext (unhide X40)
    have hbw : Blk w0 gw #[.string ⟨#[71, 76, 95, 69, 83]⟩, .slice (some ⟨gn, 0, none⟩) 1 1] 43 := by rw [hw0, hgww]; exact Blk.new _ _ _
    have htn : TR w0 (.slice (some ⟨gn, 0, none⟩) 1 1) [⟨2, Lib.decDigits 1, ((1 : Nat) : Int) * 65536, 0, 0⟩] := (TR.one hbn).ext (unhide X40)
    have HI0 : Hid (RI w0 wS g (some ⟨gw, 0, none⟩) 1 none 0 none 0 beginR [] []) := by
      have hgn4 : gn < w4.heap.size := hbn.lt
      refine ⟨unhide X0S, Nat.le_of_eq hs0, by rw [hwS]; exact blkAt hs0, ?_, PR.nil _ _, TO.nil _ _⟩
      refine ⟨some ⟨gw, 0, none⟩, 1, rfl, (fun h => by cases h), Nat.le_refl _, by unfold maxLen; decide, fun i hi => ⟨gw, 0, rfl, ?_⟩⟩
      have hi0 : i = 0 := by simp [beginR] at hi; omega
      subst hi0
      have hwh : wholeL 1 = [⟨2, Lib.decDigits 1, ((1 : Nat) : Int) * 65536, 0, 0⟩] := whole_tok 1 (by omega) (by omega)
      refine ⟨(hbw.ext (unhide X0S)).cell (i := 0) rfl, ⟨some ⟨gn, 0, none⟩, 1, ?_, ?_⟩, ?_⟩
      · show wS.cell? ⟨gw, 1, none⟩ = some (.slice (some ⟨gn, 0, none⟩) (wholeL 1).length 1)
        rw [hwh]
        exact (hbw.ext (unhide X0S)).cell (i := 1) rfl
      · show TF _ wS (.slice (some ⟨gn, 0, none⟩) (wholeL 1).length 1) (wholeL 1)
        rw [hwh]
        refine ⟨htn.ext (unhide X0S), fun b off n cap e _ ht => ?_⟩
        cases e
        rcases ht with h | h
        · omega
        · cases h
      · intro ht
        rcases ht with h | h
        · omega
        · cases h
    have HLOW : Hid (g3 < g) := by
      have := (unhide HB30).lt
      rw [hs0] at this
      exact this
    go_upto_region 5 with fail
    rw [← hw0, ← hg, ← hgww, ← hwS]
    have HS0 := hide hs0
    clear hw0 hgww hg hwS hbn hgn hx4 hbw htn hs0 p0 p1 s0 s1 fs HNU HW3 HPB HP3 HB3 HT3 X3 HFO
    go_wp2
    go_loopw [7] (fun iv wr => ∃ (i : Nat) (wo : Option Addr) (wk : Nat) (po : Option Addr) (pc : Nat) (uo : Option Addr) (uc : Nat) (ws : List Wd) (ps : List RP) (out : List Tok), i ≤ L.length ∧ iv = .int .i64 (i : Int) ∧ RI w0 wr g wo wk po pc uo uc ws ps out ∧ RR = readR keptP (decide (i = 0)) ws ps out (linesP (L.drop i)) ∧ ws.length ≤ i + 1 ∧ ps.length ≤ i ∧ out.length ≤ 2048) (fun iv _ => L.length - (intOf iv).toNat)
    case atStart => exact ⟨0, _, _, _, _, _, _, beginR, [], [], by omega, rfl, unhide HI0, unhide HRR, by simp [beginR], by simp, by simp⟩
    case round =>
      obtain ⟨i, wo, wk, po, pc, uo, uc, ws, ps, out, hi, rfl, hI, hRi, hwl, hpl, hol⟩ := hrel
      rename World => wa
      have HI := hide hI
      have HRi := hide hRi
      clear hI hRi HI0 HRR
      by_cases hlt : i < L.length
      · obtain ⟨bL, oL, elo, hti⟩ := ((unhide HT0).ext (unhide HI).ext).at i hlt
        subst elo
        have HTI := hide hti
        have HTI0 : Hid (TokAt w0 bL (oL + i * 5) L[i]) := by
          obtain ⟨b9, o9, e9, h9⟩ := (unhide HT0).at i hlt
          cases e9
          exact h9
        clear hti
        go_wp2
        go_loopw [8] (fun nv wx => ∃ n : Nat, i ≤ n ∧ n ≤ L.length ∧ nv = .int .i64 (n : Int) ∧ (∀ j (h : j < L.length), i ≤ j → j < n → L[j].line = L[i].line) ∧ Ext wa wx) (fun nv _ => L.length - (intOf nv).toNat)
        case atStart => exact ⟨i, Nat.le_refl _, by omega, rfl, fun j h h1 h2 => by omega, Ext.refl _⟩
        case round =>
          obtain ⟨n, hn1, hn2, rfl, hall, hxr⟩ := hrel
          rename World => wb
          have HALL := hide hall
          have XR := hide hxr
          clear hall hxr
          obtain ⟨bq, hbq⟩ : ∃ bq : Bool, bq = (if h : n < L.length then (L[n].line == L[i].line) else false) := ⟨_, rfl⟩
          have HBQ := hide hbq
          clear hbq
          go_upto_region 8 with fail
          go_cut [51] from 35 to 51 (fun bv wx => bv = .bool bq ∧ Ext wb wx)
          case first =>
            by_cases hln : n < L.length
            · obtain ⟨b1, o1, e1, h1⟩ := (((unhide HT0).ext (unhide HI).ext).ext (unhide XR)).at n hln
              cases e1
              have c1 := h1.line
              have c2 := ((unhide HTI).ext (unhide XR)).line
              have e : bq = (L[n].line == L[i].line) := (unhide HBQ).trans (dif_pos hln)
              obtain ⟨b2, hb2⟩ : ∃ b2, (L[n].line == L[i].line) = b2 := ⟨_, rfl⟩
              rw [hb2] at e
              subst e
              have q1 : decide ((n : Int) < (L.length : Int)) = true := decide_eq_true (by omega)
              clear h1
              go_wp2
              go_quiet (fail)
              go_wp2
              go_meet
              exact ⟨rfl, (Ext.refl _).drewN _⟩
            · have e : bq = false := (unhide HBQ).trans (dif_neg hln)
              subst e
              have q1 : decide ((n : Int) < (L.length : Int)) = false := decide_eq_false (by omega)
              go_wp2
              go_quiet (fail)
              go_wp2
              go_meet
              exact ⟨rfl, (Ext.refl _).drewN _⟩
          case rest =>
            obtain ⟨rfl, hxc⟩ := hcut
            have XC := hide ((unhide XR).trans hxc)
            clear hxc
            cases bq with
            | true =>
              have hln : n < L.length := by
                by_cases h : n < L.length
                · exact h
                · have := (unhide HBQ).trans (dif_neg h)
                  cases this
              have hle2 : L[n].line = L[i].line := eq_of_beq ((unhide HBQ).trans (dif_pos hln)).symm
              have HLE := hide hle2
              clear hle2
              go_wp2
              go_roundw
              case rel =>
                exact ⟨n + 1, by omega, by omega, by push_cast; rfl, fun j h h1 h2 => (Nat.lt_succ_iff_lt_or_eq.1 h2).elim (fun h3 => unhide HALL j h h1 h3) (fun h3 => by subst h3; exact unhide HLE), unhide XC⟩
              case measure =>
                simp [intOf]
                omega
            | false =>
              have hni : i < n := by
                rcases Nat.lt_or_ge i n with h | h
                · exact h
                · exfalso
                  have hin : n = i := by omega
                  subst hin
                  have := (unhide HBQ).trans (dif_pos hlt)
                  simp at this
              have hend : ∀ h : n < L.length, L[n].line ≠ L[i].line := fun h => beq_eq_false_iff_ne.1 ((unhide HBQ).trans (dif_pos h)).symm
              obtain ⟨hl1, hl2, hl3⟩ := line_cut hni hn2 (unhide HALL) hend
              have hRi := unhide HRi
              rw [hl1] at hRi
              have HRi2 := hide hRi
              have HL2 := hide hl2
              have HL3 := hide hl3
              have HIc := hide ((unhide HI).ext2 (unhide XC))
              have HTc := hide ((unhide HT0).ext (unhide HIc).ext)
              have HTIc := hide ((unhide HTI).ext (unhide XC))
              clear hend hl1 hl2 hl3 hRi HRi HALL HBQ HI HTI XR
              rename World => wc0
              obtain ⟨fb, hfb⟩ : ∃ fb, decide (i = 0) = fb := ⟨_, rfl⟩
              rw [hfb] at HRi2
              have qf : ((i : Int) == 0) = fb := by
                rw [← hfb]
                by_cases h : i = 0
                · subst h; rfl
                · rw [decide_eq_false h]; exact beq_eq_false_iff_ne.2 (by omega)
              clear hfb
              have ck := (unhide HTIc).kind
              have ct := (unhide HTIc).text
              obtain ⟨hb, hhb⟩ : ∃ hb, decide (L[i].kind = 4 ∧ L[i].text = [35]) = hb := ⟨_, rfl⟩
              have HHB := hide hhb
              clear hhb
              go_upto_region 10 with fail
              go_cut [67] from 54 to 67 (fun bv wx => bv = .bool hb ∧ wc0 = wx)
              case first =>
                obtain ⟨y, hy⟩ : ∃ y, L[i] = y := ⟨_, rfl⟩
                rw [hy] at ck ct HHB
                by_cases hk : y.kind = 4
                · rw [hk] at ck
                  by_cases ht : y.text = [35]
                  · have e : hb = true := (unhide HHB).symm.trans (decide_eq_true ⟨hk, ht⟩)
                    subst e
                    rw [ht] at ct
                    clear hk ht hy HHB
                    go_wp2
                    go_meet
                    exact ⟨rfl, rfl⟩
                  · have e : hb = false := (unhide HHB).symm.trans (decide_eq_false (fun h => ht h.2))
                    subst e
                    have q1 : (y.text == [35]) = false := beq_eq_false_iff_ne.2 ht
                    clear hk ht hy HHB
                    go_wp2
                    go_meet
                    exact ⟨rfl, rfl⟩
                · have e : hb = false := (unhide HHB).symm.trans (decide_eq_false (fun h => hk h.1))
                  subst e
                  have q1 : (y.kind == 4) = false := beq_eq_false_iff_ne.2 hk
                  clear hk hy HHB
                  go_wp2
                  go_meet
                  exact ⟨rfl, rfl⟩
              case rest =>
                obtain ⟨rfl, rfl⟩ := hcut
                clear ck ct
                cases hb with
                | true =>
                  have hH := of_decide_eq_true (unhide HHB)
                  have HH : Hid ((hd0 ((L.take n).drop i)).kind = 4 ∧ (hd0 ((L.take n).drop i)).text = [35]) := by rw [unhide HL2]; exact hH
                  clear hH
                  go_upto_region 11 with fail
                  have m0 := (unhide HIc).blk.cell (i := 0) (v := .slice wo ws.length wk) rfl
                  have m1 := (unhide HIc).blk.cell (i := 1) (v := .slice po ps.length pc) rfl
                  have m2 := (unhide HIc).blk.cell (i := 2) (v := .slice uo out.length uc) rfl
                  have hlc : L.length ≤ lc ∧ lc ≤ 9223372036854775807 := by
                    obtain ⟨_, _, e, _, h2, h3, _⟩ := unhide HTc
                    cases e
                    unfold maxLen at h3
                    exact ⟨h2, h3⟩
                  have j1 : (i : Int) + 1 ≤ (n : Int) := by omega
                  have j2 : (n : Int) ≤ (lc : Int) := by omega
                  have j3 : IntKind.i64.wrap ((i : Int) + 1) = (i : Int) + 1 := by simp [IntKind.wrap, IntKind.bits, IntKind.signed] <;> omega
                -- DIRECTIVE
                  have HKL : Hid (∀ wx, Ext wc0 wx → wx.cell? ⟨g, 0, none⟩ = some (.slice wo ws.length wk) ∧ wx.cell? ⟨g, 1, none⟩ = some (.slice po ps.length pc) ∧ wx.cell? ⟨g, 2, none⟩ = some (.slice uo out.length uc)) := fun wx hx => ⟨cellExt hx m0, cellExt hx m1, cellExt hx m2⟩
                  have XD : Hid (Ext wc0 wc0.drew) := (Ext.refl _).drew
                  have XA : ∀ o, Hid (Ext wc0 (wc0.alloc o).drew) := fun o => ((Ext.refl _).alloc o).drew
                  have j0 : (0 : Int) ≤ (i : Int) + 1 := by omega
                  have jt : ((i : Int) + 1).toNat = i + 1 := by omega
                  obtain ⟨Dq, hDq⟩ : ∃ Dq, directR keptP ws ps ((L.take n).drop (i + 1)) fb = Dq := ⟨_, rfl⟩
                  have hTLl : ((L.take n).drop (i + 1)).length = n - (i + 1) := by rw [List.length_drop, List.length_take]; omega
                  have hbL : bL < g := by
                    have h1 := World.block_lt_of_cell? w0 _ (unhide HTI0).kind
                    have h2 := unhide HS0
                    simp only at h1
                    omega
                  have HCL : Hid (∀ wx off m sk, Ext wc0 wx → ((L.take n).drop (i + 1)).length = m → TR wc0 (.slice (some ⟨bL, off, none⟩) m sk) ((L.take n).drop (i + 1)) → Calls Tryd.prog 13 #[.agg #[.slice wo ws.length wk, .slice po ps.length pc, .slice uo out.length uc], .slice (some ⟨bL, off, none⟩) m sk, .bool fb] wx (DirQ2 (TU (TT g (.slice uo out.length uc)) wc0.heap.size wx.heap.size) wx uo out.length uc Dq)) := by
                    intro wx off m sk hx hm hTR
                    subst hm
                    rw [← hDq]
                    have hgl := (unhide HIc).blk.lt
                    have hxs := hx.size
                    have hls : ∀ b, TU (TT g (.slice uo out.length uc)) wc0.heap.size wx.heap.size b → TT g (.slice uo out.length uc) b ∨ wc0.heap.size ≤ b := fun b h => h.imp id (·.1)
                    refine refDirect_any ws ps _ fb wo wk po pc uo out.length uc _ sk wx (((unhide HIc).words.less hls).ext hx) (((unhide HIc).parts.less hls).ext hx) ⟨hTR.ext hx, fun b off n cap e _ ht => ?_⟩ (fun b ht => ?_) (by omega) (by omega) (fun t ht => (unhide HLT t (List.mem_of_mem_take (List.mem_of_mem_drop ht))).1)
                    · cases e
                      rcases ht with (h | h) | ⟨h, _⟩
                      · omega
                      · have := (World.ownsRow.lt (unhide HIc).told _ h).1
                        omega
                      · omega
                    · rcases ht with (h | h) | ⟨_, h⟩
                      · rw [h]
                        omega
                      · have := (World.ownsRow.lt (unhide HIc).told _ h).2
                        omega
                      · exact h
                  have HDQ := hide hDq
                  have HPC := hide ((unhide HTc).piece (i + 1) n (by omega) hn2)
                  clear hDq
                  go_cut [9, 10] from 68 to 79 (fun nv bv wx => ∃ (gx : Nat) (xo : Option Addr) (xn xk : Nat) (yo : Option Addr) (yn yk : Nat), nv = .pointer (some ⟨gx, 0, none⟩) ∧ bv = .bool Dq.isSome ∧ Blk wx gx #[.slice xo xn xk, .slice yo yn yk, .slice uo out.length uc] 47 ∧ (g ≠ gx ∧ Ext wc0 wx) ∧ ∀ ws2 ps2, Dq = some (ws2, ps2) → xn = ws2.length ∧ yn = ps2.length ∧ WR (TT g (.slice uo out.length uc)) wx (.slice xo xn xk) ws2 ∧ PR (TT g (.slice uo out.length uc)) wx (.slice yo yn yk) ps2)
                  case first =>
                    by_cases hcc : lc = i + 1
                    · subst hcc
                      obtain rfl : n = i + 1 := by omega
                      rw [if_pos rfl] at HPC
                      have hz : ((L.take (i + 1)).drop (i + 1)).length = 0 := by rw [hTLl]; omega
                      have HPZ : Hid (TR wc0 (.slice (some ⟨bL, oL, none⟩) 0 0) ((L.take (i + 1)).drop (i + 1))) := by
                        have h := unhide HPC
                        rw [Nat.sub_self] at h
                        exact h
                      clear HPC
                      cases Dq with
                      | none =>
                        go_region_held3 (fun wx => wx.cell? ⟨g, 0, none⟩ = some (.slice wo ws.length wk) ∧ wx.cell? ⟨g, 1, none⟩ = some (.slice po ps.length pc) ∧ wx.cell? ⟨g, 2, none⟩ = some (.slice uo out.length uc)) (first | with_reducible exact unhide HKL _ (unhide XD) | with_reducible exact unhide HKL _ (unhide (XA _)) | with_reducible exact unhide HKL _ bx | with_reducible exact unhide HKL _ (bx.alloc _) | with_reducible exact unhide HKL _ (extThree bx (Nat.le_refl _))) (first | (go_at_call 13; refine (unhide HCL _ _ _ _ ?hx hz (unhide HPZ)).mono ?_; (case hx => (first | with_reducible exact unhide XD | with_reducible exact unhide (XA _))); rintro e w9 ⟨hx9, xo, xn, xk, yo, yn, yk, rfl⟩; have bx : Ext wc0 w9 := (by first | with_reducible exact (unhide XD).trans hx9 | with_reducible exact (unhide (XA _)).trans hx9); try (have yb := Blk.ext (blkD (Blk.new wc0 #[.slice none 0 0, .slice none 0 0, .slice none 0 0] 47)) hx9; have y0 := yb.cell (i := 0) (v := .slice none 0 0) rfl; have y1 := yb.cell (i := 1) (v := .slice none 0 0) rfl; have y2 := yb.cell (i := 2) (v := .slice none 0 0) rfl; have fy := fun i => yb.free i)))
                        all_goals
                          have X9 := hide bx
                          have HX9 := hide hx9
                          clear hx9 bx
                          have hgne : g < wc0.heap.size := (unhide HIc).blk.lt
                          have hgs9 := (unhide X9).size
                          go_wp2
                          go_meet
                          first
                            | exact ⟨_, _, _, _, _, _, _, rfl, rfl, Blk.new _ _ _, ⟨by omega, (unhide X9).alloc _⟩, (fun a b e => by cases e)⟩
                            | exact ⟨_, _, _, _, _, _, _, rfl, rfl, blkThree ((blkD (Blk.new wc0 _ _)).ext (unhide HX9)), ⟨by omega, extThree (unhide X9) (Nat.le_refl _)⟩, (fun a b e => by cases e)⟩
                      | some p =>
                        obtain ⟨ws2, ps2⟩ := p
                        go_region_held3 (fun wx => wx.cell? ⟨g, 0, none⟩ = some (.slice wo ws.length wk) ∧ wx.cell? ⟨g, 1, none⟩ = some (.slice po ps.length pc) ∧ wx.cell? ⟨g, 2, none⟩ = some (.slice uo out.length uc)) (first | with_reducible exact unhide HKL _ (unhide XD) | with_reducible exact unhide HKL _ (unhide (XA _)) | with_reducible exact unhide HKL _ bx | with_reducible exact unhide HKL _ (bx.alloc _) | with_reducible exact unhide HKL _ (extThree bx (Nat.le_refl _))) (first | (go_at_call 13; refine (unhide HCL _ _ _ _ ?hx hz (unhide HPZ)).mono ?_; (case hx => (first | with_reducible exact unhide XD | with_reducible exact unhide (XA _))); rintro e w9 ⟨hx9, xo, xk, yo, yk, rfl, hW9, hP9⟩; have bx : Ext wc0 w9 := (by first | with_reducible exact (unhide XD).trans hx9 | with_reducible exact (unhide (XA _)).trans hx9); try (have yb := Blk.ext (blkD (Blk.new wc0 #[.slice none 0 0, .slice none 0 0, .slice none 0 0] 47)) hx9; have y0 := yb.cell (i := 0) (v := .slice none 0 0) rfl; have y1 := yb.cell (i := 1) (v := .slice none 0 0) rfl; have y2 := yb.cell (i := 2) (v := .slice none 0 0) rfl; have fy := fun i => yb.free i)))
                        all_goals
                          have X9 := hide bx
                          have HX9 := hide hx9
                          have HW9 := hide hW9
                          have HP9 := hide hP9
                          clear hx9 bx hW9 hP9
                          have hgne : g < wc0.heap.size := (unhide HIc).blk.lt
                          have hgs9 := (unhide X9).size
                          go_wp2
                          go_meet
                          first
                            | exact ⟨_, _, _, _, _, _, _, rfl, rfl, Blk.new _ _ _, ⟨by omega, (unhide X9).alloc _⟩, (fun a b e => by cases e; exact ⟨rfl, rfl, ((unhide HW9).less (fun b h => .inl (.inl h))).ext ((Ext.refl _).alloc _), ((unhide HP9).less (fun b h => .inl (.inl h))).ext ((Ext.refl _).alloc _)⟩)⟩
                            | exact ⟨_, _, _, _, _, _, _, rfl, rfl, blkThree ((blkD (Blk.new wc0 _ _)).ext (unhide HX9)), ⟨by omega, extThree (unhide X9) (Nat.le_refl _)⟩, (fun a b e => by cases e; exact ⟨rfl, rfl, ((unhide HW9).out (outThree (.inr ⟨Nat.le_refl _, by rw [sizeD, World.size_alloc]; omega⟩))).less (fun b h => .inl (.inl h)), ((unhide HP9).out (outThree (.inr ⟨Nat.le_refl _, by rw [sizeD, World.size_alloc]; omega⟩))).less (fun b h => .inl (.inl h))⟩)⟩
                    · rw [if_neg hcc] at HPC
                      cases Dq with
                      | none =>
                        go_region_held3 (fun wx => wx.cell? ⟨g, 0, none⟩ = some (.slice wo ws.length wk) ∧ wx.cell? ⟨g, 1, none⟩ = some (.slice po ps.length pc) ∧ wx.cell? ⟨g, 2, none⟩ = some (.slice uo out.length uc)) (first | with_reducible exact unhide HKL _ (unhide XD) | with_reducible exact unhide HKL _ (unhide (XA _)) | with_reducible exact unhide HKL _ bx | with_reducible exact unhide HKL _ (bx.alloc _) | with_reducible exact unhide HKL _ (extThree bx (Nat.le_refl _))) (first | (go_at_call 13; refine (unhide HCL _ _ _ _ ?hx hTLl (unhide HPC)).mono ?_; (case hx => (first | with_reducible exact unhide XD | with_reducible exact unhide (XA _))); rintro e w9 ⟨hx9, xo, xn, xk, yo, yn, yk, rfl⟩; have bx : Ext wc0 w9 := (by first | with_reducible exact (unhide XD).trans hx9 | with_reducible exact (unhide (XA _)).trans hx9); try (have yb := Blk.ext (blkD (Blk.new wc0 #[.slice none 0 0, .slice none 0 0, .slice none 0 0] 47)) hx9; have y0 := yb.cell (i := 0) (v := .slice none 0 0) rfl; have y1 := yb.cell (i := 1) (v := .slice none 0 0) rfl; have y2 := yb.cell (i := 2) (v := .slice none 0 0) rfl; have fy := fun i => yb.free i)))
                        all_goals
                          have X9 := hide bx
                          have HX9 := hide hx9
                          clear hx9 bx
                          have hgne : g < wc0.heap.size := (unhide HIc).blk.lt
                          have hgs9 := (unhide X9).size
                          go_wp2
                          go_meet
                          first
                            | exact ⟨_, _, _, _, _, _, _, rfl, rfl, Blk.new _ _ _, ⟨by omega, (unhide X9).alloc _⟩, (fun a b e => by cases e)⟩
                            | exact ⟨_, _, _, _, _, _, _, rfl, rfl, blkThree ((blkD (Blk.new wc0 _ _)).ext (unhide HX9)), ⟨by omega, extThree (unhide X9) (Nat.le_refl _)⟩, (fun a b e => by cases e)⟩
                      | some p =>
                        obtain ⟨ws2, ps2⟩ := p
                        go_region_held3 (fun wx => wx.cell? ⟨g, 0, none⟩ = some (.slice wo ws.length wk) ∧ wx.cell? ⟨g, 1, none⟩ = some (.slice po ps.length pc) ∧ wx.cell? ⟨g, 2, none⟩ = some (.slice uo out.length uc)) (first | with_reducible exact unhide HKL _ (unhide XD) | with_reducible exact unhide HKL _ (unhide (XA _)) | with_reducible exact unhide HKL _ bx | with_reducible exact unhide HKL _ (bx.alloc _) | with_reducible exact unhide HKL _ (extThree bx (Nat.le_refl _))) (first | (go_at_call 13; refine (unhide HCL _ _ _ _ ?hx hTLl (unhide HPC)).mono ?_; (case hx => (first | with_reducible exact unhide XD | with_reducible exact unhide (XA _))); rintro e w9 ⟨hx9, xo, xk, yo, yk, rfl, hW9, hP9⟩; have bx : Ext wc0 w9 := (by first | with_reducible exact (unhide XD).trans hx9 | with_reducible exact (unhide (XA _)).trans hx9); try (have yb := Blk.ext (blkD (Blk.new wc0 #[.slice none 0 0, .slice none 0 0, .slice none 0 0] 47)) hx9; have y0 := yb.cell (i := 0) (v := .slice none 0 0) rfl; have y1 := yb.cell (i := 1) (v := .slice none 0 0) rfl; have y2 := yb.cell (i := 2) (v := .slice none 0 0) rfl; have fy := fun i => yb.free i)))
                        all_goals
                          have X9 := hide bx
                          have HX9 := hide hx9
                          have HW9 := hide hW9
                          have HP9 := hide hP9
                          clear hx9 bx hW9 hP9
                          have hgne : g < wc0.heap.size := (unhide HIc).blk.lt
                          have hgs9 := (unhide X9).size
                          go_wp2
                          go_meet
                          first
                            | exact ⟨_, _, _, _, _, _, _, rfl, rfl, Blk.new _ _ _, ⟨by omega, (unhide X9).alloc _⟩, (fun a b e => by cases e; exact ⟨rfl, rfl, ((unhide HW9).less (fun b h => .inl (.inl h))).ext ((Ext.refl _).alloc _), ((unhide HP9).less (fun b h => .inl (.inl h))).ext ((Ext.refl _).alloc _)⟩)⟩
                            | exact ⟨_, _, _, _, _, _, _, rfl, rfl, blkThree ((blkD (Blk.new wc0 _ _)).ext (unhide HX9)), ⟨by omega, extThree (unhide X9) (Nat.le_refl _)⟩, (fun a b e => by cases e; exact ⟨rfl, rfl, ((unhide HW9).out (outThree (.inr ⟨Nat.le_refl _, by rw [sizeD, World.size_alloc]; omega⟩))).less (fun b h => .inl (.inl h)), ((unhide HP9).out (outThree (.inr ⟨Nat.le_refl _, by rw [sizeD, World.size_alloc]; omega⟩))).less (fun b h => .inl (.inl h))⟩)⟩
                  case rest =>
                    obtain ⟨gx, xo, xn, xk, yo, yn, yk, rfl, rfl, hbx, ⟨hgx, hxc⟩, hres⟩ := hcut
                    rename World => wd
                    have XWD := hide hxc
                    have HId := hide ((unhide HIc).ext2 hxc)
                    have HBX := hide hbx
                    have HRES := hide hres
                    have HRi3 := hide (unhide HRi2)
                    clear hbx hres hxc m0 m1 m2 j0 j1 j2 j3 jt HKL XA XD HPC HCL
                    have X0d : Hid (Ext w wd) := (unhide X0).trans (unhide HId).ext
                    cases Dq with
                    | none =>
                      have hRr : RR = (([], []), 210, L[i].place) := by
                        rw [unhide HRi3, read_dir_none (unhide HH) (by rw [unhide HL3]; exact unhide HDQ), unhide HL2]
                      have hRq : R = ([], 210, L[i].place) := by
                        rw [unhide HR2, hRr]
                        exact if_pos (by simp)
                      subst hRq
                      have cp := ((unhide HTIc).ext (unhide XWD)).place
                      have HB3d := hide ((unhide HB30).ext (unhide HId).ext)
                      have s0 := (unhide HB3d).cell (i := 0) (v := .int .i64 0) rfl
                      have s1 := (unhide HB3d).cell (i := 1) (v := .int .i64 0) rfl
                      have fs := fun i => (unhide HB3d).free i
                      have B2 := (((unhide HB3d).set 0 (.int .i64 210)).set 1 (.int .i64 L[i].place))
                      have R0 := hide (B2.cell (i := 0) (v := .int .i64 210) (by simp [spotZ]))
                      have R1 := hide (B2.cell (i := 1) (v := .int .i64 L[i].place) (by simp [spotZ]))
                      clear B2 hRr
                      go_wp2
                      go_region
                      go_wp2
                      refine bodyPost_ret (v := .tuple #[.slice none 0 0, .agg #[.int .i64 210, .int .i64 L[i].place]]) (by have r0 := unhide R0; have r1 := unhide R1; simp [results, Tryd.results6, go_sem, r0, r1]) rfl ⟨none, 0, rfl, TR.nil _, ?_⟩
                      exact (extSet (extSet (unhide X0d) hgw) hgw).drew
                    | some p =>
                      obtain ⟨ws2, ps2⟩ := p
                      obtain ⟨rfl, rfl, hW2, hP2⟩ := unhide HRES ws2 ps2 rfl
                      have hdl := direct_len (unhide HDQ)
                      have hRr : RR = readR keptP (decide (n = 0)) ws2 ps2 out (linesP (L.drop n)) := by
                        rw [unhide HRi3, read_dir_some (unhide HH) (by rw [unhide HL3]; exact unhide HDQ), decide_eq_false (by omega)]
                      have x0 := (unhide HBX).cell (i := 0) (v := .slice xo ws2.length xk) rfl
                      have x1 := (unhide HBX).cell (i := 1) (v := .slice yo ps2.length yk) rfl
                      have x2 := (unhide HBX).cell (i := 2) (v := .slice uo out.length uc) rfl
                      have m0 := (unhide HId).blk.cell (i := 0) (v := .slice wo ws.length wk) rfl
                      have m1 := (unhide HId).blk.cell (i := 1) (v := .slice po ps.length pc) rfl
                      have m2 := (unhide HId).blk.cell (i := 2) (v := .slice uo out.length uc) rfl
                      have fm := fun i => (unhide HId).blk.free i
                      have HIz : Hid (RI w0 (((wd.setCell ⟨g, 0, none⟩ (.slice xo ws2.length xk)).setCell ⟨g, 1, none⟩ (.slice yo ps2.length yk)).setCell ⟨g, 2, none⟩ (.slice uo out.length uc)) g xo xk yo yk uo uc ws2 ps2 out) :=
                        ⟨extThree (unhide HId).ext (unhide HId).low, (unhide HId).low, blkThree (unhide HId).blk, hW2.out (outThree (.inl rfl)), hP2.out (outThree (.inl rfl)), TO.grown3 (unhide HId).told⟩
                      have HRz := hide hRr
                      clear hW2 hP2 hRr HRES HRi3 HBX
                      go_wp2
                      go_roundw
                      case rel =>
                        first
                          | exact ⟨n, _, _, _, _, _, _, ws2, ps2, out, by omega, rfl, unhide HIz, unhide HRz, by omega, by omega, hol⟩
                          | ((repeat apply Exists.intro); exact ⟨⟨n, _, _, _, _, _, _, ws2, ps2, out, by omega, rfl, unhide HIz, unhide HRz, by omega, by omega, hol⟩, rfl⟩)
                      case measure =>
                        simp [intOf]
                        omega
                -- END
                | false =>
                  have hnH : ¬ ((hd0 ((L.take n).drop i)).kind = 4 ∧ (hd0 ((L.take n).drop i)).text = [35]) := by
                    rw [unhide HL2]
                    exact of_decide_eq_false (unhide HHB)
                  have HNH := hide hnH
                  clear hnH HHB
                  have HCN := hide (refCounts_any ps wo ws.length wk po pc uo out.length uc wc0 (unhide HIc).parts (by omega))
                  obtain ⟨cn, hcn⟩ : ∃ cn, countsR ps = cn := ⟨_, rfl⟩
                  rw [hcn] at HCN
                  have HC := hide hcn
                  have m0 := (unhide HIc).blk.cell (i := 0) (v := .slice wo ws.length wk) rfl
                  have m1 := (unhide HIc).blk.cell (i := 1) (v := .slice po ps.length pc) rfl
                  have m2 := (unhide HIc).blk.cell (i := 2) (v := .slice uo out.length uc) rfl
                  clear hcn
                  go_wp2_with fail
                  refine (unhide HCN).mono ?_
                  rintro e we ⟨rfl, hxe⟩
                  have HIe := hide ((unhide HIc).ext2 hxe)
                  clear hxe HCN m0 m1 m2
                  cases cn with
                  | false =>
                    have hRr : RR = readR keptP (decide (n = 0)) ws ps out (linesP (L.drop n)) := by
                      rw [unhide HRi2, read_idle (unhide HNH) (unhide HC), decide_eq_false (by omega)]
                    have HRz := hide hRr
                    clear hRr
                    go_wp2
                    go_roundw
                    case rel =>
                      first
                        | exact ⟨n, _, _, _, _, _, _, ws, ps, out, by omega, rfl, unhide HIe, unhide HRz, by omega, by omega, hol⟩
                        | ((repeat apply Exists.intro); exact ⟨⟨n, _, _, _, _, _, _, ws, ps, out, by omega, rfl, unhide HIe, unhide HRz, by omega, by omega, hol⟩, rfl⟩)
                    case measure =>
                      simp [intOf]
                      omega
                  | true =>
                    obtain ⟨LR, hLR⟩ : ∃ LR, lineR ws out ((L.take n).drop i) = LR := ⟨_, rfl⟩
                    have hRi4 : RR = if (lineR ws out ((L.take n).drop i)).2.1 ≠ 0 then (([], []), (lineR ws out ((L.take n).drop i)).2) else readR keptP false ws ps (lineR ws out ((L.take n).drop i)).1 (linesP (L.drop n)) := by
                      rw [unhide HRi2, read_told (unhide HNH) (unhide HC)]
                    have HRi4 := hide hRi4
                    have HLR0 : Hid (LR = lineR ws out ((L.take n).drop i)) := hLR.symm
                    clear hRi4 hLR HRi2 HNH HC
                    have hMl : (L.take n).length = n := by rw [List.length_take]; omega
                    have HML := hide hMl
                    clear hMl
                    go_wp2
                    go_loopw [11] (fun kv wr => ∃ (k : Nat) (o2 : List Tok) (vo : Option Addr) (vc : Nat), i ≤ k ∧ k ≤ n ∧ kv = .int .i64 (k : Int) ∧ RI w0 wr g wo wk po pc vo vc ws ps o2 ∧ LR = lineR ws o2 ((L.take n).drop k) ∧ o2.length ≤ 2048) (fun kv _ => n - (intOf kv).toNat)
                    case atStart => exact ⟨i, out, uo, uc, Nat.le_refl _, by omega, rfl, unhide HIe, unhide HLR0, hol⟩
                    case round =>
                      obtain ⟨k, o2, vo, vc, hk1, hk2, rfl, hIk, hLk, ho2⟩ := hrel
                      rename World => wk0
                      have HIk := hide hIk
                      have HLk := hide hLk
                      clear hIk hLk HIe
                      by_cases hkn : k < n
                      · have hkL : k < L.length := by omega
                        obtain ⟨bk, ok, ek, htk⟩ := ((unhide HT0).ext (unhide HIk).ext).at k hkL
                        cases ek
                        have hLs := unhide HLk
                        rw [List.drop_eq_getElem_cons (by rw [unhide HML]; exact hkn), List.getElem_take] at hLs
                        have hto := unhide HLT L[k] (List.getElem_mem hkL)
                        obtain ⟨t, ht⟩ : ∃ t, L[k] = t := ⟨_, rfl⟩
                        rw [ht] at htk hLs hto
                        rw [lineR] at hLs
                        have HTK := hide htk
                        have hcl := fun W (hx : Ext wk0 W) => refReplace_any ws t hto.2.1 hto.2.2.1 (by omega) 2049 [] t 0 wo wk po ps.length pc vo o2.length vc none 0 W ((unhide HIk).words.ext hx) (GO.nil _ _) (by omega) (by omega) (by simp)
                        have hfx := repl_facts ws t.place t.line 2049 [] t 0
                        obtain ⟨q, hq⟩ : ∃ q, replR ws t.place t.line 2049 [] t 0 = q := ⟨_, rfl⟩
                        rw [hq] at hcl hfx hLs
                        have HKL : Hid (∀ wx, Ext wk0 wx → wx.cell? ⟨g, 0, none⟩ = some (.slice wo ws.length wk) ∧ wx.cell? ⟨g, 1, none⟩ = some (.slice po ps.length pc) ∧ wx.cell? ⟨g, 2, none⟩ = some (.slice vo o2.length vc) ∧ wx.cell? ⟨bL, oL + k * 5, none⟩ = some (.int .i64 t.kind) ∧ wx.cell? ⟨bL, oL + k * 5 + 1, none⟩ = some (.string ⟨t.text.toArray⟩) ∧ wx.cell? ⟨bL, oL + k * 5 + 2, none⟩ = some (.int .i32 t.num) ∧ wx.cell? ⟨bL, oL + k * 5 + 3, none⟩ = some (.int .i64 t.place) ∧ wx.cell? ⟨bL, oL + k * 5 + 4, none⟩ = some (.int .i64 t.line)) := fun wx hx => by
                          have hb := (unhide HIk).blk.ext hx
                          have h5 := htk.ext hx
                          exact ⟨hb.cell (i := 0) rfl, hb.cell (i := 1) rfl, hb.cell (i := 2) rfl, h5.kind, h5.text, h5.num, h5.place, h5.line⟩
                        have XD : Hid (Ext wk0 wk0.drew) := (Ext.refl _).drew
                        have HCL := hide hcl
                        have HFX := hide hfx
                        have HLS := hide hLs
                        clear hcl hfx hLs htk hq ht hto HLk
                        cases q with
                        | none =>
                          go_wp2_with fail
                          go_region_held3 (fun wx => wx.cell? ⟨g, 0, none⟩ = some (.slice wo ws.length wk) ∧ wx.cell? ⟨g, 1, none⟩ = some (.slice po ps.length pc) ∧ wx.cell? ⟨g, 2, none⟩ = some (.slice vo o2.length vc) ∧ wx.cell? ⟨bL, oL + k * 5, none⟩ = some (.int .i64 t.kind) ∧ wx.cell? ⟨bL, oL + k * 5 + 1, none⟩ = some (.string ⟨t.text.toArray⟩) ∧ wx.cell? ⟨bL, oL + k * 5 + 2, none⟩ = some (.int .i32 t.num) ∧ wx.cell? ⟨bL, oL + k * 5 + 3, none⟩ = some (.int .i64 t.place) ∧ wx.cell? ⟨bL, oL + k * 5 + 4, none⟩ = some (.int .i64 t.line)) (first | with_reducible exact unhide HKL _ (unhide XD) | with_reducible exact unhide HKL _ bx) (first | (go_at_call 15; refine (unhide HCL _ (unhide XD)).mono ?_; rintro e w9 ⟨hx9, dn, rfl⟩; have bx : Ext wk0 w9 := (unhide XD).trans hx9))
                          have X9 := hide bx
                          clear hx9 bx HKL HCL HFX XD
                          have hLq : LR = ([], 3, t.place) := unhide HLS
                          have hRq : R = ([], 3, t.place) := by
                            have h3 : RR = (([], []), 3, t.place) := by
                              rw [unhide HRi4, ← unhide HLR0, hLq]
                              exact if_pos (by simp)
                            rw [unhide HR2, h3]
                            exact if_pos (by simp)
                          subst hRq
                          have X9w : Hid (Ext w w9) := (unhide X0).trans ((unhide HIk).ext.trans (unhide X9))
                          have cp := cellExt (unhide X9) (unhide HTK).place
                          have HB3d := hide (((unhide HB30).ext (unhide HIk).ext).ext (unhide X9))
                          have s0 := (unhide HB3d).cell (i := 0) (v := .int .i64 0) rfl
                          have s1 := (unhide HB3d).cell (i := 1) (v := .int .i64 0) rfl
                          have fs := fun i => (unhide HB3d).free i
                          have B2 := (((unhide HB3d).set 0 (.int .i64 3)).set 1 (.int .i64 t.place))
                          have R0 := hide (B2.cell (i := 0) (v := .int .i64 3) (by simp [spotZ]))
                          have R1 := hide (B2.cell (i := 1) (v := .int .i64 t.place) (by simp [spotZ]))
                          clear B2 hLq
                          go_wp2
                          go_region
                          go_wp2
                          refine bodyPost_ret (v := .tuple #[.slice none 0 0, .agg #[.int .i64 3, .int .i64 t.place]]) (by have r0 := unhide R0; have r1 := unhide R1; simp [results, Tryd.results6, go_sem, r0, r1]) rfl ⟨none, 0, rfl, TR.nil _, ?_⟩
                          exact (extSet (extSet (unhide X9w) hgw) hgw).drew
                        | some p =>
                          obtain ⟨x, m⟩ := p
                          obtain ⟨f1, f2, f3⟩ := unhide HFX x m rfl
                          have f2 := f2 (by omega)
                          have hLt : LR = if 2048 < o2.length + x.length then ([], 3, t.place) else lineR ws (o2 ++ x) ((L.take n).drop (k + 1)) := unhide HLS
                          go_wp2_with fail
                          go_region_held3 (fun wx => wx.cell? ⟨g, 0, none⟩ = some (.slice wo ws.length wk) ∧ wx.cell? ⟨g, 1, none⟩ = some (.slice po ps.length pc) ∧ wx.cell? ⟨g, 2, none⟩ = some (.slice vo o2.length vc) ∧ wx.cell? ⟨bL, oL + k * 5, none⟩ = some (.int .i64 t.kind) ∧ wx.cell? ⟨bL, oL + k * 5 + 1, none⟩ = some (.string ⟨t.text.toArray⟩) ∧ wx.cell? ⟨bL, oL + k * 5 + 2, none⟩ = some (.int .i32 t.num) ∧ wx.cell? ⟨bL, oL + k * 5 + 3, none⟩ = some (.int .i64 t.place) ∧ wx.cell? ⟨bL, oL + k * 5 + 4, none⟩ = some (.int .i64 t.line)) (first | with_reducible exact unhide HKL _ (unhide XD) | with_reducible exact unhide HKL _ bx) (first | (go_at_call 15; refine (unhide HCL _ (unhide XD)).mono ?_; rintro e w9 ⟨hx9, xo, xc, rfl, hX9⟩; have bx : Ext wk0 w9 := (unhide XD).trans hx9))
                          have X9 := hide bx
                          have HX9 := hide hX9
                          have HI9 := hide ((unhide HIk).ext2 bx)
                          have HAP : Hid (∀ b, (Value.slice xo x.length xc).ownBlock = some b → ¬ TT g (.slice vo o2.length vc) b) := fun b hb ht => by
                            have h1 := (World.ownsRow.lt hX9 b hb).1
                            rw [sizeD] at h1
                            rcases ht with h | h
                            · have := (unhide HIk).blk.lt
                              omega
                            · have := (World.ownsRow.lt (unhide HIk).told b h).2
                              omega
                          have m2 := (unhide HI9).blk.cell (i := 2) (v := .slice vo o2.length vc) rfl
                          clear hx9 bx hX9 HKL HCL HFX XD HLS
                          by_cases hov : 2048 < o2.length + x.length
                          · rw [if_pos hov] at hLt
                            have HLT2 := hide hLt
                            have q1 : decide ((2048 : Int) < (o2.length : Int) + (x.length : Int)) = true := decide_eq_true (by omega)
                            clear hLt
                            have hLq : LR = ([], 3, t.place) := unhide HLT2
                            have hRq : R = ([], 3, t.place) := by
                              have h3 : RR = (([], []), 3, t.place) := by
                                rw [unhide HRi4, ← unhide HLR0, hLq]
                                exact if_pos (by simp)
                              rw [unhide HR2, h3]
                              exact if_pos (by simp)
                            subst hRq
                            have X9w : Hid (Ext w w9) := (unhide X0).trans ((unhide HIk).ext.trans (unhide X9))
                            have cp := cellExt (unhide X9) (unhide HTK).place
                            have HB3d := hide (((unhide HB30).ext (unhide HIk).ext).ext (unhide X9))
                            have s0 := (unhide HB3d).cell (i := 0) (v := .int .i64 0) rfl
                            have s1 := (unhide HB3d).cell (i := 1) (v := .int .i64 0) rfl
                            have fs := fun i => (unhide HB3d).free i
                            have B2 := (((unhide HB3d).set 0 (.int .i64 3)).set 1 (.int .i64 t.place))
                            have R0 := hide (B2.cell (i := 0) (v := .int .i64 3) (by simp [spotZ]))
                            have R1 := hide (B2.cell (i := 1) (v := .int .i64 t.place) (by simp [spotZ]))
                            clear B2 hLq
                            go_wp2
                            go_region
                            go_wp2
                            refine bodyPost_ret (v := .tuple #[.slice none 0 0, .agg #[.int .i64 3, .int .i64 t.place]]) (by have r0 := unhide R0; have r1 := unhide R1; simp [results, Tryd.results6, go_sem, r0, r1]) rfl ⟨none, 0, rfl, TR.nil _, ?_⟩
                            exact (extSet (extSet (unhide X9w) hgw) hgw).drew
                          · rw [if_neg hov] at hLt
                            have HLT2 := hide hLt
                            have q1 : decide ((2048 : Int) < (o2.length : Int) + (x.length : Int)) = false := decide_eq_false (by omega)
                            clear hLt
                            go_wp2
                            go_loopw [15] (fun jv wr => ∃ (j : Nat) (o3 : List Tok) (zo : Option Addr) (zc : Nat), j ≤ x.length ∧ jv = .int .i64 (j : Int) ∧ o3 = o2 ++ x.take j ∧ RI w0 wr g wo wk po pc zo zc ws ps o3 ∧ TO wr 0 (.slice xo x.length xc) x ∧ (∀ b, (Value.slice xo x.length xc).ownBlock = some b → ¬ TT g (.slice zo o3.length zc) b)) (fun jv _ => x.length - (intOf jv).toNat)
                            case atStart => exact ⟨0, o2, vo, vc, by omega, rfl, by simp, unhide HI9, (unhide HX9).lower (Nat.zero_le _), unhide HAP⟩
                            case round =>
                              obtain ⟨j, o3, zo, zc, hj, rfl, ho3, hI3, hX3, hap3⟩ := hrel
                              have hol3 : o3.length ≤ 2048 := by rw [ho3, List.length_append, List.length_take]; omega
                              have HI3 := hide hI3
                              have HX3 := hide hX3
                              have HAP3 := hide hap3
                              have HO3 := hide ho3
                              clear hI3 hX3 hap3 ho3 m2 HI9
                              by_cases hjl : j < x.length
                              · obtain ⟨bx, ox, ex, hxj⟩ := (unhide HX3).tr.at j hjl
                                subst ex
                                have hE : o3 ++ [x[j]] = o2 ++ x.take (j + 1) := by rw [unhide HO3, List.take_succ_eq_append_getElem hjl]; simp
                                obtain ⟨z, hz⟩ : ∃ z, x[j] = z := ⟨_, rfl⟩
                                rw [hz] at hxj hE
                                have HE := hide hE
                                obtain ⟨no, nc, N, w5, hN, hrun, hbw, hIn, hout, hloc⟩ := (unhide HI3).app z (by omega)
                                rw [unhide HE] at hN
                                have hXn : TO (w5.setCell ⟨g, 2, none⟩ (.slice no N.length nc)) 0 (.slice (some ⟨bx, ox, none⟩) x.length xc) x := ownsKept (unhide HX3) hout (fun b hb ht => by
                                  rcases ht with h | h
                                  · exact unhide HAP3 b hb h
                                  · have := (World.ownsRow.lt (unhide HX3) b hb).2
                                    omega)
                                have hapn : ∀ b, (Value.slice (some ⟨bx, ox, none⟩) x.length xc).ownBlock = some b → ¬ TT g (.slice no N.length nc) b := fun b hb ht => by
                                  rcases ht with h | h
                                  · exact unhide HAP3 b hb (.inl h)
                                  · rcases hloc b h with h2 | h2
                                    · exact unhide HAP3 b hb (.inr h2)
                                    · have := (World.ownsRow.lt (unhide HX3) b hb).2
                                      omega
                                have c0 := hxj.kind; have c1 := hxj.text; have c2 := hxj.num; have c3 := hxj.place; have c4 := hxj.line
                                have m2 := (unhide HI3).blk.cell (i := 2) (v := .slice zo o3.length zc) rfl
                                have hgl3 := (unhide HI3).blk.lt
                                have m2a : ∀ o, (wr.alloc o).cell? ⟨g, 2, none⟩ = some (.slice zo o3.length zc) := fun o => cellExt ((Ext.refl _).alloc o) m2
                                have cO5 := hbw.cell (i := 2) (v := .slice zo o3.length zc) rfl
                                have fO5 := hbw.free 2
                                have HRUN : Hid ((Builtin.append_ #[23, 23] 23 #[.slice zo o3.length zc, .slice (some ⟨wr.heap.size, 0, none⟩) 1 1]).run Tryd.prog (wr.alloc (.cells #[.int .i64 (z).kind, .string ⟨(z).text.toArray⟩, .int .i32 (z).num, .int .i64 (z).place, .int .i64 (z).line] 33)).drew = .ok (.slice no N.length nc) w5) := hrun
                                have HN := hide hN
                                have HIN := hide hIn
                                have HXN := hide hXn
                                have HAPN := hide hapn
                                clear hxj hz hE hN hrun hbw hIn hout hloc hXn hapn
                                go_wp2_with fail
                                go_region_law ((refine step_runR (by rfl) (.tmp 135) (.tmp 140) 23 (by rfl) (by rfl) (by rfl) (unhide HRUN) ?_))
                                all_goals go_wp2
                                all_goals go_roundw
                                all_goals first
                                  | exact ⟨j + 1, N, no, nc, by omega, by push_cast; rfl, unhide HN, unhide HIN, unhide HXN, unhide HAPN⟩
                                  | (simp [intOf]; omega)
                              · have ho4 : o3 = o2 ++ x := by rw [unhide HO3, List.take_of_length_le (by omega)]
                                rw [← ho4] at HLT2
                                have HLz := hide (unhide HLT2)
                                clear ho4 HLT2
                                go_wp2
                                go_roundw
                                case rel =>
                                  first
                                    | exact ⟨k + 1, o3, zo, zc, by omega, by omega, by push_cast; rfl, unhide HI3, unhide HLz, hol3⟩
                                    | ((repeat apply Exists.intro); exact ⟨⟨k + 1, o3, zo, zc, by omega, by omega, by push_cast; rfl, unhide HI3, unhide HLz, hol3⟩, rfl⟩)
                                case measure =>
                                  simp [intOf]
                                  omega
                      · have hLz : LR = (o2, 0, 0) := by
                          rw [unhide HLk, List.drop_of_length_le (by rw [unhide HML]; omega)]
                          rfl
                        have hRr : RR = readR keptP (decide (n = 0)) ws ps o2 (linesP (L.drop n)) := by
                          rw [unhide HRi4, ← unhide HLR0, hLz, decide_eq_false (by omega)]
                          exact if_neg (by simp)
                        have HRz := hide hRr
                        clear hRr hLz
                        go_wp2
                        go_roundw
                        case rel =>
                          first
                            | exact ⟨n, _, _, _, _, _, _, ws, ps, o2, by omega, rfl, unhide HIk, unhide HRz, by omega, by omega, ho2⟩
                            | ((repeat apply Exists.intro); exact ⟨⟨n, _, _, _, _, _, _, ws, ps, o2, by omega, rfl, unhide HIk, unhide HRz, by omega, by omega, ho2⟩, rfl⟩)
                        case measure =>
                          simp [intOf]
                          omega
      · have hRr : RR = ((out, ps), 0, 0) := by
          rw [unhide HRi, List.drop_of_length_le (by omega)]
          rfl
        have X0a : Hid (Ext w wa) := (unhide X0).trans (unhide HI).ext
        have HB3a := hide ((unhide HB30).ext (unhide HI).ext)
        have m1 := (unhide HI).blk.cell (i := 1) (v := .slice po ps.length pc) rfl
        have m2 := (unhide HI).blk.cell (i := 2) (v := .slice uo out.length uc) rfl
        have s0 := (unhide HB3a).cell (i := 0) (v := .int .i64 0) rfl
        have s1 := (unhide HB3a).cell (i := 1) (v := .int .i64 0) rfl
        have fs := fun i => (unhide HB3a).free i
        by_cases hps : ps = []
        · have hRq : R = (out, 0, 0) := by
            rw [unhide HR2, hRr, hps]
            simp
          subst hRq
          subst hps
          have B2 := (((unhide HB3a).set 0 (.int .i64 0)).set 1 (.int .i64 0))
          have R0 := hide (B2.cell (i := 0) (v := .int .i64 0) (by simp [spotZ]))
          have R1 := hide (B2.cell (i := 1) (v := .int .i64 0) (by simp [spotZ]))
          clear B2 hRr
          go_wp2
          refine bodyPost_ret (v := .tuple #[.slice uo out.length uc, .agg #[.int .i64 0, .int .i64 0]]) (by have r0 := unhide R0; have r1 := unhide R1; simp [results, Tryd.results6, go_sem, r0, r1]) rfl ⟨uo, uc, rfl, ?_, ?_⟩
          · exact (TO.keep (TO.keep (unhide HI).told (grownBy_set _ g3 0 _) (fun b hb => by have h1 := (World.ownsRow.lt (unhide HI).told b hb).1; have h2 := unhide HLOW; omega)) (grownBy_set _ g3 1 _) (fun b hb => by have h1 := (World.ownsRow.lt (unhide HI).told b hb).1; have h2 := unhide HLOW; omega)).tr
          · exact extSet (extSet (unhide X0a) hgw) hgw
        · have hpos : 0 < ps.length := List.length_pos_iff.2 hps
          have hRq : R = ([], 210, (s.size : Int)) := by
            rw [unhide HR2, hRr, if_neg (by simp)]
            exact if_pos hps
          subst hRq
          have dp : decide ((0 : Int) < (ps.length : Int)) = true := decide_eq_true (by omega)
          have B2 := (((unhide HB3a).set 0 (.int .i64 210)).set 1 (.int .i64 (s.size : Int)))
          have R0 := hide (B2.cell (i := 0) (v := .int .i64 210) (by simp [spotZ]))
          have R1 := hide (B2.cell (i := 1) (v := .int .i64 (s.size : Int)) (by simp [spotZ]))
          clear B2 hRr hps
          go_wp2
          refine bodyPost_ret (v := .tuple #[.slice none 0 0, .agg #[.int .i64 210, .int .i64 (s.size : Int)]]) (by have r0 := unhide R0; have r1 := unhide R1; simp [results, Tryd.results6, go_sem, r0, r1]) rfl ⟨none, 0, rfl, TR.nil _, ?_⟩
          exact extSet (extSet (unhide X0a) hgw) hgw
  · have b0 : (le == 0) = false := beq_eq_false_iff_ne.2 hle
    have hRq : R = ([], le, lp) := by
      rw [unhide HR]
      exact if_pos hle
    subst hRq
    have B2 := (((unhide HB3).set 0 (.int .i64 le)).set 1 (.int .i64 lp))
    have R0 := hide (B2.cell (i := 0) (v := .int .i64 le) (by simp [spotZ]))
    have R1 := hide (B2.cell (i := 1) (v := .int .i64 lp) (by simp [spotZ]))
    clear B2
    rw [unhide HW3] at R0 R1
    go_wp2
    go_region
    go_wp2
    refine bodyPost_ret (v := .tuple #[.slice none 0 0, .agg #[.int .i64 le, .int .i64 lp]]) (by have r0 := unhide R0; have r1 := unhide R1; simp [results, Tryd.results6, go_sem, r0, r1]) rfl ⟨none, 0, rfl, TR.nil _, ?_⟩
    rw [← unhide HW3]
    exact (extSet (extSet (unhide X3) hgw) hgw).drew
end Go.Proofs.YtdcamcpffiilbaaDoor
