/-
  The document's store of buffers: the walk of without.
-/
import Derived.Test.YtagbenjaidikmaaBR
import Derived.Deep.RegionLaw
namespace Go.Proofs.Ytagbenjaidikmaa
open Go.RowKit

theorem infoB : (Try.prog.info? 49).map (fun i => (i.zero, i.size, i.bytes)) = some (some (.agg #[.int .i64 0, .slice none 0 0]), 2, 32) := by kernel_rfl

section
variable {w w' : World} {T : Nat → Prop} {base : Nat} {v : Value} {L : List Ent}
theorem RB.lower {b2 : Nat} (h : RB w T base v L) (hb : b2 ≤ base) : RB w T b2 v L := by
  refine ⟨⟨h.own.1, ?_⟩, h.far, h.row, h.farR, h.rise, h.ids⟩
  rcases h.own.2 with hn | ⟨g, cap, cur, e, h1, r⟩
  · exact .inl hn
  · exact .inr ⟨g, cap, cur, e, by omega, r⟩
/-- 'append(out, x)' of the document's buffers: the block of x was laid last. -/
theorem append_B (h : RB w T base v L) (hb : base ≤ w.heap.size) (hL : L.length ≤ 1000000) (x : Ent) {ao : Option Addr} {n cap : Nat} (hx : x.2.1 = .slice ao n cap) :
    ∃ ao' cap' w2, (Builtin.append_ #[31, 31] 31 #[v, .slice (some ⟨w.heap.size, 0, none⟩) 1 1]).run Try.prog (w.alloc (.cells #[.int .i64 x.1, x.2.1] 49)) = .ok (.slice ao' (L.length + 1) cap') w2 ∧
      w2.ownsRow base 49 2 (.slice ao' (L.length + 1) cap') (L.length + 1) (bcells (L ++ [x])) ∧ (w.alloc (.cells #[.int .i64 x.1, x.2.1] 49)).grownBy w2 v.ownBlock ∧ ∀ b, (Value.slice ao' (L.length + 1) cap').ownBlock = some b → v.ownBlock = some b ∨ w.heap.size < b := by
  obtain ⟨i0, hi, hz0, hz1, hz2⟩ := info_parts infoB
  have hown := World.ownsRow.alloc h.own (.cells #[.int .i64 x.1, x.2.1] 49)
  obtain ⟨v', w2, hrun, h1, h2, _, h4⟩ := run_append_own_at (P := Try.prog) (w.alloc (.cells #[.int .i64 x.1, x.2.1] 49)) base 31 31 49 i0 _ 2 32 Try.underlying31 hi hz0 hz1 hz2 rfl (by decide) v L.length (bcells L) hown ⟨w.heap.size, 0, none⟩ 1 1 [.int .i64 x.1, x.2.1] rfl
    (by
      intro j u hu
      have hB := Blk.new w #[.int .i64 x.1, x.2.1] 49
      rw [Addr.add_lit, Nat.zero_add]
      exact hB.cell (by simpa using hu))
    (by
      intro u hu
      simp at hu
      rcases hu with rfl | rfl
      · rfl
      · rw [hx]; rfl)
    (by unfold maxLen; omega) (by omega) (by simp; omega)
  rw [← bcells_snoc] at h1
  have hsh : ∃ ao' cap', v' = .slice ao' (L.length + 1) cap' := by
    rcases h1.2 with ⟨e, h0⟩ | ⟨g, c, cur, e, _⟩
    · omega
    · exact ⟨_, _, e⟩
  obtain ⟨ao', cap', rfl⟩ := hsh
  refine ⟨ao', cap', w2, hrun, h1, h2, fun b hb2 => ?_⟩
  rcases h4 with h4 | h4
  · exact .inl (h4 ▸ hb2)
  · rw [h4] at hb2
    simp at hb2
    exact .inr (by omega)
end

/-- 'append' at a step of a region that draws, its run known. -/
theorem step_run {P : Program} {ops : Array Oper} {o : Oper} {a : Act} {w w' : World} {K : Act → World → Prop} {Q : Exit → Act → World → Prop} {E : Prop} (hgd : o.guard = none) (s x : Operand) (t : TypeId)
    (ho : o.op = .call { callee := .builtin .append, args := #[s, x], argTypes := #[t, t] }) {v vx v' : Value} (hs : a.eval s = v) (hx : a.eval x = vx) (hr : (Builtin.append_ #[t, t] o.type #[v, vx]).run P w = .ok v' w') (h : K (a.put o.dst v') w') :
    if Region.wanted o (yielded ops a.tmps) = true then Oper.wp P o a w K Q else E := by
  have hw : Region.wanted o (yielded ops a.tmps) = true := by simp [Region.wanted, hgd]
  rw [if_pos hw]
  unfold Oper.wp execOp
  simp only [ho, resolve, invoke, builtin, Sem.run_bind, Sem.run_pure, Result.andThen_ok, List.map_toArray, List.map_cons, List.map_nil, hs, hx, hr]
  exact h
/-- A row of some of the buffers. -/
theorem RB.part {w w' : World} {T : Nat → Prop} {base b2 : Nat} {v v' : Value} {L L' : List Ent} (h : RB w T base v L) (hx : Ext w w') (hs : L'.Sublist L) (hown : w'.ownsRow b2 49 2 v' L'.length (bcells L')) (hfar : ∀ b, v'.ownBlock = some b → ¬ T b) : RB w' T b2 v' L' :=
  ⟨hown, hfar, fun p hp => (h.row p (hs.mem hp)).ext hx, fun p hp => h.farR p (hs.mem hp), List.Pairwise.sublist hs h.rise, fun p hp => h.ids p (hs.mem hp)⟩
theorem rem_snoc (id : Int) (L : List Ent) (k : Nat) (h : k < L.length) : rem id (L.take (k + 1)) = if L[k].1 = id then rem id (L.take k) else rem id (L.take k) ++ [L[k]] := by
  unfold rem
  rw [List.take_succ_eq_append_getElem h, List.filter_append]
  split
  · rename_i e
    simp [e]
  · rename_i e
    simp [e]

section
variable {w : World} {T : Nat → Prop} {base : Nat} {v : Value} {L : List Ent} {all : Int}
set_option maxRecDepth 10000 in
set_option maxHeartbeats 4000000 in
theorem without_any (h : RB w T base v L) (hT : ∀ b, T b → b < w.heap.size) (hb : base ≤ w.heap.size) (hL : L.length ≤ 1000000) (id : Int) :
    Calls Try.prog 29 #[.agg (rsto all v), .int .i64 id] w fun e w' => ∃ v', e = .returned (.agg (rsto all v')) ∧ RB w' T base v' (rem id L) ∧ Ext w w' := by
  obtain ⟨ao, cap, rfl, hao, hlc, hcm⟩ := h.shape
  have hcm2 : cap ≤ 9223372036854775807 := by unfold maxLen at hcm; omega
  have HH := hide h
  have HT := hide hT
  clear h hao hcm hT
  unfold rsto
  go_enter Try.func29, Try.ntmps29
  go_wp2_with fail
  have hB0 := ((Blk.new w #[.int .i64 all, .slice ao L.length cap] 33).alloc (.cells #[.int .i64 0, .slice none 0 0] 33)).alloc (.cells #[.int .i64 all, .slice none 0 0] 33)
  have hB1 : Blk (((w.alloc (.cells #[.int .i64 all, .slice ao L.length cap] 33)).alloc (.cells #[.int .i64 0, .slice none 0 0] 33)).alloc (.cells #[.int .i64 all, .slice none 0 0] 33)) (w.heap.size + 1) #[.int .i64 0, .slice none 0 0] 33 := by
    have h := Blk.new (w.alloc (.cells #[.int .i64 all, .slice ao L.length cap] 33)) #[.int .i64 0, .slice none 0 0] 33
    rw [show (w.alloc (.cells #[.int .i64 all, .slice ao L.length cap] 33)).heap.size = w.heap.size + 1 by simp] at h
    exact h.alloc _
  have hB2 : Blk (((w.alloc (.cells #[.int .i64 all, .slice ao L.length cap] 33)).alloc (.cells #[.int .i64 0, .slice none 0 0] 33)).alloc (.cells #[.int .i64 all, .slice none 0 0] 33)) (w.heap.size + 1 + 1) #[.int .i64 all, .slice none 0 0] 33 := by
    have h := Blk.new ((w.alloc (.cells #[.int .i64 all, .slice ao L.length cap] 33)).alloc (.cells #[.int .i64 0, .slice none 0 0] 33)) #[.int .i64 all, .slice none 0 0] 33
    rw [show ((w.alloc (.cells #[.int .i64 all, .slice ao L.length cap] 33)).alloc (.cells #[.int .i64 0, .slice none 0 0] 33)).heap.size = w.heap.size + 1 + 1 by simp] at h
    exact h
  have hX0 := (((Ext.refl w).alloc (.cells #[.int .i64 all, .slice ao L.length cap] 33)).alloc (.cells #[.int .i64 0, .slice none 0 0] 33)).alloc (.cells #[.int .i64 all, .slice none 0 0] 33)
  generalize (((w.alloc (.cells #[.int .i64 all, .slice ao L.length cap] 33)).alloc (.cells #[.int .i64 0, .slice none 0 0] 33)).alloc (.cells #[.int .i64 all, .slice none 0 0] 33)) = w3 at hB0 hB1 hB2 hX0 ⊢
  have H0 := hide (And.intro hB0 (And.intro hB1 (And.intro hB2 hX0)))
  clear hB0 hB1 hB2 hX0
  go_loopw [6] (fun i wr => ∃ (k : Nat) (vo : Value), k ≤ L.length ∧ i = .int .i64 (k : Int) ∧ Blk wr w.heap.size #[.int .i64 all, .slice ao L.length cap] 33 ∧ Blk wr (w.heap.size + 1) #[.int .i64 0, .slice none 0 0] 33 ∧ Blk wr (w.heap.size + 1 + 1) #[.int .i64 all, vo] 33 ∧ RB wr T w.heap.size vo (rem id (L.take k)) ∧ (∀ b, vo.ownBlock = some b → w.heap.size + 3 ≤ b) ∧ Ext w wr) (fun i _ => L.length - (intOf i).toNat)
  case atStart => exact ⟨0, .slice none 0 0, Nat.zero_le _, rfl, (unhide H0).1, (unhide H0).2.1, (unhide H0).2.2.1, RB.nil _ _ _, by simp [Value.ownBlock], (unhide H0).2.2.2⟩
  case round =>
    clear H0
    obtain ⟨k, vo, hk, rfl, hB0, hB1, hB2, hO, hnew, hX⟩ := hrel
    have cS : wr.cell? ⟨w.heap.size, 1, none⟩ = some (.slice ao L.length cap) := hB0.cell (i := 1) rfl
    by_cases hlt : k < L.length
    · have hR := (unhide HH).ext hX
      obtain ⟨g, rfl, c1, c2⟩ := hR.at k hlt
      have hkn : (k : Int) < (L.length : Int) := by omega
      have hsn := rem_snoc id L k hlt
      by_cases he : L[k].1 = id
      · rw [if_pos he] at hsn
        have hne : (L[k].1 != id) = false := by simp [he]
        have HR := hide (And.intro hB0 (And.intro hB1 (And.intro hB2 (And.intro (hsn ▸ hO) (And.intro hnew hX)))))
        generalize L[k].1 = j at c1 hne
        clear hB0 hB1 hB2 hO hnew hX hR he hsn c2
        go_wp2
        go_roundw
        case rel => exact ⟨k + 1, vo, by omega, by go_num, (unhide HR).1, (unhide HR).2.1, (unhide HR).2.2.1, (unhide HR).2.2.2.1, (unhide HR).2.2.2.2.1, (unhide HR).2.2.2.2.2⟩
        case measure => simp [intOf]; omega
      · rw [if_neg he] at hsn
        have hne : (L[k].1 != id) = true := by simp [he]
        obtain ⟨ao2, cap2, rfl, _⟩ := hO.shape
        have cO : wr.cell? ⟨w.heap.size + 1 + 1, 1, none⟩ = some (.slice ao2 (rem id (L.take k)).length cap2) := hB2.cell (i := 1) rfl
        have hxd : Ext wr wr.drew := (Ext.refl wr).drew
        have hrow := hR.row _ (List.getElem_mem hlt)
        obtain ⟨eo, ecap, ee, _⟩ := hrow.shape
        have hrl : (rem id (L.take k)).length ≤ 1000000 := by
          have h1 := len_rem id (L.take k)
          rw [List.length_take] at h1
          omega
        obtain ⟨ao3, cap3, w5, hrun, hown5, hg5, hloc⟩ := append_B (hO.ext hxd) (by have := hX.size; show w.heap.size ≤ wr.heap.size; exact this) hrl L[k] ee
        have hg6 : wr.grownBy w5 (Value.slice ao2 (rem id (L.take k)).length cap2).ownBlock := (ext_grown (hxd.alloc _) _).trans hg5
        have hl2 := hB2.lt
        have hne0 : some (w.heap.size) ≠ (Value.slice ao2 (rem id (L.take k)).length cap2).ownBlock := fun e => by have := hnew _ e.symm; omega
        have hne1 : some (w.heap.size + 1) ≠ (Value.slice ao2 (rem id (L.take k)).length cap2).ownBlock := fun e => by have := hnew _ e.symm; omega
        have hne2 : some (w.heap.size + 1 + 1) ≠ (Value.slice ao2 (rem id (L.take k)).length cap2).ownBlock := fun e => by have := hnew _ e.symm; omega
        have hB05 : Blk w5 w.heap.size _ _ := (hg6.block _ hB0.lt hne0).trans hB0
        have hB15 : Blk w5 (w.heap.size + 1) _ _ := (hg6.block _ hB1.lt hne1).trans hB1
        have hB25 : Blk w5 (w.heap.size + 1 + 1) _ _ := (hg6.block _ hB2.lt hne2).trans hB2
        have cO5 : w5.cell? ⟨w.heap.size + 1 + 1, 1, none⟩ = some (.slice ao2 (rem id (L.take k)).length cap2) := hB25.cell (i := 1) rfl
        have fO5 := hB25.free 1
        have hX5 : Ext w w5 := hX.grown hg6 hX.size (fun b e => by have := hnew b e; omega)
        have hloc2 : ∀ b, (Value.slice ao3 ((rem id (L.take k)).length + 1) cap3).ownBlock = some b → w.heap.size + 3 ≤ b := fun b hb2 => by
          rcases hloc b hb2 with h1 | h1
          · exact hnew b h1
          · have h3 : wr.heap.size < b := h1
            omega
        have hX6 : Ext w (w5.setCell ⟨w.heap.size + 1 + 1, 1, none⟩ (.slice ao3 ((rem id (L.take k)).length + 1) cap3)) := below_grown hX5 (grownBy_set _ _ _ _) hX5.size (by omega)
        have hB06 := hB05.other (r := w.heap.size + 1 + 1) 1 (.slice ao3 ((rem id (L.take k)).length + 1) cap3) (by omega)
        have hB16 := hB15.other (r := w.heap.size + 1 + 1) 1 (.slice ao3 ((rem id (L.take k)).length + 1) cap3) (by omega)
        have hB26 := hB25.set 1 (.slice ao3 ((rem id (L.take k)).length + 1) cap3)
        have hRB : RB (w5.setCell ⟨w.heap.size + 1 + 1, 1, none⟩ (.slice ao3 ((rem id (L.take k)).length + 1) cap3)) T w.heap.size (.slice ao3 ((rem id (L.take k)).length + 1) cap3) (rem id (L.take (k + 1))) := by
          have hlen : (rem id (L.take (k + 1))).length = (rem id (L.take k)).length + 1 := by rw [hsn]; simp
          refine RB.part (unhide HH) hX6 ((List.filter_sublist).trans (List.take_sublist _ _)) ?_ ?_
          · rw [hlen, hsn]
            refine World.ownsRow.kept hown5 (grownBy_set _ _ _ _) (.inr fun e => ?_)
            have := hloc2 _ e
            omega
          · intro b hb2 hTb
            have h1 := unhide HT b hTb
            have h2 := hloc2 b hb2
            omega
        have HR := hide (And.intro hB06 (And.intro hB16 (And.intro hB26 (And.intro hRB (And.intro hloc2 hX6)))))
        rw [ee] at hrun c2
        have hrun2 : (Builtin.append_ #[31, 31] 31 #[.slice ao2 (rem id (L.take k)).length cap2, .slice (some ⟨wr.heap.size, 0, none⟩) 1 1]).run Try.prog (wr.alloc (.cells #[.int .i64 L[k].1, .slice eo L[k].2.2.length ecap] 49)).drew = .ok (.slice ao3 ((rem id (L.take k)).length + 1) cap3) w5 := hrun
        generalize L[k].1 = j at c1 hne hrun2
        generalize L[k].2.2.length = jn at c2 hrun2
        generalize (rem id (L.take k)).length = nn at *
        clear hB0 hB1 hB2 hO hnew hX hR he hsn hxd hrow ee hrun hown5 hg5 hloc hg6 hne0 hne1 hne2 hB05 hB15 hB25 hX5 hloc2 hX6 hB06 hB16 hB26 hRB hrl
        have HRUN := hide hrun2
        clear hrun2
        go_wp2_with fail
        go_region_law ((refine step_run (by rfl) (.tmp 26) (.tmp 32) 31 (by rfl) (by rfl) (by rfl) (unhide HRUN) ?_))
        all_goals go_wp2
        all_goals go_roundw
        all_goals first
          | exact ⟨k + 1, .slice ao3 (nn + 1) cap3, by omega, by go_num, (unhide HR).1, (unhide HR).2.1, (unhide HR).2.2.1, (unhide HR).2.2.2.1, (unhide HR).2.2.2.2.1, (unhide HR).2.2.2.2.2⟩
          | (simp [intOf]; omega)
    · obtain rfl : k = L.length := by omega
      rw [List.take_length] at hO
      obtain ⟨ao2, cap2, rfl, _⟩ := hO.shape
      have q0 : wr.cell? ⟨w.heap.size + 1 + 1, 0, none⟩ = some (.int .i64 all) := hB2.cell (i := 0) rfl
      have q1 : wr.cell? ⟨w.heap.size + 1 + 1, 1, none⟩ = some (.slice ao2 (rem id L).length cap2) := hB2.cell (i := 1) rfl
      have p0 : wr.cell? ⟨w.heap.size + 1, 0, none⟩ = some (.int .i64 0) := hB1.cell (i := 0) rfl
      have p1 : wr.cell? ⟨w.heap.size + 1, 1, none⟩ = some (.slice none 0 0) := hB1.cell (i := 1) rfl
      have f0 := hB1.free 0
      have f1 := hB1.free 1
      have hX7 : Ext w ((wr.setCell ⟨w.heap.size + 1, 0, none⟩ (.int .i64 all)).setCell ⟨w.heap.size + 1, 1, none⟩ (.slice ao2 (rem id L).length cap2)) := below_grown hX ((grownBy_set _ _ _ _).trans (grownBy_set _ _ _ _)) hX.size (by omega)
      have hB7 := (hB1.set 0 (.int .i64 all)).set 1 (.slice ao2 (rem id L).length cap2)
      have hR7 : RB ((wr.setCell ⟨w.heap.size + 1, 0, none⟩ (.int .i64 all)).setCell ⟨w.heap.size + 1, 1, none⟩ (.slice ao2 (rem id L).length cap2)) T w.heap.size (.slice ao2 (rem id L).length cap2) (rem id L) := by
        refine RB.part (unhide HH) hX7 List.filter_sublist ?_ hO.far
        refine World.ownsRow.kept hO.own ((grownBy_set _ _ _ _).trans (grownBy_set _ _ _ _)) (.inr fun e => ?_)
        have := hnew _ e
        omega
      have HR := hide (And.intro hB7 (And.intro (hR7.lower hb) hX7))
      clear hB0 hB1 hB2 hO hnew hX hX7 hB7 hR7 hlt hk
      go_wp2
      have r0 := (unhide HR).1.cell (i := 0) rfl
      have r1 := (unhide HR).1.cell (i := 1) rfl
      refine bodyPost_ret (v := .agg #[.int .i64 all, .slice ao2 (rem id L).length cap2]) (by simp [results, Try.results29, go_sem, r0, r1]) rfl ⟨_, rfl, (unhide HR).2.1, (unhide HR).2.2⟩
end
end Go.Proofs.Ytagbenjaidikmaa
