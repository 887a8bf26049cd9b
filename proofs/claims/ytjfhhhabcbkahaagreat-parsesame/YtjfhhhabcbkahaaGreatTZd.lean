/-
  read: a shader out of tokens, or the first token that can't stand there.
-/
import Derived.Test.YtjfhhhabcbkahaaGreatTY
import Derived.Test.YtjfhhhabcbkahaaGreatTZb
import Derived.Test.YtjfhhhabcbkahaaGreatTZc
namespace Go.Proofs.YtjfhhhabcbkahaaGreat
open Go.RowKit
set_option linter.unusedVariables false
set_option linter.unusedSimpArgs false

/-- What read answers. -/
def ReadQ (w : World) (L : List Tok) (e : Ending) (w' : World) : Prop := Ext w w' ∧ (match (shadP L).2 with
  | none => e = .returned (.tuple #[.pointer none, .agg #[.int .i64 220, .int .i64 (hereP L (shadP L).1)]])
  | some x => ∃ b, e = .returned (.tuple #[.pointer (some ⟨b, 0, none⟩), .agg #[.int .i64 0, .int .i64 0]]) ∧ PIn w' w.heap.size w'.heap.size b x)
theorem ReadQ.no {w w' : World} {L : List Tok} {j : Nat} (h : shadP L = (j, none)) (hx : Ext w w') : ReadQ w L (.returned (.tuple #[.pointer none, .agg #[.int .i64 220, .int .i64 (hereP L j)]])) w' := by
  unfold ReadQ
  rw [h]
  exact ⟨hx, rfl⟩
theorem ReadQ.yes {w w' : World} {L : List Tok} {j b : Nat} {x : List Nd} (h : shadP L = (j, some x)) (hx : Ext w w') (hp : PIn w' w.heap.size w'.heap.size b x) : ReadQ w L (.returned (.tuple #[.pointer (some ⟨b, 0, none⟩), .agg #[.int .i64 0, .int .i64 0]])) w' := by
  unfold ReadQ
  rw [h]
  exact ⟨hx, b, rfl, hp⟩
theorem shad_pos {L : List Tok} (h : (shadP L).2 = none) (hk : TokOk L) : 0 < L.length ∧ (shadP L).1 ≤ L.length := by
  have hv : ∀ r k, k ≤ L.length → Adv L k (goP L (fuelP L) r k) := fun r k hk2 => adv_go hk _ r k hk2
  have hl : ∀ (n : Nat) (acc : List (List Nd)) (i : Nat), i ≤ L.length → Lea L i (shadL L (goP L (fuelP L)) n acc i) := by
    intro n
    induction n with
    | zero => intro acc i hi; exact ⟨Nat.le_refl _, hi⟩
    | succ n ih =>
      intro acc i hi
      rw [shadL]
      split
      · refine lea_bnd ?_ (fun j x _ hj => ih _ _ hj)
        split
        · exact (adv_func hv hi).1
        · exact (adv_decl hv hi (by decide)).1
      · exact lea_here _ hi
  have hl2 := lea_bnd (hl (L.length + 1) [] 0 (Nat.zero_le _)) (f := fun j l => (j, some (mkN 1 [] [] 0 0 l))) (fun j l _ hj => lea_here _ hj)
  refine ⟨Nat.pos_of_ne_zero fun h0 => ?_, hl2.2⟩
  unfold shadP at h
  have e : shadL L (goP L (fuelP L)) (L.length + 1) [] 0 = (0, some []) := by
    rw [shadL, if_neg (by omega)]
  rw [e] at h
  cases h

set_option maxHeartbeats 2000000 in
set_option maxRecDepth 100000 in
theorem readP_any (L : List Tok) (ta : Option Addr) (tc : Nat) (w : World) (hT : TR w (.slice ta L.length tc) L) (HTO : TokOk L) (hL : L.length ≤ 100000000) :
    Calls Tryz.prog 19 #[.slice ta L.length tc] w (ReadQ w L) := by
  have hmf : ∀ (fn : Fn) (first cap : Array Value) (w : World), (Instr.makeFunc fn first cap).run Tryz.prog w = .ok (.func fn first cap) w := fun _ _ _ _ => rfl
  have HTR := hide hT
  have HTK := hide HTO
  clear hT HTO
  obtain ⟨w1, h1⟩ : ∃ x, x = w.alloc (.cells #[.pointer none] 53) := ⟨_, rfl⟩
  obtain ⟨w2, h2⟩ : ∃ x, x = w1.alloc (.cells #[.int .i64 0, .int .i64 0] 31) := ⟨_, rfl⟩
  obtain ⟨w3, h3⟩ : ∃ x, x = w2.alloc (.cells #[.slice ta L.length tc, .int .i64 0, .slice none 0 0] 71) := ⟨_, rfl⟩
  obtain ⟨w4, h4⟩ : ∃ x, x = w3.alloc (.cells #[.pointer (some ⟨w.heap.size + 2, 0, none⟩)] 68) := ⟨_, rfl⟩
  have z1 : w1.heap.size = w.heap.size + 1 := by rw [h1]; simp
  have z2 : w2.heap.size = w.heap.size + 2 := by rw [h2]; simp [z1]
  have z3 : w3.heap.size = w.heap.size + 3 := by rw [h3]; simp [z2]
  have z4 : w4.heap.size = w.heap.size + 4 := by rw [h4]; simp [z3]
  have x1 : Ext w w1 := by rw [h1]; exact (Ext.refl w).alloc _
  have x2 : Ext w1 w2 := by rw [h2]; exact (Ext.refl w1).alloc _
  have x3 : Ext w2 w3 := by rw [h3]; exact (Ext.refl w2).alloc _
  have x4 : Ext w3 w4 := by rw [h4]; exact (Ext.refl w3).alloc _
  have B1 : Blk w4 w.heap.size #[.pointer none] 53 := (((show Blk w1 w.heap.size _ _ by rw [h1]; exact Blk.new _ _ _).ext x2).ext x3).ext x4
  have B2 : Blk w4 (w.heap.size + 1) #[.int .i64 0, .int .i64 0] 31 := ((show Blk w2 (w.heap.size + 1) _ _ by rw [h2]; exact BlkAt z1).ext x3).ext x4
  have B3 : Blk w4 (w.heap.size + 2) #[.slice ta L.length tc, .int .i64 0, .slice none 0 0] 71 := (show Blk w3 (w.heap.size + 2) _ _ by rw [h3]; exact BlkAt z2).ext x4
  have B4 : Blk w4 (w.heap.size + 3) #[.pointer (some ⟨w.heap.size + 2, 0, none⟩)] 68 := by rw [h4]; exact BlkAt z3
  have X4 : Ext w w4 := ((x1.trans x2).trans x3).trans x4
  obtain ⟨pb, hpb⟩ : ∃ pb, pb = w.heap.size + 2 := ⟨_, rfl⟩
  obtain ⟨ra, hra⟩ : ∃ ra, ra = w.heap.size := ⟨_, rfl⟩
  obtain ⟨sa, hsa⟩ : ∃ sa, sa = w.heap.size + 1 := ⟨_, rfl⟩
  obtain ⟨pv, hpv⟩ : ∃ pv, pv = w.heap.size + 3 := ⟨_, rfl⟩
  have o1 : w.heap.size ≤ ra := by omega
  have o2 : ra < sa := by omega
  have o3 : sa < pb := by omega
  have o4 : pb < pv := by omega
  rw [← hra] at B1
  rw [← hsa] at B2
  rw [← hpb] at B3 B4
  rw [← hpv] at B4
  have HB1 := hide B1; have HB2 := hide B2; have HB3 := hide B3; have HB4 := hide B4; have HX4 := hide X4
  have HE : Hid (w4 = (((w.alloc (.cells #[.pointer none] 53)).alloc (.cells #[.int .i64 0, .int .i64 0] 31)).alloc (.cells #[.slice ta L.length tc, .int .i64 0, .slice none 0 0] 71)).alloc (.cells #[.pointer (some ⟨w.heap.size + 2, 0, none⟩)] 68)) := by
    show w4 = _
    rw [h4, h3, h2, h1]
  have HPB := hide hpb; have HRA := hide hra; have HSA := hide hsa; have HPV := hide hpv
  have hp4 : pb < w4.heap.size := (unhide HB3).lt
  clear B1 B2 B3 B4 X4 x1 x2 x3 x4 z1 z2 z3 z4 h1 h2 h3 h4 hpb hra hsa hpv
  go_enter_defers Tryz.func19, Tryz.ntmps19
  go_wp2
  rw [← unhide HE, ← unhide HPV, ← unhide HPB, ← unhide HSA, ← unhide HRA]
  go_cut [10] from 8 to 12 (fun p wc => ∃ w7 lv, w7 = wc ∧ PE wc pb L (.slice ta L.length tc) lv 0 ∧ Blk wc ra #[.pointer none] 53 ∧ Blk wc sa #[.int .i64 0, .int .i64 0] 31 ∧ Blk wc pv #[.pointer (some ⟨pb, 0, none⟩)] 68 ∧ Ext w wc)
  case first =>
    have v0 := (unhide HB4).cell (i := 0) (v := .pointer (some ⟨pb, 0, none⟩)) rfl
    have HC := hide (table_any w4.drew pb (show pb < w4.heap.size from hp4))
    refine wp_region_noPanic ?_
    go_region_law ((first | (go_simp; go_at_call 40; refine (unhide HC).mono ?_; rintro e w6 ⟨lb, rfl, hlv, hx6⟩; have hx46 := ((Ext.refl w4).drew).trans hx6; have v6 := ((unhide HB4).ext hx46).cell (i := 0) (v := .pointer (some ⟨pb, 0, none⟩)) rfl; have p6 := ((unhide HB3).ext hx46).cell (i := 2) (v := .slice none 0 0) rfl; have f6 := fun j => ((unhide HB3).ext hx46).free j; have HLV := hide hlv; have HX46 := hide hx46; clear hx6 hlv hx46)))
    all_goals refine NoPanic.normal ?_
    all_goals go_wp2
    all_goals go_meet
    all_goals
      have hB6 := (unhide HB3).ext (unhide HX46)
      have hpw : w.heap.size ≤ pb := by omega
      have hxw : Ext w w6 := (unhide HX4).trans (unhide HX46)
      have ho : Out (fun b => b = pb) w6 (w6.setCell ⟨pb, 2, none⟩ (.slice (some ⟨lb, 0, none⟩) 6 6)) := Out.of_grown (grownBy_set w6 pb 2 _) (fun k e => by cases e; rfl)
      refine ⟨_, .slice (some ⟨lb, 0, none⟩) 6 6, rfl, ⟨hB6.set 2 _, ?_, (unhide HLV).out ho⟩, ((unhide HB1).ext (unhide HX46)).other 2 _ (by omega), ((unhide HB2).ext (unhide HX46)).other 2 _ (by omega), ((unhide HB4).ext (unhide HX46)).other 2 _ (by omega), setX hxw hpw⟩
      refine TF.out ⟨(unhide HTR).ext hxw, fun b off n cap e hl => ?_⟩ ho
      obtain ⟨ao, cp, e1, _, _, _, h5⟩ := unhide HTR
      obtain ⟨b', off', e2, t⟩ := h5 0 hl
      cases e1
      rw [e2] at e
      cases e
      have := World.block_lt_of_cell? w _ t.kind
      simp only at this
      omega
  case rest =>
    obtain ⟨w7, lv, rfl, hPE, hA, hS, hV, hX⟩ := hcut
    have HPE := hide hPE; have HA := hide hA; have HS := hide hS; have HV := hide hV; have HX := hide hX
    have v0 := (unhide HV).cell (i := 0) (v := .pointer (some ⟨pb, 0, none⟩)) rfl
    have HSH := shader_any (unhide HTK) hPE hL
    clear hPE hA hS hV hX HB1 HB2 HB3 HB4 HX4 hp4
    have hpos := fun h => shad_pos (L := L) h (unhide HTK)
    obtain ⟨⟨j, o⟩, hR⟩ : ∃ R, shadP L = R := ⟨_, rfl⟩
    rw [hR] at HSH hpos
    have HPOS := hide hpos
    have HRR := hide hR
    have HSH2 := hide HSH
    clear HSH hR hpos
    cases o with
    | none =>
      go_wp2_with fail
      refine (unhide HSH2).mono ?_
      rintro e w8 ⟨hs, rfl⟩
      have HS8 := hide hs
      clear hs
      go_wp2
      have hp := unhide HPOS (by first | rfl | trivial)
      have hA8 := (unhide HA).out (unhide HS8).out (by omega)
      have hS8 := (unhide HS).out (unhide HS8).out (by omega)
      have hV8 := (unhide HV).out (unhide HS8).out (by omega)
      refine leaves_cons (f := 41) (args := #[.pointer (some ⟨pv, 0, none⟩), .pointer (some ⟨ra, 0, none⟩), .pointer (some ⟨sa, 0, none⟩)]) (by simp) (by simp [go_sem]) ?_
      refine (catch_pan pv ra sa _ _ [] (unhide HS8).pe hp.1 hp.2 (by omega) hV8 hA8 hS8 (by omega)).mono ?_
      rintro e u' w9 ⟨rfl, rfl, w10, hx10, rfl⟩
      have hA9 := ((((hA8.ext hx10).set 0 (.pointer none)).other 0 (.int .i64 220) (show ra ≠ sa by omega)).other 1 (.int .i64 (hereP L j)) (show ra ≠ sa by omega))
      have hS9 := ((((hS8.ext hx10).other 0 (.pointer none) (show sa ≠ ra by omega)).set 0 (.int .i64 220)).set 1 (.int .i64 (hereP L j)))
      have r0 := hA9.cell (i := 0) (v := .pointer none) rfl
      have s0 := hS9.cell (i := 0) (v := .int .i64 220) rfl
      have s1 := hS9.cell (i := 1) (v := .int .i64 (hereP L j)) rfl
      have hsw : w.heap.size ≤ sa := by omega
      have hpw : ∀ k, k = pb → w.heap.size ≤ k := fun k e => by omega
      have hxe : Ext w (((w10.setCell ⟨ra, 0, none⟩ (.pointer none)).setCell ⟨sa, 0, none⟩ (.int .i64 220)).setCell ⟨sa, 1, none⟩ (.int .i64 (hereP L j))) := setX (setX (setX (((unhide HS8).out.ext0 (unhide HX) hpw).trans hx10) o1) hsw) hsw
      have hfin := ReadQ.no (unhide HRR) hxe
      simp [Leaves, settle, results, Tryz.results19, go_sem, r0, s0, s1]
      exact hfin
    | some x =>
      go_wp2_with fail
      refine (unhide HSH2).mono ?_
      rintro e w8 ⟨hs, b, rfl, hp⟩
      have HS8 := hide hs
      have HP8 := hide hp
      have hA8 := (unhide HA).out hs.out (by omega)
      have hS8 := (unhide HS).out hs.out (by omega)
      have r0 := hA8.cell (i := 0) (v := .pointer none) rfl
      have fr := fun j => hA8.free j
      have HA9 := hide (hA8.set 0 (.pointer (some ⟨b, 0, none⟩)))
      have HS9 := hide (hS8.other 0 (.pointer (some ⟨b, 0, none⟩)) (show sa ≠ ra by omega))
      have s0 := (unhide HS9).cell (i := 0) (v := .int .i64 0) rfl
      have s1 := (unhide HS9).cell (i := 1) (v := .int .i64 0) rfl
      have fs := fun j => (unhide HS9).free j
      clear hs hp hA8 hS8
      go_wp2
      have HA10 := ((unhide HA9).other 0 (.int .i64 0) (show ra ≠ sa by omega)).other 1 (.int .i64 0) (show ra ≠ sa by omega)
      have HS10 := ((unhide HS9).set 0 (.int .i64 0)).set 1 (.int .i64 0)
      have r0 := HA10.cell (i := 0) (v := .pointer (some ⟨b, 0, none⟩)) rfl
      have s0 := HS10.cell (i := 0) (v := .int .i64 0) rfl
      have s1 := HS10.cell (i := 1) (v := .int .i64 0) rfl
      have hsw : w.heap.size ≤ sa := by omega
      have hpw : ∀ k, k = pb → w.heap.size ≤ k := fun k e => by omega
      have h7w := (unhide HX).size
      have hlow := (unhide HPE).lt
      have hpv7 := (unhide HV).lt
      have hxe : Ext w (((w8.setCell ⟨ra, 0, none⟩ (.pointer (some ⟨b, 0, none⟩))).setCell ⟨sa, 0, none⟩ (.int .i64 0)).setCell ⟨sa, 1, none⟩ (.int .i64 0)) := setX (setX (setX ((unhide HS8).out.ext0 (unhide HX) hpw) o1) hsw) hsw
      have hpe : PIn (((w8.setCell ⟨ra, 0, none⟩ (.pointer (some ⟨b, 0, none⟩))).setCell ⟨sa, 0, none⟩ (.int .i64 0)).setCell ⟨sa, 1, none⟩ (.int .i64 0)) w.heap.size (((w8.setCell ⟨ra, 0, none⟩ (.pointer (some ⟨b, 0, none⟩))).setCell ⟨sa, 0, none⟩ (.int .i64 0)).setCell ⟨sa, 1, none⟩ (.int .i64 0)).heap.size b x := by
        have h1 := (unhide HP8).same (w' := ((w8.setCell ⟨ra, 0, none⟩ (.pointer (some ⟨b, 0, none⟩))).setCell ⟨sa, 0, none⟩ (.int .i64 0)).setCell ⟨sa, 1, none⟩ (.int .i64 0)) (fun k k1 k2 => by
          rw [heap_setCell_other _ _ k _ (show k ≠ sa by omega), heap_setCell_other _ _ k _ (show k ≠ sa by omega), heap_setCell_other _ _ k _ (show k ≠ ra by omega)]) (by simp)
        exact h1.wide h7w (by simp) (Nat.le_refl _)
      have hfin := ReadQ.yes (unhide HRR) hxe hpe
      refine leaves_cons (f := 41) (args := #[.pointer (some ⟨pv, 0, none⟩), .pointer (some ⟨ra, 0, none⟩), .pointer (some ⟨sa, 0, none⟩)]) (by simp) (by simp [go_sem]) ?_
      refine (catch_idle _ _ _ _).mono ?_
      rintro e u' w9 ⟨rfl, rfl, rfl⟩
      simp [Leaves, settle, results, Tryz.results19, go_sem, r0, s0, s1]
      exact hfin
end Go.Proofs.YtjfhhhabcbkahaaGreat
