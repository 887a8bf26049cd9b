/-
  Rules: operators, and what stands ahead.
-/
import Derived.Test.YtjfhhhabcbkahaaGreatTM
import Derived.Deep.DeepCutAuto
namespace Go.Proofs.YtjfhhhabcbkahaaGreat
open Go.RowKit
set_option linter.unusedVariables false
set_option linter.unusedSimpArgs false

theorem dummyLaw {P : Prop} (a : Act) (w : World) (h : P) (_ : wpAny Tryz.prog .any #[] (fun _ _ _ => True) 0 #[] a w) : P := h
/-- 'append' at a step of a region that draws, its run known. -/
theorem step_run {P : Program} {ops : Array Oper} {o : Oper} {a : Act} {w w' : World} {K : Act → World → Prop} {Q : Exit → Act → World → Prop} {E : Prop} (hgd : o.guard = none) (s x : Operand) (t : TypeId)
    (ho : o.op = .call { callee := .builtin .append, args := #[s, x], argTypes := #[t, t] }) {v vx v' : Value} (hs : a.eval s = v) (hx : a.eval x = vx) (hr : (Builtin.append_ #[t, t] o.type #[v, vx]).run P w = .ok v' w') (h : K (a.put o.dst v') w') :
    if Region.wanted o (yielded ops a.tmps) = true then Oper.wp P o a w K Q else E := by
  have hw : Region.wanted o (yielded ops a.tmps) = true := by simp [Region.wanted, hgd]
  rw [if_pos hw]
  unfold Oper.wp execOp
  simp only [ho, resolve, invoke, builtin, Sem.run_bind, Sem.run_pure, Result.andThen_ok, List.map_toArray, List.map_cons, List.map_nil, hs, hx, hr]
  exact h
theorem turning_any (w : World) : Calls Tryz.prog 75 #[] w fun e w' => e = .returned (.slice (some ⟨w.heap.size, 0, none⟩) 2 2) ∧ w' = w.alloc (.cells #[.string ⟨#[45]⟩, .string ⟨#[33]⟩] 9) := by
  go_enter Tryz.func75, Tryz.ntmps75
  go_wp2
  go_ret
  exact ⟨rfl, rfl⟩

section
variable {w : World} {pb : Nat} {L : List Tok} {tv lv : Value} {i : Nat}

set_option maxHeartbeats 2000000 in
set_option maxRecDepth 100000 in
theorem operate_any (g : FuncId) (rule : Nat → Rp) (hr : Rules pb L tv lv (i + 1) g rule) (kind : Int) {sb lo : Nat} {side : List Nd} (hsd : PIn w lo w.heap.size sb side) (hlo : pb < lo) (hlw : lo ≤ w.heap.size) (hlt : i < L.length) (h : PE w pb L tv lv i) (hi : i ≤ L.length) (hL : L.length ≤ 100000000) :
    Calls Tryz.prog 91 #[.pointer (some ⟨pb, 0, none⟩), .int .i64 kind, .pointer (some ⟨sb, 0, none⟩), .func (.func g) #[.pointer (some ⟨pb, 0, none⟩)] #[]] w (RQ w pb L tv lv lo (operP L kind side rule i)) := by
  have HP := hide h
  have hpb := h.lt
  obtain ⟨R, hR⟩ : ∃ R, operP L kind side rule i = R := ⟨_, rfl⟩
  rw [hR]
  unfold operP at hR
  have HQ := hide hR
  have HS0 := hide (St.of h (Ext.refl w))
  have hmf : ∀ (fn : Fn) (first cap : Array Value) (w : World), (Instr.makeFunc fn first cap).run Tryz.prog w = .ok (.func fn first cap) w := fun _ _ _ _ => rfl
  have g0 := fld0
  have g1 := fld1
  have g2 := fld2
  clear hR h
  have HR := hide hr
  have HSD := hide hsd
  have eg := hr.1
  clear hr hsd
  go_enter Tryz.func91, Tryz.ntmps91
  have X1 : Hid (Ext w (w.alloc (.cells #[.pointer (some ⟨sb, 0, none⟩)] 53))) := (Ext.refl w).alloc _
  have HC1 := hide (begin_any kind (some ⟨w.heap.size, 0, none⟩) 1 1 ((unhide HS0).pe.ext (unhide X1)) (by omega) (by omega))
  have HG1 : Hid (Blk (w.alloc (.cells #[.pointer (some ⟨sb, 0, none⟩)] 53)) w.heap.size #[.pointer (some ⟨sb, 0, none⟩)] 53) := Blk.new _ _ _
  go_wp2_with fail
  refine (unhide HC1).mono ?_
  rintro e w1 ⟨xb, rfl, hxb, hB, hx0⟩
  have hx := (unhide X1).trans hx0
  have hxo : w.heap.size < xb := by have := hxb; simp only [World.alloc, Array.size_push] at this; omega
  have N1 : Hid (ND w1 lo w.heap.size xb kind [] [] 0 (tk L (i)).place (.slice (some ⟨w.heap.size, 0, none⟩) 1 1) [side]) := by
    have hp := (unhide HSD).ext hx
    have hB2 := (unhide HG1).ext hx0
    have hs1 := hx0.size
    have hs2 := hB.lt
    simp only [World.alloc, Array.size_push] at hs1
    have hp2 := hp.wide (lo' := lo) (hi' := w.heap.size) (Nat.le_refl _) (by have := (unhide HSD).top; omega) (by omega)
    refine ⟨hB, by omega, by omega, ?_, fun m e => ?_⟩
    · exact ((PRs.one (lo := lo) (hi := w.heap.size + 1) (X := fun b => b = xb) hp2 hB2 (by omega) (by omega) (by omega) (by omega) (fun m e => .inr (by omega))).wide (Nat.le_refl _) (by omega) (Nat.le_refl _))
    · have e2 : w.heap.size = m := by simpa [Value.ownBlock] using e
      omega
  have hxw : w.heap.size ≤ xb := by omega
  have HS1 := hide ((unhide HS0).ext hx)
  have hz1 : w.heap.size ≤ w1.heap.size := (unhide HS1).out.size
  clear hx HC1
  clear hB HG1 X1 hx0 HSD hxb
  have HC2 := hide (take_ok (unhide HS1).pe (by omega) (by omega))
  go_wp2_with fail
  refine (unhide HC2).mono ?_
  rintro e w2 ⟨rfl, hs⟩
  have HS2 := hide ((unhide HS1).trans hs)
  have hz2 : w.heap.size ≤ w2.heap.size := (unhide HS2).out.size
  have hy2 : w1.heap.size ≤ w2.heap.size := hs.out.size
  have N2 := hide ((unhide N1).out hs.out (by omega))
  clear N1
  clear hs HC2
  have q3 := (unhide N2).blk.cell (i := 2) rfl
  have fq3 := fun j => (unhide N2).blk.free j
  obtain ⟨w3, hw3⟩ : ∃ w3, w3 = w2.setCell ⟨xb, 2, none⟩ (.string ⟨(tk L i).text.toArray⟩) := ⟨_, rfl⟩
  have N3 := hide ((unhide N2).setText (tk L i).text)
  have HS3 := hide (St.set (c := 2) (v := .string ⟨(tk L i).text.toArray⟩) (unhide HP) (unhide HS2) hxw)
  rw [← hw3] at N3 HS3
  have hz3 : w.heap.size ≤ w3.heap.size := (unhide HS3).out.size
  clear N2
  obtain ⟨⟨j4, o4⟩, hR4⟩ : ∃ r : Rp, rule (i + 1) = r := ⟨_, rfl⟩
  have ha4 := (unhide HR).2.2 (i + 1) (by omega) (by omega)
  have HC0 := (unhide HR).2.1 (i + 1) (w3.drew) (by omega) (by omega) ((unhide HS3).pe.ext ((Ext.refl w3).drew))
  rw [hR4] at ha4 HC0 HQ
  clear hR4
  cases o4 with
  | none =>
    have HQn : Hid (R = (j4, none)) := (unhide HQ).symm
    have HC4 := hide HC0
    clear HC0
    go_wp2
    rw [← hw3]
    clear hw3 q3 fq3
    have q4 := (unhide N3).blk.cell (i := 6) rfl
    go_region_law ((go_simp; go_at_fn g; refine (unhide HC4).mono ?_; rintro e w4 ⟨hs, rfl⟩; refine dummyLaw ⟨#[], []⟩ w4 (by have HSn := hide ((((unhide HS3).ext ((Ext.refl w3).drew))).trans hs); clear hs; go_wp2; exact ⟨rfl, RQ.pan (unhide HSn) (unhide HQn)⟩) ?_))
    all_goals trivial
  | some x4 =>
    have hj4 : i + 1 < j4 ∧ j4 ≤ L.length := ⟨ha4.2 rfl, ha4.1.2⟩
    rw [bnd_some (r := (j4, some x4)) rfl] at HQ
    clear ha4
    have HC4 : Hid (Calls Tryz.prog g #[.pointer (some ⟨pb, 0, none⟩)] (w3.drew) (fun e w6 => ∃ b ao cap w7, e = .returned (.pointer (some ⟨b, 0, none⟩)) ∧ w6.cell? ⟨xb, 6, none⟩ = some (.slice (some ⟨w.heap.size, 0, none⟩) 1 1) ∧ (w6.alloc (.cells #[.pointer (some ⟨b, 0, none⟩)] 53)).cell? ⟨xb, 6, none⟩ = some (.slice (some ⟨w.heap.size, 0, none⟩) 1 1) ∧ (Builtin.append_ #[76, 76] 76 #[.slice (some ⟨w.heap.size, 0, none⟩) 1 1, .slice (some ⟨w6.heap.size, 0, none⟩) 1 1]).run Tryz.prog (w6.alloc (.cells #[.pointer (some ⟨b, 0, none⟩)] 53)) = .ok (.slice ao (([side]).length + 1) cap) w7 ∧ w7.cell? ⟨xb, 6, none⟩ = some (.slice (some ⟨w.heap.size, 0, none⟩) 1 1) ∧ w7.frozen? ⟨xb, 6, none⟩ = false ∧ ND (w7.setCell ⟨xb, 6, none⟩ (.slice ao (([side]).length + 1) cap)) lo w.heap.size xb kind [] ((tk L i).text) 0 (tk L (i)).place (.slice ao (([side]).length + 1) cap) ([side] ++ [x4]) ∧ St w pb L tv lv j4 (w7.setCell ⟨xb, 6, none⟩ (.slice ao (([side]).length + 1) cap)))) := by
      have hd := ((Ext.refl w3).drew)
      have hN := (unhide N3).ext hd
      refine HC0.mono ?_
      rintro e w6 ⟨hs, b, rfl, hp⟩
      have hN6 := hN.out hs.out (by omega)
      obtain ⟨ao, cap, w7, hrun, c7, f7, hg, hN7⟩ := hN6.app hp hN.blk.lt (fun m e => hN.row.lt m e) (by simp)
      exact ⟨b, ao, cap, w7, rfl, hN6.blk.cell rfl, (hN6.ext ((Ext.refl w6).alloc _)).blk.cell rfl, hrun, c7, f7, hN7, St.set (unhide HP) (St.grown (unhide HP) ((((unhide HS3).ext hd)).trans hs) hg (fun m e => hN.own m e)) hxw⟩
    clear HC0
    go_wp2
    rw [← hw3]
    clear hw3 q3 fq3
    go_cut [26] (fun p wc => ∃ w8 ao n cap, w8 = wc ∧ ND wc lo w.heap.size xb kind [] ((tk L i).text) 0 (tk L (i)).place (.slice ao n cap) ([side] ++ [x4]) ∧ St w pb L tv lv j4 wc)
    case first =>
      have q4 := (unhide N3).blk.cell (i := 6) rfl
      go_region_law ((first | (refine step_run (by rfl) (.tmp 26) (.tmp 29) 76 (by rfl) (by rfl) (by rfl) hrun ?_) | (go_simp; go_at_fn g; refine (unhide HC4).mono ?_; rintro e w6 ⟨b, ao, cap, w7, rfl, c6, c6a, hrun, c7, f7, hF⟩)))
      all_goals go_wp2
      all_goals go_meet
      all_goals exact ⟨_, ao, _, cap, rfl, hF.1, hF.2⟩
    case rest =>
      obtain ⟨w4, ao4, n4, cap4, rfl, hN, hS⟩ := hcut
      have N4 := hide hN
      have HS4 := hide hS
      have hz4 : w.heap.size ≤ w4.heap.size := hS.out.size
      clear hN hS HC4 N3
      go_wp2
      go_ret
      exact RQ.ok (unhide HS4) (unhide N4).part ((unhide HQ).symm)

set_option maxHeartbeats 2000000 in
set_option maxRecDepth 100000 in
theorem unary_step {rec : Nat → Nat → Rp} {f : Nat} (H : Ctr pb L tv lv rec f) (HV : AdvA L rec) (hm : 20 * (L.length - i) + 4 ≤ f + 1) (h : PE w pb L tv lv i) (hi : i ≤ L.length) (hL : L.length ≤ 100000000) :
    Calls Tryz.prog 58 #[.pointer (some ⟨pb, 0, none⟩)] w (RQ w pb L tv lv w.heap.size (unaryP L rec i)) := by
  have HH := hide H
  have HVV := hide HV
  clear H HV
  have HP := hide h
  have hpb := h.lt
  obtain ⟨R, hR⟩ : ∃ R, unaryP L rec i = R := ⟨_, rfl⟩
  rw [hR]
  unfold unaryP at hR
  have HQ := hide hR
  have HS0 := hide (St.of h (Ext.refl w))
  have hmf : ∀ (fn : Fn) (first cap : Array Value) (w : World), (Instr.makeFunc fn first cap).run Tryz.prog w = .ok (.func fn first cap) w := fun _ _ _ _ => rfl
  have g0 := fld0
  have g1 := fld1
  have g2 := fld2
  clear hR h
  go_enter Tryz.func58, Tryz.ntmps58
  by_cases hc0 : turnW.contains (tk L i).text = true
  · rw [if_pos hc0] at HQ
    have hlt := con_lt hc0 (by decide)
    have hc : [[45], [33]].contains (tk L i).text = true := hc0
    clear hc0
    have HC1 := hide (turning_any w)
    go_wp2_with fail
    refine (unhide HC1).mono ?_
    rintro e wq ⟨rfl, hwq⟩
    rw [hwq]
    clear hwq HC1
    have HC0 := isOne_at [[45], [33]] #[.string ⟨#[45]⟩, .string ⟨#[33]⟩] rfl (unhide HS0).pe (by simp) (by omega) (by omega)
    rw [hc] at HC0
    have HC2 := hide HC0
    clear HC0 hc
    go_wp2_with fail
    refine (unhide HC2).mono ?_
    rintro e w2 ⟨rfl, hx⟩
    have HS2 := hide ((unhide HS0).ext hx)
    have hz2 : w.heap.size ≤ w2.heap.size := (unhide HS2).out.size
    clear hx HC2
    have HC3 := hide (begin_any 16 none 0 0 (unhide HS2).pe (by omega) (by omega))
    go_wp2_with fail
    refine (unhide HC3).mono ?_
    rintro e w3 ⟨xb, rfl, hxb, hB, hx⟩
    have hxw : w.heap.size ≤ xb := by omega
    have HS3 := hide ((unhide HS2).ext hx)
    have hz3 : w.heap.size ≤ w3.heap.size := (unhide HS3).out.size
    have hy3 : w2.heap.size ≤ w3.heap.size := hx.size
    clear hx HC3
    have N3 : Hid (ND w3 w.heap.size w.heap.size xb 16 [] [] 0 (tk L (i)).place (.slice none 0 0) []) := ND.new hB hxw
    clear hB
    have HC4 := hide (take_ok (unhide HS3).pe (by omega) (by omega))
    go_wp2_with fail
    refine (unhide HC4).mono ?_
    rintro e w4 ⟨rfl, hs⟩
    have HS4 := hide ((unhide HS3).trans hs)
    have hz4 : w.heap.size ≤ w4.heap.size := (unhide HS4).out.size
    have hy4 : w3.heap.size ≤ w4.heap.size := hs.out.size
    have N4 := hide ((unhide N3).out hs.out (by omega))
    clear N3
    clear hs HC4
    have q5 := (unhide N4).blk.cell (i := 2) rfl
    have fq5 := fun j => (unhide N4).blk.free j
    obtain ⟨w5, hw5⟩ : ∃ w5, w5 = w4.setCell ⟨xb, 2, none⟩ (.string ⟨(tk L i).text.toArray⟩) := ⟨_, rfl⟩
    have N5 := hide ((unhide N4).setText (tk L i).text)
    have HS5 := hide (St.set (c := 2) (v := .string ⟨(tk L i).text.toArray⟩) (unhide HP) (unhide HS4) hxw)
    rw [← hw5] at N5 HS5
    have hz5 : w.heap.size ≤ w5.heap.size := (unhide HS5).out.size
    clear N4
    have hxl6 : xb < w5.heap.size := (unhide N5).blk.lt
    obtain ⟨⟨j6, o6⟩, hR6⟩ : ∃ r : Rp, rec 8 (i + 1) = r := ⟨_, rfl⟩
    have ha6 := unhide HVV 8 (i + 1) (by omega)
    have HC6 := hide (unhide HH 8 (i + 1) w5 (by decide) (show 20 * (L.length - (i + 1)) + 4 ≤ f by omega) (by omega) (unhide HS5).pe)
    rw [hR6] at ha6 HC6 HQ
    clear hR6
    cases o6 with
    | none =>
      have HQn : Hid (R = (j6, none)) := (unhide HQ).symm
      go_wp2_with fail
      rw [← hw5]
      clear hw5 q5 fq5
      refine (unhide HC6).mono ?_
      rintro e w6 ⟨hs, rfl⟩
      have HSn := hide ((unhide HS5).trans hs)
      clear hs
      go_wp2
      exact ⟨rfl, RQ.pan (unhide HSn) (unhide HQn)⟩
    | some x6 =>
      have hj6 : i + 1 < j6 ∧ j6 ≤ L.length := ⟨ha6.2 rfl, ha6.1.2⟩
      rw [bnd_some (r := (j6, some x6)) rfl] at HQ
      clear ha6
      go_wp2_with fail
      rw [← hw5]
      clear hw5 q5 fq5
      refine (unhide HC6).mono ?_
      rintro e w6 ⟨hs, b6, rfl, hp⟩
      have HS6 := hide ((unhide HS5).trans hs)
      have hz6 : w.heap.size ≤ w6.heap.size := (unhide HS6).out.size
      have hy6 : w5.heap.size ≤ w6.heap.size := hs.out.size
      have N6 := hide ((unhide N5).out hs.out (by omega))
      clear N5
      clear hs HC6
      have P6 := hide hp
      clear hp
      have q7 := ((unhide N6).ext ((Ext.refl w6).alloc (.cells #[.pointer (some ⟨b6, 0, none⟩)] 53))).blk.cell (i := 6) rfl
      have fq7 := fun j => ((unhide N6).ext ((Ext.refl w6).alloc (.cells #[.pointer (some ⟨b6, 0, none⟩)] 53))).blk.free j
      obtain ⟨w7, hw7⟩ : ∃ w7, w7 = (w6.alloc (.cells #[.pointer (some ⟨b6, 0, none⟩)] 53)).setCell ⟨xb, 6, none⟩ (.slice (some ⟨w6.heap.size, 0, none⟩) 1 1) := ⟨_, rfl⟩
      have N7 := hide (((unhide N6).ext ((Ext.refl w6).alloc (.cells #[.pointer (some ⟨b6, 0, none⟩)] 53))).setKids (v' := .slice (some ⟨w6.heap.size, 0, none⟩) 1 1) (l' := [x6]) (by
        have hsz : (w6.alloc (.cells #[.pointer (some ⟨b6, 0, none⟩)] 53)).heap.size = w6.heap.size + 1 := by simp
        have hp2 := ((unhide P6).ext ((Ext.refl w6).alloc (.cells #[.pointer (some ⟨b6, 0, none⟩)] 53)))
        have hlt := (unhide N6).blk.lt
        have hone := PRs.one (lo := w5.heap.size) (hi := w6.heap.size + 1) (X := fun b => b = xb) hp2 (Blk.new _ _ _) (Nat.le_refl _) (by omega) (by omega) (by omega) (fun m e => .inl (by omega))
        exact hone.wide (by omega) (by omega) (Nat.le_refl _)) (fun m e => by
        have e2 : w6.heap.size = m := by simpa [Value.ownBlock] using e
        omega))
      have HS7 := hide (St.set (c := 6) (v := .slice (some ⟨w6.heap.size, 0, none⟩) 1 1) (unhide HP) ((unhide HS6).ext ((Ext.refl w6).alloc (.cells #[.pointer (some ⟨b6, 0, none⟩)] 53))) hxw)
      rw [← hw7] at N7 HS7
      have hz7 : w.heap.size ≤ w7.heap.size := (unhide HS7).out.size
      clear N6 P6
      go_wp2
      rw [← hw7]
      clear hw7 q7 fq7
      go_ret
      exact RQ.ok (unhide HS7) (unhide N7).part ((unhide HQ).symm)
  · rw [if_neg hc0] at HQ
    have hc : [[45], [33]].contains (tk L i).text = false := Bool.eq_false_iff.2 hc0
    clear hc0
    have HC8 := hide (turning_any w)
    go_wp2_with fail
    refine (unhide HC8).mono ?_
    rintro e wq ⟨rfl, hwq⟩
    rw [hwq]
    clear hwq HC8
    have HC0 := isOne_at [[45], [33]] #[.string ⟨#[45]⟩, .string ⟨#[33]⟩] rfl (unhide HS0).pe (by simp) (by omega) (by omega)
    rw [hc] at HC0
    have HC9 := hide HC0
    clear HC0 hc
    go_wp2_with fail
    refine (unhide HC9).mono ?_
    rintro e w9 ⟨rfl, hx⟩
    have HS9 := hide ((unhide HS0).ext hx)
    have hz9 : w.heap.size ≤ w9.heap.size := (unhide HS9).out.size
    clear hx HC9
    obtain ⟨⟨j10, o10⟩, hR10⟩ : ∃ r : Rp, rec 9 (i) = r := ⟨_, rfl⟩
    have ha10 := unhide HVV 9 (i) (by omega)
    have HC10 := hide (unhide HH 9 (i) w9 (by decide) (show 20 * (L.length - (i)) + 3 ≤ f by omega) (by omega) (unhide HS9).pe)
    rw [hR10] at ha10 HC10 HQ
    clear hR10
    cases o10 with
    | none =>
      have HQn : Hid (R = (j10, none)) := (unhide HQ).symm
      go_wp2_with fail
      refine (unhide HC10).mono ?_
      rintro e w10 ⟨hs, rfl⟩
      have HSn := hide ((unhide HS9).trans hs)
      clear hs
      go_wp2
      exact ⟨rfl, RQ.pan (unhide HSn) (unhide HQn)⟩
    | some x10 =>
      have hj10 : i < j10 ∧ j10 ≤ L.length := ⟨ha10.2 rfl, ha10.1.2⟩
      clear ha10
      go_wp2_with fail
      refine (unhide HC10).mono ?_
      rintro e w10 ⟨hs, b10, rfl, hp⟩
      have HS10 := hide ((unhide HS9).trans hs)
      have hz10 : w.heap.size ≤ w10.heap.size := (unhide HS10).out.size
      have hy10 : w9.heap.size ≤ w10.heap.size := hs.out.size
      clear hs HC10
      have P10 := hide hp
      clear hp
      go_wp2
      go_ret
      exact RQ.ok (unhide HS10) ((unhide P10).wide (by omega) (unhide P10).top (Nat.le_refl _)) ((unhide HQ).symm)

end
end Go.Proofs.YtjfhhhabcbkahaaGreat
