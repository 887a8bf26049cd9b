/-
  What is told: the closure that calls itself.
-/
import Derived.Test.YtdcamcpffiilbaaDoorZT
namespace Go.Proofs.YtdcamcpffiilbaaDoor
open Go.RowKit
set_option linter.unusedVariables false
set_option linter.unusedSimpArgs false

/-- What the closure answers. -/
def ToldQ (w : World) (T : Nat → Prop) (base rb mb n : Nat) (po : Option Addr) (pc : Nat) (E : Env) (ps : List Part) (tl : List Tok) (cr cw ct cn ca wm : Nat) (tk : Tok) (wi : List Byts8) (d : Nat) (R : Option (List Tok × Nat)) (e : Ending) (w' : World) : Prop :=
  ∃ (ok : Bool) (T' : Nat → Prop) (to' : Option Addr) (tc' : Nat) (tl' : List Tok) (d' nw' : Nat), e = .returned (.bool ok) ∧ Wid T T' w ∧ RD w' T' base rb mb n po pc to' tc' E ps tl' ∧ CL w' T' rb mb cr cw ct cn ca wm (.slice po ps.length pc) (.slice to' tl'.length tc') tk d' nw' wi ∧ Out T w w' ∧ d ≤ d' ∧ d' ≤ 2049 ∧ tl'.length ≤ 2049 ∧
    (ok = true → tl'.length ≤ 2048 ∧ d' ≤ 2048 ∧ ∃ xs, R = some (xs, d') ∧ tl' = tl ++ xs) ∧ (ok = false → R = none ∨ ∃ xs d2, R = some (xs, d2) ∧ 2048 < tl.length + xs.length)
theorem eTell : ∀ args w, (callFunc 53 args).run Tryd.prog w = .ok (.enter 53 args) w := enters_of Tryd.func53 (by kernel_rfl) rfl
theorem zeroUnit (w : World) : (zeroValue 83).run Tryd.prog w = .ok (.agg #[]) w := by kernel_rfl

/-- A token that stays is told. -/
theorem emit {w : World} {T : Nat → Prop} {base rb mb n : Nat} {po : Option Addr} {pc : Nat} {to : Option Addr} {tc : Nat} {E : Env} {ps : List Part} {tl : List Tok} {cr cw ct cn ca wm : Nat} {tk : Tok} {d nw : Nat} {wi : List Byts8}
    (h : RD w T base rb mb n po pc to tc E ps tl) (c : CL w T rb mb cr cw ct cn ca wm (.slice po ps.length pc) (.slice to tl.length tc) tk d nw wi) (y : Tok) (htl : tl.length ≤ 2048) :
    ∃ ao' cap' w6, (Builtin.append_ #[23, 23] 23 #[.slice to tl.length tc, .slice (some ⟨w.heap.size, 0, none⟩) 1 1]).run Tryd.prog (w.alloc (.cells #[.int .i64 y.kind, .string ⟨y.text.toArray⟩, .int .i32 y.num, .int .i64 y.place, .int .i64 y.line] 33)) = .ok (.slice ao' (tl.length + 1) cap') w6 ∧
      Blk w6 rb #[.map (some mb), .slice po ps.length pc, .slice to tl.length tc] 40 ∧ Blk w6 cr #[.pointer (some ⟨rb, 0, none⟩)] 34 ∧ cr ≠ rb ∧ (∀ q cs t, Blk w q cs t → (Value.slice to tl.length tc).ownBlock ≠ some q → Blk w6 q cs t) ∧ ∃ T', Wid T T' w ∧ RD (w6.setCell ⟨rb, 2, none⟩ (.slice ao' (tl.length + 1) cap')) T' base rb mb n po pc ao' cap' E ps (tl ++ [y]) ∧
      CL (w6.setCell ⟨rb, 2, none⟩ (.slice ao' (tl.length + 1) cap')) T' rb mb cr cw ct cn ca wm (.slice po ps.length pc) (.slice ao' (tl ++ [y]).length cap') tk d nw wi ∧ Out T w (w6.setCell ⟨rb, 2, none⟩ (.slice ao' (tl.length + 1) cap')) := by
  obtain ⟨ao', cap', w6, hrun, hO6, hg6, hloc⟩ := append_T h.told h.high (by omega) y
  have hx : Ext w (w.alloc (.cells #[.int .i64 y.kind, .string ⟨y.text.toArray⟩, .int .i32 y.num, .int .i64 y.place, .int .i64 y.line] 33)) := (Ext.refl w).alloc _
  have hl : (tl ++ [y]).length = tl.length + 1 := by simp
  obtain ⟨T', hw, hrd, hout⟩ := (h.ext hx).tellTok (qs := tl ++ [y]) (w' := w6) hg6 (by rw [hl]; exact hO6) (by rw [hl, World.size_alloc]; exact fun b hb => (hloc b hb).imp id (fun h => by omega))
  rw [hl] at hrd hout
  have hcr : cr ≠ rb := fun e => c.nT.1 (by rw [e]; exact h.trb)
  have hw2 : Wid T T' w := hw.low hx.size
  have hone : Out T w (w6.setCell ⟨rb, 2, none⟩ (.slice ao' (tl.length + 1) cap')) := (Out.of_ext hx).trans hout (fun b hb => .inl hb)
  have keep : ∀ q, q < w.heap.size → q ≠ rb → (Value.slice to tl.length tc).ownBlock ≠ some q → (w6.setCell ⟨rb, 2, none⟩ (.slice ao' (tl.length + 1) cap')).heap[q]? = w.heap[q]? := fun q hq h1 h2 => by
    have e1 := (grownBy_set w6 rb 2 (.slice ao' (tl.length + 1) cap')).block q (Nat.lt_of_lt_of_le hq (Nat.le_trans hx.size hg6.size)) (by simpa using h1)
    have e2 := hg6.block q (Nat.lt_of_lt_of_le hq hx.size) (fun e => h2 e.symm)
    exact e1.trans (e2.trans (hx.block q hq))
  refine ⟨ao', cap', w6, hrun, blkGrownO (h.ext hx).blk hg6 (fun e => (h.tto rb e).2.1 rfl), blkGrownO (c.ext hx).r hg6 (fun e => c.nT.1 (h.tto cr e).1), hcr, (fun q cs t hB hq => blkGrownO (hB.ext hx) hg6 hq), T', hw2, hrd, ?_, hone⟩
  refine c.step hone hw2 (keep cn c.nn.lt c.ne.2.1 c.ne.2.2.2.2.2.2.2.1) (keep wm c.m.lt c.ne.2.2.2.1 c.ne.2.2.2.2.2.2.2.2) ⟨fun e => ?_, fun e => ?_⟩
  · rw [hl] at e
    rcases hloc _ e with h1 | h1
    · exact c.ne.2.2.2.2.2.2.2.1 h1
    · have := c.nn.lt
      omega
  · rw [hl] at e
    rcases hloc _ e with h1 | h1
    · exact c.ne.2.2.2.2.2.2.2.2 h1
    · have := c.m.lt
      omega

section
variable {w w' : World} {T : Nat → Prop} {rb mb cr cw ct cn ca wm : Nat} {pv tv : Value} {tk : Tok} {d nw : Nat} {wi : List Byts8}
theorem CL.setN (h : CL w T rb mb cr cw ct cn ca wm pv tv tk d nw wi) {d' : Nat} (hd : d ≤ d') : CL (w.setCell ⟨cn, 0, none⟩ (.int .i64 (d' : Int))) T rb mb cr cw ct cn ca wm pv tv tk d' nw wi := by
  have hne : ∀ c, ¬ T c → c ≠ cn := fun c hc e => hc (by rw [e]; exact h.tT.1)
  exact ⟨h.r.other 0 _ (hne _ h.nT.1), h.wv.other 0 _ (hne _ h.nT.2.1), h.t.other 0 _ (hne _ h.nT.2.2.1), h.nn.set 0 (.int .i64 (d' : Int)), h.a.other 0 _ (hne _ h.nT.2.2.2), h.m.kept (grownBy_set w cn 0 _) (fun e => h.ne.1 (by cases e; rfl)), h.nT, h.tT, h.ne, Nat.le_trans h.le hd⟩
theorem CL.inW {nw' : Nat} {wi' : List Byts8} (h : CL w T rb mb cr cw ct cn ca wm pv tv tk d nw wi) (hg : w.grownBy w' (some wm)) (hf : FM w' wm nw' (inW wi')) (hn : nw' ≤ d) : CL w' T rb mb cr cw ct cn ca wm pv tv tk d nw' wi' := by
  have hne : ∀ c, ¬ T c → c ≠ wm := fun c hc e => hc (by rw [e]; exact h.tT.2)
  exact ⟨h.r.grown hg (hne _ h.nT.1), h.wv.grown hg (hne _ h.nT.2.1), h.t.grown hg (hne _ h.nT.2.2.1), h.nn.grown hg h.ne.1, h.a.grown hg (hne _ h.nT.2.2.2), hf, h.nT, h.tT, h.ne, hn⟩
end
theorem inW_put (wi : List Byts8) (k k' : Byts8) : (if k' = k then some (Value.agg #[]) else inW wi k') = inW (k :: wi) k' := by
  unfold inW
  by_cases h : k' = k
  · rw [if_pos h, if_pos (by rw [h]; simp)]
  · rw [if_neg h]
    congr 1
    simp [h]
theorem inW_del {wi : List Byts8} {k : Byts8} (hk : wi.contains k = false) (k' : Byts8) : (if k' = k then none else inW (k :: wi) k') = inW wi k' := by
  unfold inW
  by_cases h : k' = k
  · rw [if_pos h, h, if_neg (by rw [hk]; decide)]
  · rw [if_neg h]
    congr 1
    simp [h]
theorem invoke_del {P : Program} {w w' : World} {t k ty : TypeId} {cns : Array Bool} {args : Array Value} {v : Value} (h : (Builtin.delete_ #[t, k] ty args).run P w = .ok v w') : (invoke (.builtin .delete #[t, k] ty cns) args).run P w = .ok (.value v) w' := by
  simp [invoke, builtin, h, Result.andThen]

set_option maxHeartbeats 4000000 in
set_option maxRecDepth 100000 in
theorem add_any {base rb mb n : Nat} {po : Option Addr} {pc : Nat} {E : Env} {ps : List Part} {cr cw ct cn ca wm : Nat} {tk : Tok} (hE : ∀ k L, E k = some L → ∀ t ∈ L, t.text.length ≤ 1000000) (hEl : ∀ k L, E k = some L → L.length ≤ 1000000) (fuel : Nat) :
    ∀ (wi : List Byts8) (x : Tok) (d nw : Nat) (w : World) (T : Nat → Prop) (to : Option Addr) (tc : Nat) (tl : List Tok), RD w T base rb mb n po pc to tc E ps tl → CL w T rb mb cr cw ct cn ca wm (.slice po ps.length pc) (.slice to tl.length tc) tk d nw wi → 2049 ≤ fuel + d → d ≤ 2048 → tl.length ≤ 2048 → x.text.length ≤ 1000000 →
      Calls Tryd.prog 53 #[.agg #[.int .i64 x.kind, .string ⟨x.text.toArray⟩, .int .i32 x.num, .int .i64 x.place, .int .i64 x.line], .pointer (some ⟨cr, 0, none⟩), .pointer (some ⟨cw, 0, none⟩), .pointer (some ⟨ct, 0, none⟩), .pointer (some ⟨cn, 0, none⟩), .pointer (some ⟨ca, 0, none⟩)] w
        (ToldQ w T base rb mb n po pc E ps tl cr cw ct cn ca wm tk wi d (expT E tk.place tk.line fuel wi x d)) := by
  induction fuel with
  | zero =>
    intro wi x d nw w T to tc tl hrd hcl hfu hd htl hx
    omega
  | succ fuel ih =>
    intro wi x d nw w T to tc tl hrd hcl hfu hd htl hx
    have IH := hide ih
    have HRD := hide hrd
    have HCL := hide hcl
    clear ih hrd hcl
    obtain ⟨R, hR⟩ : ∃ R, R = expT E tk.place tk.line (fuel + 1) wi x d := ⟨_, rfl⟩
    rw [← hR]
    have HR := hide hR
    clear hR
    obtain ⟨ao0, m0, cap0, hlook, hbody⟩ := (unhide HRD).look x.text (by unfold maxLen; omega)
    have HLK := hide hlook
    have HBODY := hide hbody
    clear hlook hbody
    have hxl : x.text.length ≤ maxLen := by unfold maxLen; omega
    obtain ⟨w1, hw1⟩ : ∃ w1, w1 = w.alloc (.cells #[.int .i64 x.kind, .string ⟨x.text.toArray⟩, .int .i32 x.num, .int .i64 x.place, .int .i64 x.line] 33) := ⟨_, rfl⟩
    have X1 : Hid (Ext w w1) := by rw [hw1]; exact (Ext.refl w).alloc _
    have HXB := hide (Blk.new w #[.int .i64 x.kind, .string ⟨x.text.toArray⟩, .int .i32 x.num, .int .i64 x.place, .int .i64 x.line] 33)
    obtain ⟨xb, hxb⟩ : ∃ xb, xb = w.heap.size := ⟨_, rfl⟩
    rw [← hw1, ← hxb] at HXB
    refine calls_of_wp_defersV Tryd.func53 rfl ?_
    simp only [Tryd.ntmps53, List.size_toArray, List.length_cons, List.length_nil, Nat.reduceAdd, Nat.reduceSub, Array.replicate_succ, Array.replicate_zero, List.push_toArray, List.append_toArray, List.nil_append, List.cons_append]
    go_wp2
    rw [← hw1, ← hxb]
    have HXS := hide hxb
    clear hw1 hxb
    have r0 := ((unhide HCL).ext (unhide X1)).r.cell (i := 0) (v := .pointer (some ⟨rb, 0, none⟩)) rfl
    have m0c := ((unhide HRD).ext (unhide X1)).blk.cell (i := 0) (v := .map (some mb)) rfl
    have x1 := (unhide HXB).cell (i := 1) (v := .string ⟨x.text.toArray⟩) rfl
    have l0 := unhide HLK w1 (unhide X1)
    have l1 := unhide HLK w1.drew (unhide X1).drew
    have l2 := fun k => unhide HLK (w1.drewN k) ((unhide X1).drewN k)
    go_quiet (fail)
    obtain ⟨w2, hw2⟩ : ∃ w2, w2 = w1.drewN nq := ⟨_, rfl⟩
    have X2 : Hid (Ext w w2) := by rw [hw2]; exact (unhide X1).drewN nq
    have HXB2 : Hid (Blk w2 xb #[.int .i64 x.kind, .string ⟨x.text.toArray⟩, .int .i32 x.num, .int .i64 x.place, .int .i64 x.line] 33) := by rw [hw2]; exact unhide HXB
    have hsz : xb < w2.heap.size := (unhide HXB2).lt
    rw [← hw2]
    clear r0 m0c x1 l0 l1 l2 hw2 HXB X1
    have HWL := hide (fun wx hx => ((unhide HCL).m.ext (w' := wx) hx).look (t := 81) (e := 83) (z := .agg #[]) Tryd.underlying81 (zeroUnit wx) x.text hxl)
    have hwv : ∀ b : Bool, ((if b = true then some (Value.agg #[]) else none).getD (.agg #[]) = .agg #[]) ∧ ((if b = true then some (Value.agg #[]) else none : Option Value).isSome = b) := fun b => by cases b <;> exact ⟨rfl, rfl⟩
    have l0 : (Instr.lookup 81 (.map (some wm)) (.string ⟨x.text.toArray⟩) true).run Tryd.prog w2 = .ok (.tuple #[.agg #[], .bool (wi.contains x.text)]) w2 := by
      have := unhide HWL w2 (unhide X2)
      unfold inW at this
      rw [(hwv _).1, (hwv _).2] at this
      exact this
    have r0 := ((unhide HCL).ext (unhide X2)).wv.cell (i := 0) (v := .map (some wm)) rfl
    have x1 := (unhide HXB2).cell (i := 1) (v := .string ⟨x.text.toArray⟩) rfl
    clear HWL hwv
    obtain ⟨w3, hw3⟩ : ∃ w3, w3 = w2.alloc (.cells #[] 83) := ⟨_, rfl⟩
    have X3 : Hid (Ext w w3) := by rw [hw3]; exact (unhide X2).alloc _
    have HXB3 : Hid (Blk w3 xb #[.int .i64 x.kind, .string ⟨x.text.toArray⟩, .int .i32 x.num, .int .i64 x.place, .int .i64 x.line] 33) := by rw [hw3]; exact (unhide HXB2).alloc _
    cases hs : (wi.contains x.text || (E x.text).isNone) with
    | true =>
      have hR2 : R = some ([⟨x.kind, x.text, x.num, tk.place, tk.line⟩], d) := by
        rw [unhide HR]
        unfold expT
        rw [if_pos hs]
      subst hR2
      have hcase : wi.contains x.text = true ∨ (wi.contains x.text = false ∧ (E x.text).isSome = false) := by
        cases h1 : wi.contains x.text with
        | true => exact .inl rfl
        | false =>
          rw [h1, Bool.false_or] at hs
          refine .inr ⟨rfl, ?_⟩
          cases h2 : E x.text with
          | none => rfl
          | some v => rw [h2] at hs; cases hs
      clear hs HR
      have k0 := (unhide HXB3).cell (i := 0) (v := .int .i64 x.kind) rfl
      have k1 := (unhide HXB3).cell (i := 1) (v := .string ⟨x.text.toArray⟩) rfl
      have k2 := (unhide HXB3).cell (i := 2) (v := .int .i32 x.num) rfl
      have k3 := (unhide HXB3).cell (i := 3) (v := .int .i64 x.place) rfl
      have k4 := (unhide HXB3).cell (i := 4) (v := .int .i64 x.line) rfl
      have fy := fun i => (unhide HXB3).free i
      have t3 := ((unhide HCL).ext (unhide X3)).t.cell (i := 3) (v := .int .i64 tk.place) rfl
      have t4 := ((unhide HCL).ext (unhide X3)).t.cell (i := 4) (v := .int .i64 tk.line) rfl
      rcases hcase with h1 | ⟨h1, h2⟩
      all_goals
        rw [h1] at l0
        have HW3 := hide hw3
        clear hw3
        go_wp2
        rw [← unhide HW3]
        clear HW3 l0 r0 x1
        go_region
        obtain ⟨w4, hw4⟩ : ∃ w4, w4 = ((w3.setCell ⟨xb, 3, none⟩ (.int .i64 tk.place)).setCell ⟨xb, 4, none⟩ (.int .i64 tk.line)).drew := ⟨_, rfl⟩
        have hxbs : w.heap.size ≤ xb := Nat.le_of_eq (unhide HXS).symm
        have X4 : Hid (Ext w w4) := by rw [hw4]; exact (extSet (extSet (unhide X3) hxbs) hxbs).drew
        have HXB4 : Hid (Blk w4 xb #[.int .i64 x.kind, .string ⟨x.text.toArray⟩, .int .i32 x.num, .int .i64 tk.place, .int .i64 tk.line] 33) := by rw [hw4]; exact ((unhide HXB3).set 3 (.int .i64 tk.place)).set 4 (.int .i64 tk.line)
        rw [← hw4]
        clear hw4 k0 k1 k2 k3 k4 fy t3 t4 HXB3 HXB2 X2 hsz
        obtain ⟨ao', cap', w6, hrun, hB6, hC6, hcrb, hkp, T', hw, hrd, hcl, hout⟩ := emit ((unhide HRD).ext (unhide X4).drew) ((unhide HCL).ext (unhide X4).drew) ⟨x.kind, x.text, x.num, tk.place, tk.line⟩ htl
        have HX6 : Hid (Blk w6 xb #[.int .i64 x.kind, .string ⟨x.text.toArray⟩, .int .i32 x.num, .int .i64 tk.place, .int .i64 tk.line] 33) := hkp xb _ _ (unhide HXB4) (fun e => by have := (World.ownsRow.lt (unhide HRD).told xb e).2; omega)
        have hxrb : xb ≠ rb := fun e => by have := (unhide HRD).blk.lt; omega
        have HRUN := hide hrun
        have HB6 := hide hB6
        have HC6 := hide hC6
        have HOUT := hide hout
        have HRD6 := hide hrd
        have HCL6 := hide hcl
        have HW6 := hide hw
        clear hrun hB6 hC6 hout hrd hcl hw hkp
        go_wp2
        refine wp_region_noPanic ?_
        refine wp_region_held_drew (S := fun wx => Blk wx cr #[.pointer (some ⟨rb, 0, none⟩)] 34 ∧ Blk wx xb #[.int .i64 x.kind, .string ⟨x.text.toArray⟩, .int .i32 x.num, .int .i64 tk.place, .int .i64 tk.line] 33) (by kernel_rfl) ⟨((unhide HCL).ext (unhide X4).drew).r, unhide HXB4⟩ (fun HS => ?_)
        refine wpAnyH_take (i := 0) (oi := { dst := some 42, op := Op.load 34 (Operand.tmp 1), type := _, pos := _, after := _, guard := none }) (v := .pointer (some ⟨rb, 0, none⟩)) rfl (by kernel_rfl) (by kernel_rfl) (by kernel_rfl) (fun _ _ _ h => h) (Or.inl ⟨by rfl, fun wx hx => by have c0 := hx.1.cell (i := 0) (v := .pointer (some ⟨rb, 0, none⟩)) rfl; go_simp⟩) HS ?_
        simp only [Act.put, List.setIfInBounds_toArray, List.set_cons_zero, List.set_cons_succ]
        refine wpAnyH_take (i := 1) (oi := { dst := some 43, op := Op.load 34 (Operand.tmp 1), type := _, pos := _, after := _, guard := none }) (v := .pointer (some ⟨rb, 0, none⟩)) rfl (by kernel_rfl) (by kernel_rfl) (by kernel_rfl) (fun _ _ _ h => h) (Or.inl ⟨by rfl, fun wx hx => by have c0 := hx.1.cell (i := 0) (v := .pointer (some ⟨rb, 0, none⟩)) rfl; go_simp⟩) HS ?_
        simp only [Act.put, List.setIfInBounds_toArray, List.set_cons_zero, List.set_cons_succ]
        refine wpAnyH_take (i := 2) (oi := { dst := some 44, op := Op.nilCheck (Operand.tmp 43), type := _, pos := _, after := _, guard := none }) (v := .pointer (some ⟨rb, 0, none⟩)) rfl (by kernel_rfl) (by kernel_rfl) (by kernel_rfl) (fun _ _ _ h => h) (Or.inl ⟨by rfl, fun wx hx => by go_simp⟩) HS ?_
        simp only [Act.put, List.setIfInBounds_toArray, List.set_cons_zero, List.set_cons_succ]
        refine wpAnyH_take (i := 3) (oi := { dst := some 45, op := Op.fieldAddr 40 (Operand.tmp 44) 2, type := _, pos := _, after := _, guard := none }) (v := .pointer (some ⟨rb, 2, none⟩)) rfl (by kernel_rfl) (by kernel_rfl) (by kernel_rfl) (fun _ _ _ h => h) (Or.inl ⟨by rfl, fun wx hx => by go_simp⟩) HS ?_
        simp only [Act.put, List.setIfInBounds_toArray, List.set_cons_zero, List.set_cons_succ]
        refine wpAnyH_take (i := 5) (oi := { dst := some 47, op := Op.load 33 (Operand.tmp 6), type := _, pos := _, after := _, guard := none }) (v := .agg #[.int .i64 x.kind, .string ⟨x.text.toArray⟩, .int .i32 x.num, .int .i64 tk.place, .int .i64 tk.line]) rfl (by kernel_rfl) (by kernel_rfl) (by kernel_rfl) (fun _ _ _ h => h) (Or.inl ⟨by rfl, fun wx hx => by have d0 := hx.2.cell (i := 0) (v := .int .i64 x.kind) rfl; have d1 := hx.2.cell (i := 1) (v := .string ⟨x.text.toArray⟩) rfl; have d2 := hx.2.cell (i := 2) (v := .int .i32 x.num) rfl; have d3 := hx.2.cell (i := 3) (v := .int .i64 tk.place) rfl; have d4 := hx.2.cell (i := 4) (v := .int .i64 tk.line) rfl; go_simp⟩) HS ?_
        simp only [Act.put, List.setIfInBounds_toArray, List.set_cons_zero, List.set_cons_succ]
        refine wpAnyH_ready (rs := [4, 6]) (by kernel_rfl) (by simp) (AllReadyH.cons (o := { dst := some 46, op := Op.load 23 (Operand.tmp 45), type := _, pos := _, after := _, guard := none }) rfl (fun KK hK => ?_) (AllReadyH.cons (o := { dst := some 48, op := Op.buildSlice 23 1 #[(0, Operand.tmp 47)], type := _, pos := _, after := _, guard := none }) rfl (fun KK hK => ?_) AllReadyH.nil))
        · refine Eq.mpr (if_pos (by rfl)) ?_
          have d2 : (w4.drew).cell? ⟨rb, 2, none⟩ = some (.slice to tl.length tc) := ((unhide HRD).ext (unhide X4).drew).blk.cell (i := 2) (v := .slice to tl.length tc) rfl
          go_simp
          refine hK.out _ _ HS (fun _ => ?_)
          clear hK KK d2
          try simp only [Act.put, List.setIfInBounds_toArray, List.set_cons_zero, List.set_cons_succ]
          refine wpAnyH_ready (rs := [6]) (by kernel_rfl) (by simp) (AllReadyH.cons (o := { dst := some 48, op := Op.buildSlice 23 1 #[(0, Operand.tmp 47)], type := _, pos := _, after := _, guard := none }) rfl (fun KK hK => ?_) AllReadyH.nil)
          refine Eq.mpr (if_pos (by rfl)) ?_
          go_simp
          have HS2 : Blk (w4.drew.alloc (.cells #[.int .i64 x.kind, .string ⟨x.text.toArray⟩, .int .i32 x.num, .int .i64 tk.place, .int .i64 tk.line] 33)) cr #[.pointer (some ⟨rb, 0, none⟩)] 34 ∧ Blk (w4.drew.alloc (.cells #[.int .i64 x.kind, .string ⟨x.text.toArray⟩, .int .i32 x.num, .int .i64 tk.place, .int .i64 tk.line] 33)) xb #[.int .i64 x.kind, .string ⟨x.text.toArray⟩, .int .i32 x.num, .int .i64 tk.place, .int .i64 tk.line] 33 := ⟨HS.1.alloc _, HS.2.alloc _⟩
          clear HS
          have HS := HS2
          clear HS2
          refine hK.out _ _ HS (fun _ => ?_)
          clear hK KK
          try simp only [Act.put, List.setIfInBounds_toArray, List.set_cons_zero, List.set_cons_succ]
          refine wpAnyH_ready (rs := [7]) (by kernel_rfl) (by simp) (AllReadyH.cons (o := { dst := some 49, op := Op.call { callee := Callee.builtin Builtin.append, args := #[Operand.tmp 46, Operand.tmp 48], argTypes := #[23, 23] }, type := _, pos := _, after := _, guard := none }) rfl (fun KK hK => ?_) AllReadyH.nil)
          refine step_run (by rfl) (.tmp 46) (.tmp 48) 23 (by rfl) (by rfl) (by rfl) (unhide HRUN) ?_
          clear HS
          have HS := And.intro (unhide HC6) (unhide HX6)
          refine hK.out _ _ HS (fun _ => ?_)
          clear hK KK
          try simp only [Act.put, List.setIfInBounds_toArray, List.set_cons_zero, List.set_cons_succ]
          refine wpAnyH_take (i := 8) (oi := { dst := some 50, op := Op.nilCheck (Operand.tmp 42), type := _, pos := _, after := _, guard := none }) (v := .pointer (some ⟨rb, 0, none⟩)) rfl (by kernel_rfl) (by kernel_rfl) (by kernel_rfl) (fun _ _ _ h => h) (Or.inl ⟨by rfl, fun wx hx => by go_simp⟩) HS ?_
          simp only [Act.put, List.setIfInBounds_toArray, List.set_cons_zero, List.set_cons_succ]
          refine wpAnyH_take (i := 9) (oi := { dst := some 51, op := Op.fieldAddr 40 (Operand.tmp 50) 2, type := _, pos := _, after := _, guard := none }) (v := .pointer (some ⟨rb, 2, none⟩)) rfl (by kernel_rfl) (by kernel_rfl) (by kernel_rfl) (fun _ _ _ h => h) (Or.inl ⟨by rfl, fun wx hx => by go_simp⟩) HS ?_
          simp only [Act.put, List.setIfInBounds_toArray, List.set_cons_zero, List.set_cons_succ]
          refine wpAnyH_ready (rs := [10]) (by kernel_rfl) (by simp) (AllReadyH.cons (o := { dst := none, op := Op.store 23 (Operand.tmp 51) (Operand.tmp 49), type := _, pos := _, after := _, guard := none }) rfl (fun KK hK => ?_) AllReadyH.nil)
          refine Eq.mpr (if_pos (by rfl)) ?_
          have e2 := (unhide HB6).cell (i := 2) (v := .slice to tl.length tc) rfl
          have fe := fun i => (unhide HB6).free i
          go_simp
          refine hK.out _ _ ⟨HS.1.other 2 _ hcrb, HS.2.other 2 _ hxrb⟩ (fun _ => ?_)
          clear hK KK e2 fe
          try simp only [Act.put, List.setIfInBounds_toArray, List.set_cons_zero, List.set_cons_succ]
          refine wpAnyH_done (by kernel_rfl) ?_ _
          refine NoPanic.normal ?_
          have s0 := ((unhide HC6).other 2 (.slice ao' (tl.length + 1) cap') hcrb).cell (i := 0) (v := .pointer (some ⟨rb, 0, none⟩)) rfl
          have s2 := ((unhide HB6).set 2 (.slice ao' (tl.length + 1) cap')).cell (i := 2) (v := .slice ao' (tl.length + 1) cap') rfl
          go_wp2
          refine ⟨_, results_tmp rfl _ _ _, ?_⟩
          refine ⟨decide ((tl.length : Int) + 1 ≤ 2048), T', ao', cap', tl ++ [⟨x.kind, x.text, x.num, tk.place, tk.line⟩], d, nw, rfl, (unhide HW6).low (unhide X4).size, unhide HRD6, unhide HCL6, (Out.of_ext (unhide X4).drew).trans (unhide HOUT) (fun b hb => .inl hb), Nat.le_refl _, by omega, by simp; omega, fun hok => ?_, fun hok => ?_⟩
          · have := of_decide_eq_true hok
            exact ⟨by simp; omega, hd, _, rfl, rfl⟩
          · have := of_decide_eq_false hok
            exact .inr ⟨_, _, rfl, by simp; omega⟩
        · refine Eq.mpr (if_pos (by rfl)) ?_
          go_simp
          have HS2 : Blk (w4.drew.alloc (.cells #[.int .i64 x.kind, .string ⟨x.text.toArray⟩, .int .i32 x.num, .int .i64 tk.place, .int .i64 tk.line] 33)) cr #[.pointer (some ⟨rb, 0, none⟩)] 34 ∧ Blk (w4.drew.alloc (.cells #[.int .i64 x.kind, .string ⟨x.text.toArray⟩, .int .i32 x.num, .int .i64 tk.place, .int .i64 tk.line] 33)) xb #[.int .i64 x.kind, .string ⟨x.text.toArray⟩, .int .i32 x.num, .int .i64 tk.place, .int .i64 tk.line] 33 := ⟨HS.1.alloc _, HS.2.alloc _⟩
          clear HS
          have HS := HS2
          clear HS2
          refine hK.out _ _ HS (fun _ => ?_)
          clear hK KK
          try simp only [Act.put, List.setIfInBounds_toArray, List.set_cons_zero, List.set_cons_succ]
          refine wpAnyH_ready (rs := [4]) (by kernel_rfl) (by simp) (AllReadyH.cons (o := { dst := some 46, op := Op.load 23 (Operand.tmp 45), type := _, pos := _, after := _, guard := none }) rfl (fun KK hK => ?_) AllReadyH.nil)
          refine Eq.mpr (if_pos (by rfl)) ?_
          have d2 : ((w4.alloc (.cells #[.int .i64 x.kind, .string ⟨x.text.toArray⟩, .int .i32 x.num, .int .i64 tk.place, .int .i64 tk.line] 33)).drew).cell? ⟨rb, 2, none⟩ = some (.slice to tl.length tc) := (((unhide HRD).ext (unhide X4).drew).blk.alloc (.cells #[.int .i64 x.kind, .string ⟨x.text.toArray⟩, .int .i32 x.num, .int .i64 tk.place, .int .i64 tk.line] 33)).cell (i := 2) (v := .slice to tl.length tc) rfl
          go_simp
          refine hK.out _ _ HS (fun _ => ?_)
          clear hK KK d2
          try simp only [Act.put, List.setIfInBounds_toArray, List.set_cons_zero, List.set_cons_succ]
          refine wpAnyH_ready (rs := [7]) (by kernel_rfl) (by simp) (AllReadyH.cons (o := { dst := some 49, op := Op.call { callee := Callee.builtin Builtin.append, args := #[Operand.tmp 46, Operand.tmp 48], argTypes := #[23, 23] }, type := _, pos := _, after := _, guard := none }) rfl (fun KK hK => ?_) AllReadyH.nil)
          refine step_run (by rfl) (.tmp 46) (.tmp 48) 23 (by rfl) (by rfl) (by rfl) (unhide HRUN) ?_
          clear HS
          have HS := And.intro (unhide HC6) (unhide HX6)
          refine hK.out _ _ HS (fun _ => ?_)
          clear hK KK
          try simp only [Act.put, List.setIfInBounds_toArray, List.set_cons_zero, List.set_cons_succ]
          refine wpAnyH_take (i := 8) (oi := { dst := some 50, op := Op.nilCheck (Operand.tmp 42), type := _, pos := _, after := _, guard := none }) (v := .pointer (some ⟨rb, 0, none⟩)) rfl (by kernel_rfl) (by kernel_rfl) (by kernel_rfl) (fun _ _ _ h => h) (Or.inl ⟨by rfl, fun wx hx => by go_simp⟩) HS ?_
          simp only [Act.put, List.setIfInBounds_toArray, List.set_cons_zero, List.set_cons_succ]
          refine wpAnyH_take (i := 9) (oi := { dst := some 51, op := Op.fieldAddr 40 (Operand.tmp 50) 2, type := _, pos := _, after := _, guard := none }) (v := .pointer (some ⟨rb, 2, none⟩)) rfl (by kernel_rfl) (by kernel_rfl) (by kernel_rfl) (fun _ _ _ h => h) (Or.inl ⟨by rfl, fun wx hx => by go_simp⟩) HS ?_
          simp only [Act.put, List.setIfInBounds_toArray, List.set_cons_zero, List.set_cons_succ]
          refine wpAnyH_ready (rs := [10]) (by kernel_rfl) (by simp) (AllReadyH.cons (o := { dst := none, op := Op.store 23 (Operand.tmp 51) (Operand.tmp 49), type := _, pos := _, after := _, guard := none }) rfl (fun KK hK => ?_) AllReadyH.nil)
          refine Eq.mpr (if_pos (by rfl)) ?_
          have e2 := (unhide HB6).cell (i := 2) (v := .slice to tl.length tc) rfl
          have fe := fun i => (unhide HB6).free i
          go_simp
          refine hK.out _ _ ⟨HS.1.other 2 _ hcrb, HS.2.other 2 _ hxrb⟩ (fun _ => ?_)
          clear hK KK e2 fe
          try simp only [Act.put, List.setIfInBounds_toArray, List.set_cons_zero, List.set_cons_succ]
          refine wpAnyH_done (by kernel_rfl) ?_ _
          refine NoPanic.normal ?_
          have s0 := ((unhide HC6).other 2 (.slice ao' (tl.length + 1) cap') hcrb).cell (i := 0) (v := .pointer (some ⟨rb, 0, none⟩)) rfl
          have s2 := ((unhide HB6).set 2 (.slice ao' (tl.length + 1) cap')).cell (i := 2) (v := .slice ao' (tl.length + 1) cap') rfl
          go_wp2
          refine ⟨_, results_tmp rfl _ _ _, ?_⟩
          refine ⟨decide ((tl.length : Int) + 1 ≤ 2048), T', ao', cap', tl ++ [⟨x.kind, x.text, x.num, tk.place, tk.line⟩], d, nw, rfl, (unhide HW6).low (unhide X4).size, unhide HRD6, unhide HCL6, (Out.of_ext (unhide X4).drew).trans (unhide HOUT) (fun b hb => .inl hb), Nat.le_refl _, by omega, by simp; omega, fun hok => ?_, fun hok => ?_⟩
          · have := of_decide_eq_true hok
            exact ⟨by simp; omega, hd, _, rfl, rfl⟩
          · have := of_decide_eq_false hok
            exact .inr ⟨_, _, rfl, by simp; omega⟩
    | false =>
      rw [Bool.or_eq_false_iff] at hs
      obtain ⟨hs1, hs2⟩ := hs
      obtain ⟨body, hbody⟩ : ∃ body, E x.text = some body := by
        cases h : E x.text with
        | none => rw [h] at hs2; cases hs2
        | some v => exact ⟨v, rfl⟩
      obtain ⟨hm0, htf⟩ := unhide HBODY body hbody
      subst hm0
      have HTF := hide htf
      have HBT := hide (hE _ _ hbody)
      have hbl := hEl _ _ hbody
      have hR2 : R = if 2048 < d + 1 then none else expL (expT E tk.place tk.line fuel (x.text :: wi)) body (d + 1) := by
        rw [unhide HR]
        show (if _ then _ else _) = _
        rw [if_neg (by rw [hs1, hs2]; decide), hbody]
        rfl
      have HR2 := hide hR2
      have hst : (E x.text).isSome = true := by rw [hbody]; rfl
      rw [hs1] at l0
      have HS1 := hide hs1
      have HW3 := hide hw3
      clear hs2 hbody htf hR2 HR hs1 hw3
      have hxbs : w.heap.size ≤ xb := Nat.le_of_eq (unhide HXS).symm
      have hcnx : xb ≠ cn := fun e => by have := (unhide HCL).nn.lt; omega
      have hwmx : xb ≠ wm := fun e => by have := (unhide HCL).m.lt; omega
      have HCL3 := hide ((unhide HCL).ext (unhide X3))
      have HRD3 := hide ((unhide HRD).ext (unhide X3))
      have n0 := (unhide HCL3).nn.cell (i := 0) (v := .int .i64 (d : Int)) rfl
      have fn0 := fun i => (unhide HCL3).nn.free i
      have HCL4 := hide ((unhide HCL3).setN (d' := d + 1) (Nat.le_succ d))
      have HRD4 := hide ((unhide HRD3).other (grownBy_set w3 cn 0 (.int .i64 ((d + 1 : Nat) : Int))) (unhide HCL).tT.1 (unhide HCL).ne.2.1 (unhide HCL).ne.2.2.1 (unhide HCL).ne.2.2.2.2.2.1 (unhide HCL).ne.2.2.2.2.2.2.2.1)
      have ecast : ((d + 1 : Nat) : Int) = (d : Int) + 1 := by push_cast; rfl
      rw [ecast] at HCL4 HRD4
      have fn1 : ∀ i, (w2.alloc (.cells #[] 83)).frozen? ⟨cn, i, none⟩ = false := by rw [← unhide HW3]; exact fn0
      rw [unhide HW3] at n0
      clear ecast fn0
      by_cases hd1 : d = 2048
      · have hq : R = none := by rw [unhide HR2, if_pos (by omega)]
        subst hq
        have dd : decide ((2048 : Int) < (d : Int) + 1) = true := by simp; omega
        have HD1 := hide hd1
        clear hd1
        go_wp2
        rw [← unhide HW3]
        have hd1 := unhide HD1
        refine ⟨_, results_tmp rfl _ _ _, ?_⟩
        exact ⟨false, T, to, tc, tl, d + 1, nw, rfl, Wid.refl _ _, (unhide HRD4).1, unhide HCL4, (Out.of_ext (unhide X3)).trans (unhide HRD4).2 (fun b hb => .inl hb), by omega, by omega, by omega, (fun e => by cases e), fun _ => .inl rfl⟩
      have dd : decide ((2048 : Int) < (d : Int) + 1) = false := by simp; omega
      have HR3 : Hid (R = expL (expT E tk.place tk.line fuel (x.text :: wi)) body (d + 1)) := by
        show R = _
        rw [unhide HR2, if_neg (by omega)]
      obtain ⟨w4, hw4⟩ : ∃ w4, w4 = w3.setCell ⟨cn, 0, none⟩ (.int .i64 ((d : Int) + 1)) := ⟨_, rfl⟩
      have HXB4 : Hid (Blk w4 xb #[.int .i64 x.kind, .string ⟨x.text.toArray⟩, .int .i32 x.num, .int .i64 x.place, .int .i64 x.line] 33) := by rw [hw4]; exact (unhide HXB3).other 0 _ hcnx
      rw [← hw4] at HCL4 HRD4
      obtain ⟨w5, hput, hf5, hg5⟩ := (unhide HCL4).m.put (t := 81) (e := 83) Tryd.underlying81 (by have := (unhide HCL).le; unfold maxLen; omega) x.text hxl (.agg #[])
      have HCL5 := hide ((unhide HCL4).inW (wi' := x.text :: wi) hg5 (hf5.congr (fun k => inW_put wi x.text k)) (by have := (unhide HCL).le; omega))
      have HRD5 := hide ((unhide HRD4).1.other hg5 (unhide HCL).tT.2 (unhide HCL).ne.2.2.2.1 (unhide HCL).ne.2.2.2.2.1 (unhide HCL).ne.2.2.2.2.2.2.1 (unhide HCL).ne.2.2.2.2.2.2.2.2)
      have HXB5 := hide ((unhide HXB4).grown hg5 hwmx)
      have HO5 : Hid (Out T w w5) := ((Out.of_ext (unhide X3)).trans (unhide HRD4).2 (fun b hb => .inl hb)).trans (unhide HRD5).2 (fun b hb => .inl hb)
      have HTF5 := hide ((unhide HTF).out (unhide HO5))
      have v4 := (unhide HCL4).wv.cell (i := 0) (v := .map (some wm)) rfl
      have n4 := (unhide HCL4).nn.cell (i := 0) (v := .int .i64 ((d : Int) + 1)) (by simp)
      have x4 := (unhide HXB4).cell (i := 1) (v := .string ⟨x.text.toArray⟩) rfl
      have v5 := (unhide HCL5).wv.cell (i := 0) (v := .map (some wm)) rfl
      have x5 := (unhide HXB5).cell (i := 1) (v := .string ⟨x.text.toArray⟩) rfl
      rw [hw4] at v4 n4 x4 hput
      rw [unhide HW3] at v4 n4 x4 hput
      clear hw4 hg5 hf5
      go_wp2
      have HLE : Hid (w.heap.size ≤ w5.heap.size) := (unhide HO5).size
      clear v4 n4 x4 v5 x5 hput n0 fn1 l0 r0 x1 HW3 HXB4 HXB3 HXB2 X2 X3 hsz HCL4 HRD4 HCL3 HRD3 hst HTF HLK HBODY hcnx hwmx HR2
      have ef := eTell
      go_loopw [71] (fun jv wr => ∃ (j : Nat) (T1 : Nat → Prop) (to1 : Option Addr) (tc1 : Nat) (tl1 ys : List Tok) (d1 nw1 : Nat), j ≤ body.length ∧ jv = .int .i64 (j : Int) ∧ Wid T T1 w5 ∧ RD wr T1 base rb mb n po pc to1 tc1 E ps tl1 ∧ CL wr T1 rb mb cr cw ct cn ca wm (.slice po ps.length pc) (.slice to1 tl1.length tc1) tk d1 nw1 (x.text :: wi) ∧ Out T w5 wr ∧ d + 1 ≤ d1 ∧ d1 ≤ 2048 ∧ tl1.length ≤ 2048 ∧ expL (expT E tk.place tk.line fuel (x.text :: wi)) (body.take j) (d + 1) = some (ys, d1) ∧ tl1 = tl ++ ys) (fun jv _ => body.length - (intOf jv).toNat)
      case atStart => exact ⟨0, T, to, tc, tl, [], d + 1, nw + 1, by omega, rfl, Wid.refl _ _, (unhide HRD5).1, unhide HCL5, Out.refl _ _, Nat.le_refl _, by omega, htl, rfl, by simp⟩
      case round =>
        obtain ⟨j, T1, to1, tc1, tl1, ys, d1, nw1, hj, rfl, hwid, hrd1, hcl1, hout1, hd1a, hd1b, htl1, hexp, htl1e⟩ := hrel
        have HWID := hide hwid
        have HRD1 := hide hrd1
        have HCL1 := hide hcl1
        have HOUT1 := hide hout1
        have HEXP := hide hexp
        have HTLE := hide htl1e
        clear hwid hrd1 hcl1 hout1 hexp htl1e
        have HFIN : Hid (∀ (ok : Bool) (w9 : World) (T9 : Nat → Prop) (to9 : Option Addr) (tc9 : Nat) (tl9 : List Tok) (d9 nw9 : Nat), Wid T T9 w5 → RD w9 T9 base rb mb n po pc to9 tc9 E ps tl9 → CL w9 T9 rb mb cr cw ct cn ca wm (.slice po ps.length pc) (.slice to9 tl9.length tc9) tk d9 nw9 (x.text :: wi) → Out T w5 w9 → d ≤ d9 → d9 ≤ 2049 → tl9.length ≤ 2049 → (ok = true → tl9.length ≤ 2048 ∧ d9 ≤ 2048 ∧ ∃ xs, R = some (xs, d9) ∧ tl9 = tl ++ xs) → (ok = false → R = none ∨ ∃ xs d2, R = some (xs, d2) ∧ 2048 < tl.length + xs.length) →
            ∃ w10, (Builtin.delete_ #[81, 9] 0 #[.map (some wm), .string ⟨x.text.toArray⟩]).run Tryd.prog w9 = .ok (.tuple #[]) w10 ∧ ToldQ w T base rb mb n po pc E ps tl cr cw ct cn ca wm tk wi d R (.returned (.bool ok)) w10) := fun ok w9 T9 to9 tc9 tl9 d9 nw9 h1 h2 h3 h4 h5 h6 h7 h8 h9 => by
          obtain ⟨w10, hrun, hf, hg⟩ := h3.m.del (t := 81) (e := 83) Tryd.underlying81 x.text hxl 0
          have hc := h3.inW (wi' := wi) hg (hf.congr (fun k => inW_del (unhide HS1) k)) h3.le
          have hr := h2.other hg h3.tT.2 h3.ne.2.2.2.1 h3.ne.2.2.2.2.1 h3.ne.2.2.2.2.2.2.1 h3.ne.2.2.2.2.2.2.2.2
          refine ⟨w10, hrun, ok, T9, to9, tc9, tl9, d9, nw9, rfl, h1.low (unhide HLE), hr.1, hc, ?_, h5, h6, h7, h8, h9⟩
          refine ((unhide HO5).trans h4 (fun b hb => .inl hb)).trans hr.2 (fun b hb => ?_)
          rcases (h1 b).2 hb with e | e
          · exact .inl e
          · exact .inr (Nat.le_trans (unhide HLE) e)
        by_cases hlt : j < body.length
        · have HTF1 := hide ((unhide HTF5).step (unhide HOUT1) (unhide HWID))
          obtain ⟨b, off, rfl, c⟩ := (unhide HTF1).1.at j hlt
          have c0 := c.kind; have c1 := c.text; have c2 := c.num; have c3 := c.place; have c4 := c.line
          clear c
          have hbt := unhide HBT body[j] (List.getElem_mem hlt)
          obtain ⟨y, hy⟩ : ∃ y, y = body[j] := ⟨_, rfl⟩
          rw [← hy] at c0 c1 c2 c3 c4 hbt
          have HY := hide hy
          clear hy
          obtain ⟨wA, hwA⟩ : ∃ wA, wA = wr.alloc (.cells #[.int .i64 y.kind, .string ⟨y.text.toArray⟩, .int .i32 y.num, .int .i64 y.place, .int .i64 y.line] 33) := ⟨_, rfl⟩
          have XA : Hid (Ext wr wA) := by rw [hwA]; exact (Ext.refl wr).alloc _
          have a0 := ((unhide HCL1).ext (unhide XA)).a.cell (i := 0) (v := .func (.func 53) #[] #[.pointer (some ⟨cr, 0, none⟩), .pointer (some ⟨cw, 0, none⟩), .pointer (some ⟨ct, 0, none⟩), .pointer (some ⟨cn, 0, none⟩), .pointer (some ⟨ca, 0, none⟩)]) rfl
          rw [hwA] at a0
          have HCALL := hide (unhide IH (x.text :: wi) y d1 nw1 wA T1 to1 tc1 tl1 ((unhide HRD1).ext (unhide XA)) ((unhide HCL1).ext (unhide XA)) (by omega) hd1b htl1 hbt)
          have HWA := hide hwA
          clear hwA
          go_wp2_with fail
          rw [← unhide HWA]
          refine (unhide HCALL).mono ?_
          rintro e w7 ⟨ok, T7, to7, tc7, tl7, d7, nw7, rfl, hw7, hrd7, hcl7, ho7, hd7a, hd7b, htl7, hok, hno⟩
          have HW7 : Hid (Wid T T7 w5) := (unhide HWID).trans hw7 (Nat.le_trans (unhide HOUT1).size (unhide XA).size)
          have HO7 : Hid (Out T w5 w7) := ((unhide HOUT1).trans (Out.of_ext (T := T) (unhide XA)) (fun b hb => .inl hb)).trans ho7 (fun b hb => (unhide HWID b).2 hb)
          have HRD7 := hide hrd7
          have HCL7 := hide hcl7
          have HOK := hide hok
          have HNO := hide hno
          clear hw7 ho7 hrd7 hcl7 hok hno HCALL HWA a0 c0 c1 c2 c3 c4
          cases ok with
          | true =>
            obtain ⟨hl7, hd7, xs, hxs, htle⟩ := unhide HOK rfl
            have HXS7 := hide hxs
            have HTL7 := hide htle
            clear hxs htle HOK HNO HFIN
            go_wp2
            refine ⟨⟨j + 1, T7, to7, tc7, tl7, ys ++ xs, d7, nw7, by omega, by push_cast; rfl, unhide HW7, unhide HRD7, unhide HCL7, unhide HO7, by omega, hd7, hl7, expL_take hlt (unhide HEXP) (by rw [← unhide HY]; exact unhide HXS7), by rw [unhide HTL7, unhide HTLE, List.append_assoc]⟩, ?_⟩
            simp [intOf]
            omega
          | false =>
            have hbad : R = none ∨ ∃ xs d2, R = some (xs, d2) ∧ 2048 < tl.length + xs.length := by
              rw [unhide HR3]
              refine expL_bad (n := tl.length) hlt (unhide HEXP) ?_
              have h1 := unhide HNO rfl
              rw [unhide HTLE, List.length_append, unhide HY] at h1
              exact h1
            obtain ⟨w10, hdel, hq⟩ := unhide HFIN false w7 T7 to7 tc7 tl7 d7 nw7 (unhide HW7) (unhide HRD7) (unhide HCL7) (unhide HO7) (by omega) hd7b htl7 (fun e => by cases e) (fun _ => hbad)
            have HDEL := hide hdel
            have HQQ := hide hq
            clear hdel hq HOK HNO HFIN hbad
            go_wp2
            refine ⟨_, _, _, _, _, w10, rfl, invoke_del (unhide HDEL), _, results_tmp rfl _ _ _, ?_⟩
            exact unhide HQQ
        · have hje : body.take j = body := List.take_of_length_le (by omega)
          have hRR : R = some (ys, d1) := by
            have h1 := unhide HEXP
            rw [hje] at h1
            rw [unhide HR3, h1]
          obtain ⟨w10, hdel, hq⟩ := unhide HFIN true wr T1 to1 tc1 tl1 d1 nw1 (unhide HWID) (unhide HRD1) (unhide HCL1) (unhide HOUT1) (by omega) (by omega) (by omega) (fun _ => ⟨htl1, hd1b, ys, hRR, unhide HTLE⟩) (fun e => by cases e)
          have HDEL := hide hdel
          have HQQ := hide hq
          clear hdel hq HFIN hRR hje
          go_wp2
          refine ⟨_, _, _, _, _, w10, rfl, invoke_del (unhide HDEL), _, results_tmp rfl _ _ _, ?_⟩
          exact unhide HQQ
end Go.Proofs.YtdcamcpffiilbaaDoor
