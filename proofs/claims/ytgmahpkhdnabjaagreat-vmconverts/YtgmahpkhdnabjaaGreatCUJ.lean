/- Several texts in one. -/
import Derived.Test.YtgmahpkhdnabjaaGreatCHJ
import Derived.Test.YtgmahpkhdnabjaaGreatCLJ
import Derived.Test.YtgmahpkhdnabjaaGreatVRx
import Derived.Great.BuildSlice
import Derived.Test.YtgmahpkhdnabjaaGreatVMAJ
/-
  Codes: rows of instructions that are the call's own; whole values moved within a fence.
-/
namespace Go.Proofs.YtgmahpkhdnabjaaGreat
open Go.RowKit
set_option linter.unusedVariables false
set_option linter.unusedSimpArgs false

def icells (L : List (Nat → Int)) : List Value := L.flatMap (fun I => (insA I).toList)
theorem icells_len (L : List (Nat → Int)) : (icells L).length = L.length * 16 := by
  induction L with
  | nil => rfl
  | cons x r ih =>
    unfold icells at ih ⊢
    rw [List.flatMap_cons, List.length_append, ih]
    simp [insA]
    omega
theorem icells_append (A B : List (Nat → Int)) : icells (A ++ B) = icells A ++ icells B := by
  unfold icells
  rw [List.flatMap_append]
theorem icells_one (x : Nat → Int) : icells [x] = (insA x).toList := by simp [icells]
theorem icells_get : ∀ (L : List (Nat → Int)) (i : Nat) (h : i < L.length) (j : Nat), j < 16 → (icells L)[i * 16 + j]? = (insA L[i]).toList[j]?
  | x :: r, 0, _, j, hj => by
    have e : icells (x :: r) = (insA x).toList ++ icells r := rfl
    rw [e, List.getElem?_append_left (by simp [insA]; omega)]
    simp
  | x :: r, i + 1, h, j, hj => by
    have ih := icells_get r i (by simpa using h) j hj
    have e : icells (x :: r) = (insA x).toList ++ icells r := rfl
    have el : (insA x).toList.length = 16 := rfl
    rw [e, List.getElem?_append_right (by omega), el, show (i + 1) * 16 + j - 16 = i * 16 + j by omega]
    simpa using ih
theorem icells_ones (L : List (Nat → Int)) : ∀ u ∈ icells L, u.oneCell' = true := by
  intro u hu
  unfold icells at hu
  obtain ⟨I, _, h⟩ := List.mem_flatMap.1 hu
  simp [insA] at h
  rcases h with rfl | rfl | rfl | rfl | rfl | rfl | rfl | rfl | rfl | rfl | rfl | rfl | rfl | rfl | rfl | rfl <;> rfl

/-- The slice value v is the call's own and holds the instructions L. -/
def OI (w : World) (base : Nat) (v : Value) (L : List (Nat → Int)) : Prop := w.ownsRow base 64 16 v L.length (icells L)
section
variable {w w' : World} {base : Nat} {v : Value} {L : List (Nat → Int)}
theorem OI.ir (h : OI w base v L) : IR w v L := by
  have h0 := h
  rcases h.2 with ⟨e, h0⟩ | ⟨g, cap, cur, e, hb, hg, hnc, hcm, hcs, htake⟩
  · refine ⟨none, 0, by rw [h0]; exact e, fun _ => rfl, by omega, Nat.zero_le _, fun i hi => by omega⟩
  · refine ⟨_, cap, e, (fun h => by cases h), hnc, hcm, fun i hi => ⟨g, 0, rfl, ?_⟩⟩
    have hc := World.ownsRow.cells h0 (g := g) (by rw [e]; rfl)
    intro j u hu
    have hj : j < 16 := by have := (List.getElem?_eq_some_iff.1 hu).1; simpa [insA] using this
    have := hc (i * 16 + j) u (by rw [icells_get L i hi j hj]; exact hu)
    rw [Addr.add_lit] at this
    rw [Nat.add_assoc]
    exact this
theorem OI.nil (w : World) (base : Nat) : OI w base (.slice none 0 0) [] := World.ownsRow_nil _ _ _ _
theorem OI.ext (h : OI w base v L) (hx : Ext w w') : OI w' base v L := by
  refine World.ownsRow.kept h (extG hx none) ?_
  cases v.ownBlock <;> simp
theorem OI.kept9 {r : Nat} (h : OI w base v L) (hg : w.grownBy w' (some r)) (hne : v.ownBlock ≠ some r) : OI w' base v L := by
  refine World.ownsRow.kept h hg ?_
  cases hv : v.ownBlock with
  | none => exact .inl rfl
  | some b => exact .inr (fun e => hne (by rw [hv, e]))
theorem OI.lt (h : OI w base v L) : ∀ g, v.ownBlock = some g → base ≤ g ∧ g < w.heap.size := World.ownsRow.lt h
theorem OI.low {b2 : Nat} (h : OI w base v L) (hb : b2 ≤ base) : OI w b2 v L := by
  refine ⟨h.1, ?_⟩
  rcases h.2 with hn | ⟨g, cap, cur, e, h1, r⟩
  · exact .inl hn
  · exact .inr ⟨g, cap, cur, e, by omega, r⟩
theorem OI.shape (h : OI w base v L) : ∃ ao cap, v = .slice ao L.length cap ∧ (ao = none → cap = 0) ∧ L.length ≤ cap ∧ cap ≤ maxLen := by
  obtain ⟨ao, cap, e, h1, h2, h3, _⟩ := h.ir
  exact ⟨ao, cap, e, h1, h2, h3⟩
theorem OI.neB {G : Nat} {t : TypeId} {cs : Array Value} (h : OI w base v L) (hB : Blk w G cs t) (hne : t ≠ 64) : v.ownBlock ≠ some G := by
  intro hv
  rcases h.2 with ⟨rfl, _⟩ | ⟨g, cap, cur, rfl, _, hg, _⟩
  · cases hv
  · cases hv
    rw [show w.heap[g]? = some (.cells cs t (0, 0)) from hB] at hg
    cases hg
    exact hne rfl
theorem OI.cells (h : OI w base v L) : ∀ (j : Nat) (o : Obj), v.ownBlock = some j → w.heap[j]? = some o → o.isCells = true := by
  intro j o hj ho
  rcases h.2 with ⟨rfl, _⟩ | ⟨g, cap, cur, rfl, _, hg, _⟩
  · cases hj
  · cases hj
    rw [hg] at ho
    cases ho
    rfl
theorem OI.keptC {row : Option Nat} (h : OI w base v L) (hg : w.grownBy w' row) (hr : ∀ r, row = some r → ∃ o : Obj, w.heap[r]? = some o ∧ o.isCells = false) : OI w' base v L := by
  refine World.ownsRow.kept h hg ?_
  rcases h.2 with ⟨rfl, _⟩ | ⟨g, cap, cur, rfl, _, hgg, _⟩
  · exact .inl rfl
  · refine .inr (fun e => ?_)
    obtain ⟨o, ho, hc⟩ := hr g e.symm
    rw [hgg] at ho
    cases ho
    cases hc
end
theorem infoI : (Tryz.prog.info? 64).map (fun i => (i.zero, i.size, i.bytes)) = some (some (.agg (insA zI)), 16, 112) := by kernel_rfl
theorem info_all {P : Program} {t : TypeId} {z : Value} {n b : Nat} (h : (P.info? t).map (fun i => (i.zero, i.size, i.bytes)) = some (some z, n, b)) : ∃ i, P.info? t = some i ∧ i.zero = some z ∧ i.size = n ∧ i.bytes = b := by
  cases hi : P.info? t with
  | none => rw [hi] at h; cases h
  | some i =>
    rw [hi] at h
    simp only [Option.map_some, Option.some.injEq, Prod.mk.injEq] at h
    exact ⟨i, rfl, h.1, h.2.1, h.2.2⟩

section
variable {F : Fence} {n : Nat} {P : Program} {w : World} {ops : Array Oper} {rest : List Oper} {o : Oper} {a : Act} {Q : Exit → Act → World → Prop}
theorem wpListIn_load_rowC (hgd : o.guard = none) (ty : TypeId) (x : Operand) (ho : o.op = .load ty x)
    (g : Nat) (hx : a.eval x = .pointer (some ⟨g, 0, none⟩)) (t : TypeId) (cs : Array Value) (fr : Nat × Nat) (d : TypeDesc) (hg : w.heap[g]? = some (.cells cs t fr))
    (hu : P.underlying ty = some d) (hd : (match d with | .struct _ | .array _ _ => true | _ => false) = true) (hi : (P.info? ty).map (·.size) = some cs.size)
    (h : wpListIn F n P ops Q rest (a.put o.dst (.agg cs)) w) : wpListIn F n P ops Q (o :: rest) a w := by
  refine wpListIn_plain hgd fun K hK => ?_
  unfold Oper.wpIn
  refine ⟨by simp [Oper.about, ho], ?_⟩
  rw [Oper.semAt_plain F _ _ (by rw [ho]; intro c hc'; cases hc')]
  unfold execOp
  simp only [ho, hx, Instr.loadAt, Instr.sureAddr, Sem.run_bind, Sem.run_pure, Result.andThen_ok, run_loadVar_row w g t ty cs fr d hg hu hd hi]
  exact hK _ _ h
theorem wpListIn_storeLastC (hgd : o.guard = none) (ty : TypeId) (x y : Operand) (ho : o.op = .store ty x y) (old : Array Value) (g : Nat) (hgg : w.heap.size = g) (hx : a.eval x = .pointer (some ⟨g, 0, none⟩)) (cells : Array Value) (hy : a.eval y = .agg cells)
    (m : Nat) (hi : (P.info? ty).map (·.size) = some m) (hn : cells.size = m) (hold : old.size = m) (h1 : cells.all (·.oneCell') = true) (h : wpListIn F n P ops Q rest (a.put o.dst undef) (w.alloc (.cells cells ty))) :
    wpListIn F n P ops Q (o :: rest) a (w.alloc (.cells old ty)) := by
  subst hgg
  refine wpListIn_plain hgd fun K hK => ?_
  unfold Oper.wpIn
  refine ⟨by simp [Oper.about, ho], ?_⟩
  rw [Oper.semAt_plain F _ _ (by rw [ho]; intro c hc'; cases hc')]
  unfold execOp
  simp only [ho, hx, hy, Instr.storeAt, Instr.sureAddr, Sem.run_bind, Sem.run_pure, Result.andThen_ok, run_storeVar_row (w.alloc (.cells old ty)) w.heap.size ty ty old cells (heap_alloc_last w _) (by rw [hi, hn]) (by omega) h1]
  rw [World.setRow_alloc_new]
  exact hK _ _ h
theorem wpListIn_buildSliceC (hgd : o.guard = none) (t e : TypeId) (len : Nat) (parts : Array (Nat × Operand)) (ho : o.op = .buildSlice t len parts)
    (cells : Array Value) (ie : TypeInfo) (z : Value) (hu : P.underlying t = some (.slice e)) (hie : P.info? e = some ie) (hz : ie.zero = some z) (hsmall : ¬ len * ie.size > 2 ^ 24) (hpos : ¬ len * ie.size = 0)
    (hf : Instr.fill (fun i => some (i * ie.size, ie.size)) ((Array.range (len * ie.size)).map (z.cells[· % z.cells.size]!)) (parts.map fun (i, x) => (i, a.eval x)).toList = some cells)
    (h : wpListIn F n P ops Q rest (a.put o.dst (.slice (some ⟨w.heap.size, 0, none⟩) len len)) (w.alloc (.cells cells e))) : wpListIn F n P ops Q (o :: rest) a w := by
  refine wpListIn_plain hgd fun K hK => ?_
  unfold Oper.wpIn
  refine ⟨by simp [Oper.about, ho], ?_⟩
  rw [Oper.semAt_plain F _ _ (by rw [ho]; intro c hc'; cases hc')]
  unfold execOp
  simp only [ho, Sem.run_bind, run_buildSlice w t e len _ cells ie z hu hie hz hsmall hpos hf, Result.andThen_ok]
  exact hK _ _ h
end
end Go.Proofs.YtgmahpkhdnabjaaGreat

/-
  The machine of registers: that the layer does anything (wakes).
-/
namespace Go.Proofs.YtgmahpkhdnabjaaGreat
open Go.RowKit
set_option linter.unusedVariables false
set_option linter.unusedSimpArgs false

theorem IR.blockV (w : World) (L : List (Nat → Int)) (hm : L.length ≤ 1000) (hne : L ≠ []) : IR (w.alloc (.cells (icells L).toArray 64)) (.slice (some ⟨w.heap.size, 0, none⟩) L.length L.length) L := by
  refine ⟨_, _, rfl, (fun h => by cases h), Nat.le_refl _, by unfold maxLen; omega, fun i hi => ⟨w.heap.size, 0, rfl, ?_⟩⟩
  intro j u hu
  have hj : j < 16 := by have := (List.getElem?_eq_some_iff.1 hu).1; simpa [insA] using this
  rw [Nat.zero_add]
  refine (Blk.new w _ _).cell ?_
  have := icells_get L i hi j hj
  rw [hu] at this
  simpa using this
def wV1 : Nat → Int := fun k => if k = 0 then 1 else if k = 8 then 1 else if k = 9 then 2 else if k = 10 then 3 else if k = 11 then 4 else 0
def wV2 : Nat → Int := fun k => if k = 0 then 6 else if k = 3 then 4 else if k = 4 then 1 else if k = 12 then 3 else if k = 13 then 2 else if k = 14 then 1 else 0
def wV3 : Nat → Int := fun k => if k = 0 then 4 else if k = 1 then 4 else if k = 6 then 1 else 0
def wVC : Cod := ⟨2, 2, 0, 0, 0, [wV1, wV2, wV3]⟩
def wVE : EnvC := ⟨.slice none 0 0, .slice none 0 0, .slice none 0 0, nul, false, nul, .slice none 0 0⟩
def wVS : Sur := ⟨[], [], [], nul, false, nul⟩
theorem nul_i32 (i : Nat) : I32 (nul i) := by unfold nul I32; omega
theorem reg_nil (x : Int) (i : Nat) : I32 (reg [] x i) := nul_i32 i
theorem wV32 : Sur32 wVS := ⟨reg_nil, reg_nil, reg_nil, nul_i32, nul_i32⟩
theorem wVok : ∀ I ∈ wVC.ins, OkI I := by
  intro I hI
  have hI' : I = wV1 ∨ I = wV2 ∨ I = wV3 := by simpa [wVC] using hI
  rcases hI' with rfl | rfl | rfl
  · refine ⟨fun k hk => ?_, fun k hk => ?_, fun k hk => ?_⟩ <;> unfold wV1 <;> (repeat' split) <;> omega
  · refine ⟨fun k hk => ?_, fun k hk => ?_, fun k hk => ?_⟩ <;> unfold wV2 <;> (repeat' split) <;> omega
  · refine ⟨fun k hk => ?_, fun k hk => ?_, fun k hk => ?_⟩ <;> unfold wV3 <;> (repeat' split) <;> omega
theorem wVref : refI wVC 0 0 0 = 0 := by kernel_rfl
theorem wVcl : (runP wVC wVS []).1.cl 0 = 4 ∧ (runP wVC wVS []).1.cl 1 = 3 ∧ (runP wVC wVS []).1.cl 2 = 2 ∧ (runP wVC wVS []).1.cl 3 = 1 := ⟨by kernel_rfl, by kernel_rfl, by kernel_rfl, by kernel_rfl⟩
def fst2 (x : Int) : Nat → Int := fun i => if i = 0 then x else 0
theorem wVdo : doV 27 2 1 (fst2 7) (fst2 2) nul 0 = 3 ∧ doV 27 2 1 (fst2 7) (fst2 2) nul 1 = 0 ∧ doV 27 2 1 (fst2 7) (fst2 2) nul 2 = 0 ∧ doV 27 2 1 (fst2 7) (fst2 2) nul 3 = 0 ∧ doE 27 2 1 = 0 := ⟨by kernel_rfl, by kernel_rfl, by kernel_rfl, by kernel_rfl, by kernel_rfl⟩
theorem fst2_i32 {x : Int} (h : I32 x) (i : Nat) : I32 (fst2 x i) := by
  unfold fst2
  split
  · exact h
  · unfold I32; omega
theorem nil_sur (w : World) : SurAt w wVE wVS := ⟨.inl ⟨rfl, none, 0, rfl⟩, .inl ⟨rfl, none, 0, rfl⟩, .inl ⟨rfl, none, 0, rfl⟩, rfl, rfl, rfl⟩
theorem nil_gr (w : World) : GR w (.slice none 0 0) [] := ⟨none, 0, rfl, fun i hi => by simp at hi⟩

theorem wVrun (w1 : World) (v : Value) (h : IR w1 v wVC.ins) : Calls Tryz.prog 12 #[.agg #[.int .i64 (wVC).stage, v, .int .i64 (wVC).regs, .int .i64 (wVC).attr, .int .i64 (wVC).unif, .int .i64 (wVC).vary], .agg (envA wVE)] w1 fun e w' => ∃ (p0 p1 p2 p3 z : Int) (ao : Option Addr) (n cap : Nat) (d : Bool), e = .returned (.tuple #[.agg #[.int .i32 p0, .int .i32 p1, .int .i32 p2, .int .i32 p3, .int .i32 z, .slice ao n cap, .int .i32 4, .int .i32 3, .int .i32 2, .int .i32 1, .bool d], .int .i64 0]) ∧ Ext w1 w' := by
  refine (runV_any wVC v wVE wVS [] w1 h wVok (nil_sur _) (nil_gr _) wV32).mono ?_
  rintro e w2 (⟨h1, _⟩ | ⟨_, vy, rfl, hov, hx⟩)
  · exact absurd wVref h1
  · obtain ⟨ao, cap, rfl, _⟩ := GO.shape hov
    obtain ⟨c0, c1, c2, c3⟩ := wVcl
    refine ⟨(runP wVC wVS []).1.po 0, (runP wVC wVS []).1.po 1, (runP wVC wVS []).1.po 2, (runP wVC wVS []).1.po 3, (runP wVC wVS []).1.sz, ao, (runP wVC wVS []).1.V.length, cap, (runP wVC wVS []).1.dc, ?_, hx⟩
    simp only [outA, c0, c1, c2, c3]

set_option maxRecDepth 10000 in
set_option maxHeartbeats 4000000 in
theorem wakes18_any (w : World) : Calls Tryz.prog 9 #[] w fun e w' => e = .returned (.bool true) ∧ Ext w w' := by
  obtain ⟨i16, hi16, hz16, hs16, hb16⟩ := info_all infoI
  have hIR : IR (w.alloc (.cells (icells wVC.ins).toArray 64)) (.slice (some ⟨w.heap.size, 0, none⟩) 3 3) wVC.ins := IR.blockV w wVC.ins (by decide) (by decide)
  have HB : Hid (Blk ((w.alloc (.cells (icells wVC.ins).toArray 64)).alloc (.cells #[.int .i64 (wVC).stage, .slice (some ⟨w.heap.size, 0, none⟩) 3 3, .int .i64 (wVC).regs, .int .i64 (wVC).attr, .int .i64 (wVC).unif, .int .i64 (wVC).vary] 24)) (w.heap.size + 1) #[.int .i64 (wVC).stage, .slice (some ⟨w.heap.size, 0, none⟩) 3 3, .int .i64 (wVC).regs, .int .i64 (wVC).attr, .int .i64 (wVC).unif, .int .i64 (wVC).vary] 24) := Blk.here (by simp)
  have HX : Hid (Ext w ((w.alloc (.cells (icells wVC.ins).toArray 64)).alloc (.cells #[.int .i64 (wVC).stage, .slice (some ⟨w.heap.size, 0, none⟩) 3 3, .int .i64 (wVC).regs, .int .i64 (wVC).attr, .int .i64 (wVC).unif, .int .i64 (wVC).vary] 24))) := ((Ext.refl w).alloc _).alloc _
  have HIX : Hid (IR ((w.alloc (.cells (icells wVC.ins).toArray 64)).alloc (.cells #[.int .i64 (wVC).stage, .slice (some ⟨w.heap.size, 0, none⟩) 3 3, .int .i64 (wVC).regs, .int .i64 (wVC).attr, .int .i64 (wVC).unif, .int .i64 (wVC).vary] 24)) (.slice (some ⟨w.heap.size, 0, none⟩) 3 3) wVC.ins) := hIR.ext ((Ext.refl _).alloc _)
  clear hIR
  have hE := eqV
  go_enter Tryz.func9, Tryz.ntmps9
  go_upto_region 2 with (first
    | refine wpList_buildTo rfl 64 _ rfl (some 7) rfl (insA wV1) (by kernel_rfl) ?_
    | refine wpList_buildTo rfl 64 _ rfl (some 9) rfl (insA wV2) (by kernel_rfl) ?_
    | refine wpList_buildTo rfl 64 _ rfl (some 10) rfl (insA wV3) (by kernel_rfl) ?_
    | refine Go.wpList_buildSlice rfl 22 64 3 _ rfl (icells wVC.ins).toArray i16 (.agg (insA zI)) Tryz.underlying22 hi16 hz16 (by rw [hs16]; decide) (by rw [hs16]; decide) (by rw [hs16]; kernel_rfl) ?_
    | refine wpList_buildTo rfl 24 _ rfl (some 12) rfl #[.int .i64 (wVC).stage, .slice (some ⟨w.heap.size, 0, none⟩) 3 3, .int .i64 (wVC).regs, .int .i64 (wVC).attr, .int .i64 (wVC).unif, .int .i64 (wVC).vary] (by kernel_rfl) ?_
    | refine wpList_storeLast rfl 24 (.tmp 1) (.tmp 12) rfl _ (w.heap.size + 1) (by simp) rfl #[.int .i64 (wVC).stage, .slice (some ⟨w.heap.size, 0, none⟩) 3 3, .int .i64 (wVC).regs, .int .i64 (wVC).attr, .int .i64 (wVC).unif, .int .i64 (wVC).vary] rfl 6 size6 rfl rfl (by simp [Value.oneCell']) ?_)
  generalize ((w.alloc (.cells (icells wVC.ins).toArray 64)).alloc (.cells #[.int .i64 (wVC).stage, .slice (some ⟨w.heap.size, 0, none⟩) 3 3, .int .i64 (wVC).regs, .int .i64 (wVC).attr, .int .i64 (wVC).unif, .int .i64 (wVC).vary] 24)) = w1 at HB HX HIX ⊢
  have HRUN := hide (wVrun w1 (.slice (some ⟨w.heap.size, 0, none⟩) 3 3) (unhide HIX))
  go_upto_region 3 with (first
    | refine wpList_load_row rfl 24 (.tmp 1) rfl (w.heap.size + 1) rfl 24 #[.int .i64 (wVC).stage, .slice (some ⟨w.heap.size, 0, none⟩) 3 3, .int .i64 (wVC).regs, .int .i64 (wVC).attr, .int .i64 (wVC).unif, .int .i64 (wVC).vary] (0, 0) _ (unhide HB) Tryz.underlying24 rfl size6 ?_
    | refine wpList_buildTo rfl 31 _ rfl (some 15) rfl (envA wVE) (by kernel_rfl) ?_
    | (go_at_call 12; refine (unhide HRUN).mono ?_; rintro e w2 ⟨p0, p1, p2, p3, z, ao, n, cap, d, rfl, hx2⟩; have X2 := hide ((unhide HX).trans hx2); clear hx2)
    | refine wpList_storeLast rfl 36 (.tmp 2) (.tmp 17) rfl _ w2.heap.size (by simp) rfl #[.int .i32 p0, .int .i32 p1, .int .i32 p2, .int .i32 p3, .int .i32 z, .slice ao n cap, .int .i32 4, .int .i32 3, .int .i32 2, .int .i32 1, .bool d] rfl 11 sizeOut rfl rfl (by simp [Value.oneCell']) ?_)
  clear HRUN HB HIX
  have HR2 : Hid (Blk (w2.alloc (.cells #[.int .i32 p0, .int .i32 p1, .int .i32 p2, .int .i32 p3, .int .i32 z, .slice ao n cap, .int .i32 4, .int .i32 3, .int .i32 2, .int .i32 1, .bool d] 36)) w2.heap.size #[.int .i32 p0, .int .i32 p1, .int .i32 p2, .int .i32 p3, .int .i32 z, .slice ao n cap, .int .i32 4, .int .i32 3, .int .i32 2, .int .i32 1, .bool d] 36) := Blk.new _ _ _
  have X3 := hide ((unhide X2).alloc (.cells #[.int .i32 p0, .int .i32 p1, .int .i32 p2, .int .i32 p3, .int .i32 z, .slice ao n cap, .int .i32 4, .int .i32 3, .int .i32 2, .int .i32 1, .bool d] 36))
  obtain ⟨B, hB⟩ : ∃ B, w2.heap.size = B := ⟨_, rfl⟩
  rw [hB] at HR2
  rw [show Value.pointer (some ⟨w2.heap.size, 0, none⟩) = Value.pointer (some ⟨B, 0, none⟩) by rw [hB]]
  clear hB X2
  generalize w2.alloc (.cells #[.int .i32 p0, .int .i32 p1, .int .i32 p2, .int .i32 p3, .int .i32 z, .slice ao n cap, .int .i32 4, .int .i32 3, .int .i32 2, .int .i32 1, .bool d] 36) = w3 at HR2 X3 ⊢
  have HDO := hide (do_any 27 2 1 (fst2 7) (fst2 2) nul w3 (fst2_i32 (by unfold I32; omega)) (fst2_i32 (by unfold I32; omega)) nul_i32)
  rw [wVdo.1, wVdo.2.1, wVdo.2.2.1, wVdo.2.2.2.1, wVdo.2.2.2.2] at HDO
  go_upto_region 4 with (go_at_call 27; refine (unhide HDO).mono ?_; rintro e w4 ⟨rfl, hx4⟩; have X4 := hide hx4; clear hx4)
  have c6 := ((unhide HR2).ext (unhide X4)).cell (i := 6) (v := .int .i32 4) rfl
  have c7 := ((unhide HR2).ext (unhide X4)).cell (i := 7) (v := .int .i32 3) rfl
  have c8 := ((unhide HR2).ext (unhide X4)).cell (i := 8) (v := .int .i32 2) rfl
  have c9 := ((unhide HR2).ext (unhide X4)).cell (i := 9) (v := .int .i32 1) rfl
  have hBlt : B < w4.heap.size := ((unhide HR2).ext (unhide X4)).lt
  have hBne : ¬ B = w4.heap.size := by omega
  have X5 := hide ((unhide X3).trans (unhide X4))
  clear HDO HR2 X3 X4
  go_wp2
  go_ret
  exact ⟨rfl, (unhide X5).alloc _⟩
end Go.Proofs.YtgmahpkhdnabjaaGreat

/-
  The document's conversions; the law on conversions, walked.
-/
namespace Go.Proofs.YtgmahpkhdnabjaaGreat
open Go.RowKit
set_option linter.unusedVariables false
set_option linter.unusedSimpArgs false

def oneB (b : Bool) : Int := if b then 1 else 0
theorem refOne_any (b : Bool) (w : World) : Calls Tryz.prog 41 #[.bool b] w fun e w' => e = .returned (.int .i32 (oneB b)) ∧ w' = w := by
  cases b
  all_goals
    go_enter Tryz.func41, Tryz.ntmps41
    go_wp2
    go_ret
    exact ⟨rfl, rfl⟩
theorem oneB_ne (x : Int) : oneB (x != 0) = if x = 0 then 0 else 1 := by
  by_cases h : x = 0 <;> simp [oneB, h]
set_option maxHeartbeats 1000000 in
theorem refConvert_any (f t x : Int) (w : World) (h : I32 x) (hf : f = 1 ∨ f = 2 ∨ f = 3) (ht : t = 1 ∨ t = 2 ∨ t = 3) : Calls Tryz.prog 24 #[.int .i64 f, .int .i64 t, .int .i32 x] w fun e w' => e = .returned (.int .i32 (cvI f t x)) ∧ w' = w := by
  have hx0 : -2147483648 ≤ x := h.1
  have hx1 : x ≤ 2147483647 := h.2
  have V : Hid (cvI f t x = if f = t ∨ (f = 3 ∧ t = 2) then x else if t = 3 then (if x = 0 then 0 else 1) else if t = 2 then w32 (x.tdiv 65536) else if f = 2 then rawI (65536 * x) else if x = 0 then 0 else 65536) := rfl
  by_cases h1 : f = t
  · have E : Hid (cvI f t x = x) := by rw [Hid, unhide V, if_pos (.inl h1)]
    clear V
    subst h1
    go_enter Tryz.func24, Tryz.ntmps24
    go_wp2
    go_ret
    exact ⟨by rw [unhide E] <;> rfl, rfl⟩
  have d1 : (f == t) = false := by simp [h1]
  by_cases h2 : f = 3 ∧ t = 2
  · have E : Hid (cvI f t x = x) := by rw [Hid, unhide V, if_pos (.inr h2)]
    clear V
    obtain ⟨rfl, rfl⟩ := h2
    go_enter Tryz.func24, Tryz.ntmps24
    go_wp2
    go_ret
    exact ⟨by rw [unhide E] <;> rfl, rfl⟩
  by_cases h3 : t = 3
  · have E : Hid (cvI f t x = oneB (x != 0)) := by rw [Hid, unhide V, if_neg (by omega), if_pos h3, oneB_ne]
    clear V
    subst h3
    have d2 : (f == 3) = false := by simp [h1]
    go_enter Tryz.func24, Tryz.ntmps24
    go_wp2_with (go_at_call 41; refine (refOne_any _ _).mono ?_; rintro e w1 ⟨rfl, rfl⟩)
    go_ret
    exact ⟨by rw [unhide E] <;> rfl, rfl⟩
  have d3 : (t == 3) = false := by simp [h3]
  by_cases h4 : t = 2
  · have E : Hid (cvI f t x = w32 (x.tdiv 65536)) := by rw [Hid, unhide V, if_neg (by omega), if_neg h3, if_pos h4]
    clear V
    have d4 : (f == 3) = false := by simp; omega
    subst h4
    go_enter Tryz.func24, Tryz.ntmps24
    go_wp2
    go_ret
    exact ⟨by rw [unhide E]; simp [w32], rfl⟩
  have d4 : (t == 2) = false := by simp [h4]
  by_cases h5 : f = 3
  · have E : Hid (cvI f t x = wrap32 (65536 * oneB (x != 0))) := by
      rw [Hid, unhide V, if_neg (by omega), if_neg h3, if_neg h4, if_neg (by omega), oneB_ne]
      split <;> (unfold wrap32; omega)
    clear V
    subst h5
    go_enter Tryz.func24, Tryz.ntmps24
    go_wp2_with (go_at_call 41; refine (refOne_any _ _).mono ?_; rintro e w1 ⟨rfl, rfl⟩)
    go_ret
    exact ⟨by rw [unhide E] <;> first | rfl | simp, rfl⟩
  have d5 : (f == 3) = false := by simp [h5]
  have h6 : f = 2 := by omega
  have E : Hid (cvI f t x = rawI (65536 * x)) := by rw [Hid, unhide V, if_neg (by omega), if_neg h3, if_neg h4, if_pos h6]
  clear V
  subst h6
  have hx2 : I64 x := by unfold I64; omega
  have HX := hide hx2
  clear hx2
  go_enter Tryz.func24, Tryz.ntmps24
  go_wp2_with (go_at_call 42; refine (refOf_any x _ (unhide HX)).mono ?_; rintro e w1 ⟨rfl, rfl⟩)
  go_ret
  exact ⟨by rw [unhide E] <;> rfl, rfl⟩

theorem law1_any (x : Int) (w : World) : Calls Tryz.prog 23 #[.int .i64 x] w fun e w' => e = .returned (.bool (baseB x)) ∧ w' = w := by
  by_cases h1 : 1 ≤ x
  · by_cases h3 : x ≤ 3
    · have E : Hid (baseB x = true) := by
        rcases (by omega : x = 1 ∨ x = 2 ∨ x = 3) with rfl | rfl | rfl <;> rfl
      go_enter Tryz.func23, Tryz.ntmps23
      go_wp2
      go_ret
      exact ⟨by rw [unhide E] <;> rfl, rfl⟩
    · have E : Hid (baseB x = false) := by simp [Hid, baseB]; omega
      go_enter Tryz.func23, Tryz.ntmps23
      go_wp2
      go_ret
      exact ⟨by rw [unhide E] <;> rfl, rfl⟩
  · have E : Hid (baseB x = false) := by simp [Hid, baseB]; omega
    go_enter Tryz.func23, Tryz.ntmps23
    go_wp2
    go_ret
    exact ⟨by rw [unhide E] <;> rfl, rfl⟩
theorem law1_enters : ∀ args w, (callFunc 23 args).run Tryz.prog w = .ok (.enter 23 args) w := enters_of Tryz.func23 (by kernel_rfl) rfl
theorem base_in {x : Int} (h : baseB x = true) : x = 1 ∨ x = 2 ∨ x = 3 := by simpa [baseB] using h

set_option maxRecDepth 10000 in
set_option maxHeartbeats 4000000 in
theorem converts_any (f0 f1 f2 t0 t1 t2 : Int) (a : Nat → Int) (w : World) (Ia : ∀ i, I32 (a i)) :
    Calls Tryz.prog 5 #[.agg #[.int .i64 f0, .int .i64 f1, .int .i64 f2], .agg #[.int .i64 t0, .int .i64 t1, .int .i64 t2], .agg #[.int .i32 (a 0), .int .i32 (a 1), .int .i32 (a 2), .int .i32 (a 3)]] w fun e w' => e = .returned (.bool true) ∧ Ext w w' := by
  have hX : Ext w (((w.alloc (.cells #[.int .i64 f0, .int .i64 f1, .int .i64 f2] 52)).alloc (.cells #[.int .i64 t0, .int .i64 t1, .int .i64 t2] 52)).alloc (.cells #[.int .i32 (a 0), .int .i32 (a 1), .int .i32 (a 2), .int .i32 (a 3)] 28)) := (((Ext.refl w).alloc _).alloc _).alloc _
  have hF : Blk (((w.alloc (.cells #[.int .i64 f0, .int .i64 f1, .int .i64 f2] 52)).alloc (.cells #[.int .i64 t0, .int .i64 t1, .int .i64 t2] 52)).alloc (.cells #[.int .i32 (a 0), .int .i32 (a 1), .int .i32 (a 2), .int .i32 (a 3)] 28)) w.heap.size #[.int .i64 f0, .int .i64 f1, .int .i64 f2] 52 := ((Blk.new w _ _).alloc _).alloc _
  have hT : Blk (((w.alloc (.cells #[.int .i64 f0, .int .i64 f1, .int .i64 f2] 52)).alloc (.cells #[.int .i64 t0, .int .i64 t1, .int .i64 t2] 52)).alloc (.cells #[.int .i32 (a 0), .int .i32 (a 1), .int .i32 (a 2), .int .i32 (a 3)] 28)) (w.heap.size + 1) #[.int .i64 t0, .int .i64 t1, .int .i64 t2] 52 := (Blk.at (by simp)).alloc _
  have hA : Blk (((w.alloc (.cells #[.int .i64 f0, .int .i64 f1, .int .i64 f2] 52)).alloc (.cells #[.int .i64 t0, .int .i64 t1, .int .i64 t2] 52)).alloc (.cells #[.int .i32 (a 0), .int .i32 (a 1), .int .i32 (a 2), .int .i32 (a 3)] 28)) (w.heap.size + 1 + 1) #[.int .i32 (a 0), .int .i32 (a 1), .int .i32 (a 2), .int .i32 (a 3)] 28 := Blk.at (by simp)
  have D := hide (And.intro hF (And.intro hT (And.intro hA hX)))
  have HI := hide Ia
  clear hX hF hT hA Ia
  have hE := eqV
  have eg := law1_enters
  go_enter Tryz.func5, Tryz.ntmps5
  go_upto_region 3 with (go_at_call 9; refine (wakes18_any _).mono ?_; rintro e w1 ⟨rfl, hx1⟩; have X1 := hide hx1; clear hx1)
  have D1 := hide (And.intro ((unhide D).1.ext (unhide X1)) (And.intro ((unhide D).2.1.ext (unhide X1)) (And.intro ((unhide D).2.2.1.ext (unhide X1)) ((unhide D).2.2.2.trans (unhide X1)))))
  clear D X1
  have HC := hide (convert_any f1 t1 f2 a w1 (unhide HI))
  have b1 := (unhide D1).1.cell (i := 1) (v := .int .i64 f1) rfl
  have b2 := (unhide D1).1.cell (i := 2) (v := .int .i64 f2) rfl
  have b3 := (unhide D1).2.1.cell (i := 1) (v := .int .i64 t1) rfl
  obtain ⟨a0, a1, a2, a3⟩ := (unhide D1).2.2.1.vec4
  go_upto_region 4 with (go_at_call 22; refine (unhide HC).mono ?_; rintro e w2 ⟨rfl, hx2⟩; have X2 := hide hx2; clear hx2)
  obtain ⟨y, hy⟩ : ∃ y, cnvI f1 t1 f2 a = y := ⟨_, rfl⟩
  obtain ⟨z, hz⟩ : ∃ z, cnvE f1 t1 f2 = z := ⟨_, rfl⟩
  rw [hy, hz]
  have HY := hide (And.intro hy hz)
  have D2 := hide (And.intro (((unhide D1).1.ext (unhide X2)).alloc (.cells #[.int .i32 (y 0), .int .i32 (y 1), .int .i32 (y 2), .int .i32 (y 3)] 28)) (And.intro (((unhide D1).2.1.ext (unhide X2)).alloc (.cells #[.int .i32 (y 0), .int .i32 (y 1), .int .i32 (y 2), .int .i32 (y 3)] 28)) (And.intro (((unhide D1).2.2.1.ext (unhide X2)).alloc (.cells #[.int .i32 (y 0), .int .i32 (y 1), .int .i32 (y 2), .int .i32 (y 3)] 28)) (((unhide D1).2.2.2.trans (unhide X2)).alloc (.cells #[.int .i32 (y 0), .int .i32 (y 1), .int .i32 (y 2), .int .i32 (y 3)] 28)))))
  have Y2 := hide (Blk.new w2 #[.int .i32 (y 0), .int .i32 (y 1), .int .i32 (y 2), .int .i32 (y 3)] 28)
  obtain ⟨B, hB⟩ : ∃ B, w2.heap.size = B := ⟨_, rfl⟩
  rw [hB] at Y2
  rw [show Value.pointer (some ⟨w2.heap.size, 0, none⟩) = Value.pointer (some ⟨B, 0, none⟩) by rw [hB]]
  clear hB D1 X2 HC hy hz b1 b2 b3 a0 a1 a2 a3
  generalize w2.alloc (.cells #[.int .i32 (y 0), .int .i32 (y 1), .int .i32 (y 2), .int .i32 (y 3)] 28) = w3 at D2 Y2 ⊢
  have b1 := (unhide D2).1.cell (i := 1) (v := .int .i64 f1) rfl
  have b2 := (unhide D2).1.cell (i := 2) (v := .int .i64 f2) rfl
  have b3 := (unhide D2).2.1.cell (i := 1) (v := .int .i64 t1) rfl
  obtain ⟨a0, a1, a2, a3⟩ := (unhide D2).2.2.1.vec4
  obtain ⟨y0, y1, y2, y3⟩ := (unhide Y2).vec4
  have HL1 := hide (fun wx => law1_any f1 wx)
  have HL2 := hide (fun wx => law1_any t1 wx)
  cases hb1 : baseB f1
  case false =>
    rw [hb1] at HL1
    have EQB : (baseB f1 && (baseB t1 && cntB f2)) = false := by rw [hb1]; rfl
    have hyz : y = nul ∧ z = 2 := by
      rw [← (unhide HY).1, ← (unhide HY).2]
      unfold cnvI cnvE
      rw [EQB]
      exact ⟨rfl, rfl⟩
    obtain ⟨rfl, rfl⟩ := hyz
    have X := hide (unhide D2).2.2.2
    clear HY D2 Y2 EQB hb1 HL2
    go_wp2_with (first | (go_at_fn 23; with_reducible refine (unhide HL1 _).mono ?_; rintro e w9 ⟨rfl, hw9⟩; obtain rfl := hw9.symm))
    go_ret
    exact ⟨rfl, unhide X⟩
  case true =>
  rw [hb1] at HL1
  cases hb2 : baseB t1
  case false =>
    rw [hb2] at HL2
    have EQB : (baseB f1 && (baseB t1 && cntB f2)) = false := by rw [hb1, hb2]; rfl
    have hyz : y = nul ∧ z = 2 := by
      rw [← (unhide HY).1, ← (unhide HY).2]
      unfold cnvI cnvE
      rw [EQB]
      exact ⟨rfl, rfl⟩
    obtain ⟨rfl, rfl⟩ := hyz
    have X := hide (unhide D2).2.2.2
    clear HY D2 Y2 EQB hb1 hb2
    go_wp2_with (first | (go_at_fn 23; with_reducible refine (unhide HL1 _).mono ?_; rintro e w9 ⟨rfl, hw9⟩; obtain rfl := hw9.symm) | (go_at_fn 23; with_reducible refine (unhide HL2 _).mono ?_; rintro e w9 ⟨rfl, hw9⟩; obtain rfl := hw9.symm))
    go_ret
    exact ⟨rfl, unhide X⟩
  case true =>
  rw [hb2] at HL2
  by_cases hn1 : 1 ≤ f2
  case neg =>
    have d1 : decide (f2 < 1) = true := decide_eq_true (by omega)
    have hlt : f2 < 1 := by omega
    have EQB : (baseB f1 && (baseB t1 && cntB f2)) = false := by rw [hb1, hb2]; unfold cntB; rw [decide_eq_false hn1]; rfl
    have hyz : y = nul ∧ z = 2 := by
      rw [← (unhide HY).1, ← (unhide HY).2]
      unfold cnvI cnvE
      rw [EQB]
      exact ⟨rfl, rfl⟩
    obtain ⟨rfl, rfl⟩ := hyz
    have X := hide (unhide D2).2.2.2
    clear HY D2 Y2 EQB hb1 hb2 hn1
    go_wp2_with (first | (go_at_fn 23; with_reducible refine (unhide HL1 _).mono ?_; rintro e w9 ⟨rfl, hw9⟩; obtain rfl := hw9.symm) | (go_at_fn 23; with_reducible refine (unhide HL2 _).mono ?_; rintro e w9 ⟨rfl, hw9⟩; obtain rfl := hw9.symm))
    go_ret
    exact ⟨rfl, unhide X⟩
  case pos =>
  by_cases hn4 : f2 ≤ 4
  case neg =>
    have d1 : decide (f2 < 1) = false := decide_eq_false (by omega)
    have d4 : decide (f2 > 4) = true := decide_eq_true (by omega)
    have d5 : decide (4 < f2) = true := decide_eq_true (by omega)
    have hlt : ¬ f2 < 1 := by omega
    have hgt : 4 < f2 := by omega
    have EQB : (baseB f1 && (baseB t1 && cntB f2)) = false := by rw [hb1, hb2]; unfold cntB; rw [decide_eq_false hn4, Bool.and_false]; rfl
    have hyz : y = nul ∧ z = 2 := by
      rw [← (unhide HY).1, ← (unhide HY).2]
      unfold cnvI cnvE
      rw [EQB]
      exact ⟨rfl, rfl⟩
    obtain ⟨rfl, rfl⟩ := hyz
    have X := hide (unhide D2).2.2.2
    clear HY D2 Y2 EQB hb1 hb2 hn4 hn1
    go_wp2_with (first | (go_at_fn 23; with_reducible refine (unhide HL1 _).mono ?_; rintro e w9 ⟨rfl, hw9⟩; obtain rfl := hw9.symm) | (go_at_fn 23; with_reducible refine (unhide HL2 _).mono ?_; rintro e w9 ⟨rfl, hw9⟩; obtain rfl := hw9.symm))
    go_ret
    exact ⟨rfl, unhide X⟩
  case pos =>
    have d1 : decide (f2 < 1) = false := decide_eq_false (by omega)
    have d4 : decide (f2 > 4) = false := decide_eq_false (by omega)
    have d5 : decide (4 < f2) = false := decide_eq_false (by omega)
    have hlt : ¬ f2 < 1 := by omega
    have hgt : ¬ 4 < f2 := by omega
    obtain ⟨n, hn⟩ : ∃ n : Nat, f2 = (n : Int) := ⟨f2.toNat, by omega⟩
    have hyz : y = cut f2 (fun i => cvI f1 t1 (a i)) ∧ z = 0 := by
      rw [← (unhide HY).1, ← (unhide HY).2]
      unfold cnvI cnvE
      rw [hb1, hb2, show cntB f2 = true by unfold cntB; rw [decide_eq_true hn1, decide_eq_true hn4]; rfl]
      exact ⟨rfl, rfl⟩
    obtain ⟨hy, rfl⟩ := hyz
    have HYE := hide hy
    have HF1 := hide (base_in hb1)
    have HT1 := hide (base_in hb2)
    subst hn
    clear HY hb1 hb2 hn1 hy
    go_upto_region 8 with (first | (go_at_fn 23; with_reducible refine (unhide HL1 _).mono ?_; rintro e w9 ⟨rfl, hw9⟩; obtain rfl := hw9.symm) | (go_at_fn 23; with_reducible refine (unhide HL2 _).mono ?_; rintro e w9 ⟨rfl, hw9⟩; obtain rfl := hw9.symm))
    have Z3 := hide (Blk.new w3 #[.int .i32 (nul 0), .int .i32 (nul 1), .int .i32 (nul 2), .int .i32 (nul 3)] 28)
    have D4 := hide (And.intro ((unhide D2).1.alloc (.cells #[.int .i32 (nul 0), .int .i32 (nul 1), .int .i32 (nul 2), .int .i32 (nul 3)] 28)) (And.intro ((unhide D2).2.1.alloc (.cells #[.int .i32 (nul 0), .int .i32 (nul 1), .int .i32 (nul 2), .int .i32 (nul 3)] 28)) (And.intro ((unhide D2).2.2.1.alloc (.cells #[.int .i32 (nul 0), .int .i32 (nul 1), .int .i32 (nul 2), .int .i32 (nul 3)] 28)) (And.intro ((unhide Y2).alloc (.cells #[.int .i32 (nul 0), .int .i32 (nul 1), .int .i32 (nul 2), .int .i32 (nul 3)] 28)) ((unhide D2).2.2.2.alloc (.cells #[.int .i32 (nul 0), .int .i32 (nul 1), .int .i32 (nul 2), .int .i32 (nul 3)] 28))))))
    have hsz3 : w.heap.size + 3 ≤ w3.heap.size := by have := (unhide D2).2.2.1.lt; omega
    have hBlt : B < w3.heap.size := (unhide Y2).lt
    obtain ⟨Z, hZ⟩ : ∃ Z, w3.heap.size = Z := ⟨_, rfl⟩
    rw [hZ] at Z3 hsz3 hBlt
    rw [show Value.pointer (some ⟨w3.heap.size, 0, none⟩) = Value.pointer (some ⟨Z, 0, none⟩) by rw [hZ]]
    clear hZ D2 Y2 b1 b2 b3 a0 a1 a2 a3 y0 y1 y2 y3 HL1 HL2
    generalize hw4 : w3.alloc (.cells #[.int .i32 (nul 0), .int .i32 (nul 1), .int .i32 (nul 2), .int .i32 (nul 3)] 28) = w4 at D4 Z3
    rw [show w3.alloc (.cells #[.int .i32 0, .int .i32 0, .int .i32 0, .int .i32 0] 28) = w4 from hw4]
    clear hw4
    have b2 := (unhide D4).1.cell (i := 2) (v := .int .i64 (n : Int)) rfl
    have h0 := hide (And.intro (unhide D4) (unhide Z3))
    go_wp2
    go_loopw [56] (fun p wr => ∃ k : Nat, k ≤ n ∧ p = .int .i64 (k : Int) ∧ Hid (Blk wr w.heap.size #[.int .i64 f0, .int .i64 f1, .int .i64 (n : Int)] 52 ∧ Blk wr (w.heap.size + 1) #[.int .i64 t0, .int .i64 t1, .int .i64 t2] 52 ∧ Blk wr (w.heap.size + 1 + 1) #[.int .i32 (a 0), .int .i32 (a 1), .int .i32 (a 2), .int .i32 (a 3)] 28 ∧ Blk wr B #[.int .i32 (y 0), .int .i32 (y 1), .int .i32 (y 2), .int .i32 (y 3)] 28 ∧ Ext w wr ∧ Blk wr Z #[.int .i32 (cut k (fun i => cvI f1 t1 (a i)) 0), .int .i32 (cut k (fun i => cvI f1 t1 (a i)) 1), .int .i32 (cut k (fun i => cvI f1 t1 (a i)) 2), .int .i32 (cut k (fun i => cvI f1 t1 (a i)) 3)] 28)) (fun p _ => n - (intOf p).toNat)
    case atStart =>
      obtain ⟨⟨k1, k2, k3, k4, k5⟩, k6⟩ := unhide h0
      exact ⟨0, Nat.zero_le _, rfl, k1, k2, k3, k4, k5, by simp only [cut_zero]; exact k6⟩
    case round =>
      obtain ⟨k, hk, rfl, hrel⟩ := hrel
      have R0 := hide hrel
      clear h0 D4 Z3 b2 hrel
      have b1 := (unhide R0).1.cell (i := 1) (v := .int .i64 f1) rfl
      have b2 := (unhide R0).1.cell (i := 2) (v := .int .i64 (n : Int)) rfl
      have b3 := (unhide R0).2.1.cell (i := 1) (v := .int .i64 t1) rfl
      by_cases hlt : k < n
      case pos =>
        have hki : (k : Int) < (n : Int) := by omega
        have hk4 : k < 4 := by omega
        have hk4i : (k : Int) < 4 := by omega
        have ak := (unhide R0).2.2.1.vec k hk4
        have zk := (unhide R0).2.2.2.2.2.vec k hk4
        have fk := (unhide R0).2.2.2.2.2.free k
        have HCV := hide (fun wx => refConvert_any f1 t1 (a k) wx (unhide HI k) (unhide HF1) (unhide HT1))
        have hZ0 : w.heap.size ≠ Z := by omega
        have hZ1 : w.heap.size + 1 ≠ Z := by omega
        have hZ2 : w.heap.size + 1 + 1 ≠ Z := by omega
        have hBZ : B ≠ Z := by omega
        have HCL := hide (fun wx (hg : wr.grownBy wx (some Z)) => show wx.cell? ⟨w.heap.size, 1, none⟩ = some (.int .i64 f1) ∧ wx.cell? ⟨w.heap.size + 1, 1, none⟩ = some (.int .i64 t1) ∧ wx.cell? ⟨w.heap.size + 1 + 1, k, none⟩ = some (.int .i32 (a k)) from ⟨cell_grown hg b1 hZ0, cell_grown hg b3 hZ1, cell_grown hg ak hZ2⟩)
        go_wp2
        go_region_held3 (fun wx => wx.cell? ⟨w.heap.size, 1, none⟩ = some (.int .i64 f1) ∧ wx.cell? ⟨w.heap.size + 1, 1, none⟩ = some (.int .i64 t1) ∧ wx.cell? ⟨w.heap.size + 1 + 1, k, none⟩ = some (.int .i32 (a k)))
          (first | with_reducible exact unhide HCL _ (grown_ofExt _ ((Ext.refl _).drew)) | with_reducible exact unhide HCL _ ((grown_ofExt _ ((Ext.refl _).drew)).trans (grownBy_set _ _ _ _)))
          (first | (go_at_call 24; refine (unhide HCV _).mono ?_; rintro e w5 ⟨rfl, rfl⟩))
        all_goals
          go_wp2
          go_roundw
          case rel =>
            have hg := (grown_ofExt Z ((Ext.refl wr).drew)).trans (grownBy_set wr.drew Z k (.int .i32 (cvI f1 t1 (a k))))
            refine ⟨k + 1, by omega, by go_num, (unhide R0).1.grown hg hZ0, (unhide R0).2.1.grown hg hZ1, (unhide R0).2.2.1.grown hg hZ2, (unhide R0).2.2.2.1.grown hg hBZ, below_grown (unhide R0).2.2.2.2.1 hg (unhide R0).2.2.2.2.1.size (by omega), ?_⟩
            have := ((unhide R0).2.2.2.2.2.ext ((Ext.refl wr).drew)).set k (.int .i32 (cvI f1 t1 (a k)))
            rw [cut_set (fun i => cvI f1 t1 (a i)) k hk4] at this
            exact this
          case measure => simp [intOf]; omega
      case neg =>
        obtain rfl : k = n := by omega
        have hz : Blk wr Z #[.int .i32 (y 0), .int .i32 (y 1), .int .i32 (y 2), .int .i32 (y 3)] 28 := by
          have := (unhide R0).2.2.2.2.2
          rw [unhide HYE]
          exact this
        obtain ⟨z0, z1, z2, z3⟩ := hz.vec4
        obtain ⟨y0, y1, y2, y3⟩ := (unhide R0).2.2.2.1.vec4
        have X := hide (unhide R0).2.2.2.2.1
        clear R0 b1 b3 hz
        go_wp2
        go_ret
        exact ⟨by simp, unhide X⟩
end Go.Proofs.YtgmahpkhdnabjaaGreat
