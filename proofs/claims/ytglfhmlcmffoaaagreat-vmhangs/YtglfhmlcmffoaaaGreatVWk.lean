/-
  The machine of registers: that the layer does anything (wakes).
-/
import Derived.Test.YtglfhmlcmffoaaaGreatVRx
import Derived.Test.YtglfhmlcmffoaaaGreatCLJ
import Derived.Great.BuildSlice
namespace Go.Proofs.YtglfhmlcmffoaaaGreat
open Go.RowKit
set_option linter.unusedVariables false
set_option linter.unusedSimpArgs false

theorem IR.blockV (w : World) (L : List (Nat → Int)) (hm : L.length ≤ 1000) (hne : L ≠ []) : IR (w.alloc (.cells (icells L).toArray 59)) (.slice (some ⟨w.heap.size, 0, none⟩) L.length L.length) L := by
  refine ⟨_, _, rfl, (fun h => by cases h), Nat.le_refl _, by unfold maxLen; omega, fun i hi => ⟨w.heap.size, 0, rfl, ?_⟩⟩
  intro j u hu
  have hj : j < 16 := by have := (List.getElem?_eq_some_iff.1 hu).1; simpa [insA] using this
  rw [Nat.zero_add]
  refine (Blk.new w _ _).cell ?_
  have := icells_get L i hi j hj
  rw [hu] at this
  simpa using this
def wV1 : Nat → Int := fun k => if k = 0 then 1 else if k = 8 then 1 else if k = 9 then 2 else if k = 10 then 3 else if k = 11 then 4 else 0
def wV2 : Nat → Int := fun k => if k = 0 then 6 else if k = 3 then 4 else if k = 4 then 1 else if k = 12 then 3 else if k = 13 then 2 else if k = 14 then 1 else 0
def wV3 : Nat → Int := fun k => if k = 0 then 4 else if k = 1 then 4 else if k = 6 then 1 else 0
def wVC : Cod := ⟨2, 2, 0, 0, 0, [wV1, wV2, wV3]⟩
def wVE : EnvC := ⟨.slice none 0 0, .slice none 0 0, .slice none 0 0, nul, false, nul, .slice none 0 0⟩
def wVS : Sur := ⟨[], [], [], nul, false, nul⟩
theorem nul_i32 (i : Nat) : I32 (nul i) := by unfold nul I32; omega
theorem reg_nil (x : Int) (i : Nat) : I32 (reg [] x i) := nul_i32 i
theorem wV32 : Sur32 wVS := ⟨reg_nil, reg_nil, reg_nil, nul_i32, nul_i32⟩
theorem wVok : ∀ I ∈ wVC.ins, OkI I := by
  intro I hI
  have hI' : I = wV1 ∨ I = wV2 ∨ I = wV3 := by simpa [wVC] using hI
  rcases hI' with rfl | rfl | rfl
  · refine ⟨fun k hk => ?_, fun k hk => ?_, fun k hk => ?_⟩ <;> unfold wV1 <;> (repeat' split) <;> omega
  · refine ⟨fun k hk => ?_, fun k hk => ?_, fun k hk => ?_⟩ <;> unfold wV2 <;> (repeat' split) <;> omega
  · refine ⟨fun k hk => ?_, fun k hk => ?_, fun k hk => ?_⟩ <;> unfold wV3 <;> (repeat' split) <;> omega
theorem wVref : refI wVC 0 0 0 = 0 := by kernel_rfl
theorem wVcl : (runP wVC wVS []).1.cl 0 = 4 ∧ (runP wVC wVS []).1.cl 1 = 3 ∧ (runP wVC wVS []).1.cl 2 = 2 ∧ (runP wVC wVS []).1.cl 3 = 1 := ⟨by kernel_rfl, by kernel_rfl, by kernel_rfl, by kernel_rfl⟩
def fst2 (x : Int) : Nat → Int := fun i => if i = 0 then x else 0
theorem wVdo : doV 27 2 1 (fst2 7) (fst2 2) nul 0 = 3 ∧ doV 27 2 1 (fst2 7) (fst2 2) nul 1 = 0 ∧ doV 27 2 1 (fst2 7) (fst2 2) nul 2 = 0 ∧ doV 27 2 1 (fst2 7) (fst2 2) nul 3 = 0 ∧ doE 27 2 1 = 0 := ⟨by kernel_rfl, by kernel_rfl, by kernel_rfl, by kernel_rfl, by kernel_rfl⟩
theorem fst2_i32 {x : Int} (h : I32 x) (i : Nat) : I32 (fst2 x i) := by
  unfold fst2
  split
  · exact h
  · unfold I32; omega
theorem nil_sur (w : World) : SurAt w wVE wVS := ⟨.inl ⟨rfl, none, 0, rfl⟩, .inl ⟨rfl, none, 0, rfl⟩, .inl ⟨rfl, none, 0, rfl⟩, rfl, rfl, rfl⟩
theorem nil_gr (w : World) : GR w (.slice none 0 0) [] := ⟨none, 0, rfl, fun i hi => by simp at hi⟩

theorem wVrun (w1 : World) (v : Value) (h : IR w1 v wVC.ins) : Calls Tryz.prog 12 #[.agg #[.int .i64 (wVC).stage, v, .int .i64 (wVC).regs, .int .i64 (wVC).attr, .int .i64 (wVC).unif, .int .i64 (wVC).vary], .agg (envA wVE)] w1 fun e w' => ∃ (p0 p1 p2 p3 z : Int) (ao : Option Addr) (n cap : Nat) (d : Bool), e = .returned (.tuple #[.agg #[.int .i32 p0, .int .i32 p1, .int .i32 p2, .int .i32 p3, .int .i32 z, .slice ao n cap, .int .i32 4, .int .i32 3, .int .i32 2, .int .i32 1, .bool d], .int .i64 0]) ∧ Ext w1 w' := by
  refine (runV_any wVC v wVE wVS [] w1 h wVok (nil_sur _) (nil_gr _) wV32).mono ?_
  rintro e w2 (⟨h1, _⟩ | ⟨_, vy, rfl, hov, hx⟩)
  · exact absurd wVref h1
  · obtain ⟨ao, cap, rfl, _⟩ := GO.shape hov
    obtain ⟨c0, c1, c2, c3⟩ := wVcl
    refine ⟨(runP wVC wVS []).1.po 0, (runP wVC wVS []).1.po 1, (runP wVC wVS []).1.po 2, (runP wVC wVS []).1.po 3, (runP wVC wVS []).1.sz, ao, (runP wVC wVS []).1.V.length, cap, (runP wVC wVS []).1.dc, ?_, hx⟩
    simp only [outA, c0, c1, c2, c3]

set_option maxRecDepth 10000 in
set_option maxHeartbeats 4000000 in
theorem wakes18_any (w : World) : Calls Tryz.prog 9 #[] w fun e w' => e = .returned (.bool true) ∧ Ext w w' := by
  obtain ⟨i16, hi16, hz16, hs16, hb16⟩ := info_all infoI
  have hIR : IR (w.alloc (.cells (icells wVC.ins).toArray 59)) (.slice (some ⟨w.heap.size, 0, none⟩) 3 3) wVC.ins := IR.blockV w wVC.ins (by decide) (by decide)
  have HB : Hid (Blk ((w.alloc (.cells (icells wVC.ins).toArray 59)).alloc (.cells #[.int .i64 (wVC).stage, .slice (some ⟨w.heap.size, 0, none⟩) 3 3, .int .i64 (wVC).regs, .int .i64 (wVC).attr, .int .i64 (wVC).unif, .int .i64 (wVC).vary] 24)) (w.heap.size + 1) #[.int .i64 (wVC).stage, .slice (some ⟨w.heap.size, 0, none⟩) 3 3, .int .i64 (wVC).regs, .int .i64 (wVC).attr, .int .i64 (wVC).unif, .int .i64 (wVC).vary] 24) := Blk.here (by simp)
  have HX : Hid (Ext w ((w.alloc (.cells (icells wVC.ins).toArray 59)).alloc (.cells #[.int .i64 (wVC).stage, .slice (some ⟨w.heap.size, 0, none⟩) 3 3, .int .i64 (wVC).regs, .int .i64 (wVC).attr, .int .i64 (wVC).unif, .int .i64 (wVC).vary] 24))) := ((Ext.refl w).alloc _).alloc _
  have HIX : Hid (IR ((w.alloc (.cells (icells wVC.ins).toArray 59)).alloc (.cells #[.int .i64 (wVC).stage, .slice (some ⟨w.heap.size, 0, none⟩) 3 3, .int .i64 (wVC).regs, .int .i64 (wVC).attr, .int .i64 (wVC).unif, .int .i64 (wVC).vary] 24)) (.slice (some ⟨w.heap.size, 0, none⟩) 3 3) wVC.ins) := hIR.ext ((Ext.refl _).alloc _)
  clear hIR
  have hE := eqV
  go_enter Tryz.func9, Tryz.ntmps9
  go_upto_region 2 with (first
    | refine wpList_buildTo rfl 59 _ rfl (some 7) rfl (insA wV1) (by kernel_rfl) ?_
    | refine wpList_buildTo rfl 59 _ rfl (some 9) rfl (insA wV2) (by kernel_rfl) ?_
    | refine wpList_buildTo rfl 59 _ rfl (some 10) rfl (insA wV3) (by kernel_rfl) ?_
    | refine Go.wpList_buildSlice rfl 22 59 3 _ rfl (icells wVC.ins).toArray i16 (.agg (insA zI)) Tryz.underlying22 hi16 hz16 (by rw [hs16]; decide) (by rw [hs16]; decide) (by rw [hs16]; kernel_rfl) ?_
    | refine wpList_buildTo rfl 24 _ rfl (some 12) rfl #[.int .i64 (wVC).stage, .slice (some ⟨w.heap.size, 0, none⟩) 3 3, .int .i64 (wVC).regs, .int .i64 (wVC).attr, .int .i64 (wVC).unif, .int .i64 (wVC).vary] (by kernel_rfl) ?_
    | refine wpList_storeLast rfl 24 (.tmp 1) (.tmp 12) rfl _ (w.heap.size + 1) (by simp) rfl #[.int .i64 (wVC).stage, .slice (some ⟨w.heap.size, 0, none⟩) 3 3, .int .i64 (wVC).regs, .int .i64 (wVC).attr, .int .i64 (wVC).unif, .int .i64 (wVC).vary] rfl 6 size6 rfl rfl (by simp [Value.oneCell']) ?_)
  generalize ((w.alloc (.cells (icells wVC.ins).toArray 59)).alloc (.cells #[.int .i64 (wVC).stage, .slice (some ⟨w.heap.size, 0, none⟩) 3 3, .int .i64 (wVC).regs, .int .i64 (wVC).attr, .int .i64 (wVC).unif, .int .i64 (wVC).vary] 24)) = w1 at HB HX HIX ⊢
  have HRUN := hide (wVrun w1 (.slice (some ⟨w.heap.size, 0, none⟩) 3 3) (unhide HIX))
  go_upto_region 3 with (first
    | refine wpList_load_row rfl 24 (.tmp 1) rfl (w.heap.size + 1) rfl 24 #[.int .i64 (wVC).stage, .slice (some ⟨w.heap.size, 0, none⟩) 3 3, .int .i64 (wVC).regs, .int .i64 (wVC).attr, .int .i64 (wVC).unif, .int .i64 (wVC).vary] (0, 0) _ (unhide HB) Tryz.underlying24 rfl size6 ?_
    | refine wpList_buildTo rfl 31 _ rfl (some 15) rfl (envA wVE) (by kernel_rfl) ?_
    | (go_at_call 12; refine (unhide HRUN).mono ?_; rintro e w2 ⟨p0, p1, p2, p3, z, ao, n, cap, d, rfl, hx2⟩; have X2 := hide ((unhide HX).trans hx2); clear hx2)
    | refine wpList_storeLast rfl 36 (.tmp 2) (.tmp 17) rfl _ w2.heap.size (by simp) rfl #[.int .i32 p0, .int .i32 p1, .int .i32 p2, .int .i32 p3, .int .i32 z, .slice ao n cap, .int .i32 4, .int .i32 3, .int .i32 2, .int .i32 1, .bool d] rfl 11 sizeOut rfl rfl (by simp [Value.oneCell']) ?_)
  clear HRUN HB HIX
  have HR2 : Hid (Blk (w2.alloc (.cells #[.int .i32 p0, .int .i32 p1, .int .i32 p2, .int .i32 p3, .int .i32 z, .slice ao n cap, .int .i32 4, .int .i32 3, .int .i32 2, .int .i32 1, .bool d] 36)) w2.heap.size #[.int .i32 p0, .int .i32 p1, .int .i32 p2, .int .i32 p3, .int .i32 z, .slice ao n cap, .int .i32 4, .int .i32 3, .int .i32 2, .int .i32 1, .bool d] 36) := Blk.new _ _ _
  have X3 := hide ((unhide X2).alloc (.cells #[.int .i32 p0, .int .i32 p1, .int .i32 p2, .int .i32 p3, .int .i32 z, .slice ao n cap, .int .i32 4, .int .i32 3, .int .i32 2, .int .i32 1, .bool d] 36))
  obtain ⟨B, hB⟩ : ∃ B, w2.heap.size = B := ⟨_, rfl⟩
  rw [hB] at HR2
  rw [show Value.pointer (some ⟨w2.heap.size, 0, none⟩) = Value.pointer (some ⟨B, 0, none⟩) by rw [hB]]
  clear hB X2
  generalize w2.alloc (.cells #[.int .i32 p0, .int .i32 p1, .int .i32 p2, .int .i32 p3, .int .i32 z, .slice ao n cap, .int .i32 4, .int .i32 3, .int .i32 2, .int .i32 1, .bool d] 36) = w3 at HR2 X3 ⊢
  have HDO := hide (do_any 27 2 1 (fst2 7) (fst2 2) nul w3 (fst2_i32 (by unfold I32; omega)) (fst2_i32 (by unfold I32; omega)) nul_i32)
  rw [wVdo.1, wVdo.2.1, wVdo.2.2.1, wVdo.2.2.2.1, wVdo.2.2.2.2] at HDO
  go_upto_region 4 with (go_at_call 24; refine (unhide HDO).mono ?_; rintro e w4 ⟨rfl, hx4⟩; have X4 := hide hx4; clear hx4)
  have c6 := ((unhide HR2).ext (unhide X4)).cell (i := 6) (v := .int .i32 4) rfl
  have c7 := ((unhide HR2).ext (unhide X4)).cell (i := 7) (v := .int .i32 3) rfl
  have c8 := ((unhide HR2).ext (unhide X4)).cell (i := 8) (v := .int .i32 2) rfl
  have c9 := ((unhide HR2).ext (unhide X4)).cell (i := 9) (v := .int .i32 1) rfl
  have hBlt : B < w4.heap.size := ((unhide HR2).ext (unhide X4)).lt
  have hBne : ¬ B = w4.heap.size := by omega
  have X5 := hide ((unhide X3).trans (unhide X4))
  clear HDO HR2 X3 X4
  go_wp2
  go_ret
  exact ⟨rfl, (unhide X5).alloc _⟩
end Go.Proofs.YtglfhmlcmffoaaaGreat
