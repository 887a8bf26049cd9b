/-
  The levels' table.
-/
import Derived.Test.YtjfhhhabcbkahaaGreatTP
import Derived.Deep.RegionHeld3
namespace Go.Proofs.YtjfhhhabcbkahaaGreat
open Go.RowKit
set_option linter.unusedVariables false
set_option linter.unusedSimpArgs false

/-- What rows answers: six lists of operators. -/
def RowsQ (w : World) (pb : Nat) (rb : Nat) (o : Nat → Nat) (w' : World) : Prop := (∀ k, k < 6 → w'.cell? ⟨rb, k, none⟩ = some (.slice (some ⟨o k, 0, none⟩) (opsW k).length (opsW k).length) ∧ SF (fun b => b = pb) w' (.slice (some ⟨o k, 0, none⟩) (opsW k).length (opsW k).length) (opsW k)) ∧ Ext w w'
theorem BlkAt {w : World} {b : Nat} {cs : Array Value} {t : TypeId} (h : w.heap.size = b) : Blk (w.alloc (.cells cs t)) b cs t := h ▸ Blk.new w cs t
set_option maxRecDepth 100000 in
theorem rows_any (w : World) (pb : Nat) (hpb : pb < w.heap.size) : Calls Tryz.prog 52 #[] w fun e w' => ∃ rb o, e = .returned (.slice (some ⟨rb, 0, none⟩) 6 6) ∧ RowsQ w pb rb o w' := by
  obtain ⟨w1, h1⟩ : ∃ x, x = w.alloc (.cells #[.string ⟨#[124, 124]⟩] 9) := ⟨_, rfl⟩
  obtain ⟨w2, h2⟩ : ∃ x, x = w1.alloc (.cells #[.string ⟨#[38, 38]⟩] 9) := ⟨_, rfl⟩
  obtain ⟨w3, h3⟩ : ∃ x, x = w2.alloc (.cells #[.string ⟨#[61, 61]⟩, .string ⟨#[33, 61]⟩] 9) := ⟨_, rfl⟩
  obtain ⟨w4, h4⟩ : ∃ x, x = w3.alloc (.cells #[.string ⟨#[60]⟩, .string ⟨#[62]⟩, .string ⟨#[60, 61]⟩, .string ⟨#[62, 61]⟩] 9) := ⟨_, rfl⟩
  obtain ⟨w5, h5⟩ : ∃ x, x = w4.alloc (.cells #[.string ⟨#[43]⟩, .string ⟨#[45]⟩] 9) := ⟨_, rfl⟩
  obtain ⟨w6, h6⟩ : ∃ x, x = w5.alloc (.cells #[.string ⟨#[42]⟩, .string ⟨#[47]⟩] 9) := ⟨_, rfl⟩
  obtain ⟨w7, h7⟩ : ∃ x, x = w6.alloc (.cells #[.slice (some ⟨w.heap.size, 0, none⟩) 1 1, .slice (some ⟨w.heap.size + 1, 0, none⟩) 1 1, .slice (some ⟨w.heap.size + 2, 0, none⟩) 2 2, .slice (some ⟨w.heap.size + 3, 0, none⟩) 4 4, .slice (some ⟨w.heap.size + 4, 0, none⟩) 2 2, .slice (some ⟨w.heap.size + 5, 0, none⟩) 2 2] 84) := ⟨_, rfl⟩
  have z1 : w1.heap.size = w.heap.size + 1 := by rw [h1]; simp
  have z2 : w2.heap.size = w.heap.size + 2 := by rw [h2]; simp [z1]
  have z3 : w3.heap.size = w.heap.size + 3 := by rw [h3]; simp [z2]
  have z4 : w4.heap.size = w.heap.size + 4 := by rw [h4]; simp [z3]
  have z5 : w5.heap.size = w.heap.size + 5 := by rw [h5]; simp [z4]
  have z6 : w6.heap.size = w.heap.size + 6 := by rw [h6]; simp [z5]
  have b0 : Blk w7 (w.heap.size) #[.string ⟨#[124, 124]⟩] 9 := by
    have e : Blk w1 (w.heap.size) #[.string ⟨#[124, 124]⟩] 9 := by rw [h1]; exact BlkAt (b := w.heap.size) rfl
    have e2 : Blk w2 (w.heap.size) #[.string ⟨#[124, 124]⟩] 9 := by rw [h2]; exact e.alloc _
    have e3 : Blk w3 (w.heap.size) #[.string ⟨#[124, 124]⟩] 9 := by rw [h3]; exact e2.alloc _
    have e4 : Blk w4 (w.heap.size) #[.string ⟨#[124, 124]⟩] 9 := by rw [h4]; exact e3.alloc _
    have e5 : Blk w5 (w.heap.size) #[.string ⟨#[124, 124]⟩] 9 := by rw [h5]; exact e4.alloc _
    have e6 : Blk w6 (w.heap.size) #[.string ⟨#[124, 124]⟩] 9 := by rw [h6]; exact e5.alloc _
    have e7 : Blk w7 (w.heap.size) #[.string ⟨#[124, 124]⟩] 9 := by rw [h7]; exact e6.alloc _
    exact e7
  have b1 : Blk w7 (w.heap.size + 1) #[.string ⟨#[38, 38]⟩] 9 := by
    have e : Blk w2 (w.heap.size + 1) #[.string ⟨#[38, 38]⟩] 9 := by rw [h2]; exact BlkAt (b := w.heap.size + 1) z1
    have e3 : Blk w3 (w.heap.size + 1) #[.string ⟨#[38, 38]⟩] 9 := by rw [h3]; exact e.alloc _
    have e4 : Blk w4 (w.heap.size + 1) #[.string ⟨#[38, 38]⟩] 9 := by rw [h4]; exact e3.alloc _
    have e5 : Blk w5 (w.heap.size + 1) #[.string ⟨#[38, 38]⟩] 9 := by rw [h5]; exact e4.alloc _
    have e6 : Blk w6 (w.heap.size + 1) #[.string ⟨#[38, 38]⟩] 9 := by rw [h6]; exact e5.alloc _
    have e7 : Blk w7 (w.heap.size + 1) #[.string ⟨#[38, 38]⟩] 9 := by rw [h7]; exact e6.alloc _
    exact e7
  have b2 : Blk w7 (w.heap.size + 2) #[.string ⟨#[61, 61]⟩, .string ⟨#[33, 61]⟩] 9 := by
    have e : Blk w3 (w.heap.size + 2) #[.string ⟨#[61, 61]⟩, .string ⟨#[33, 61]⟩] 9 := by rw [h3]; exact BlkAt (b := w.heap.size + 2) z2
    have e4 : Blk w4 (w.heap.size + 2) #[.string ⟨#[61, 61]⟩, .string ⟨#[33, 61]⟩] 9 := by rw [h4]; exact e.alloc _
    have e5 : Blk w5 (w.heap.size + 2) #[.string ⟨#[61, 61]⟩, .string ⟨#[33, 61]⟩] 9 := by rw [h5]; exact e4.alloc _
    have e6 : Blk w6 (w.heap.size + 2) #[.string ⟨#[61, 61]⟩, .string ⟨#[33, 61]⟩] 9 := by rw [h6]; exact e5.alloc _
    have e7 : Blk w7 (w.heap.size + 2) #[.string ⟨#[61, 61]⟩, .string ⟨#[33, 61]⟩] 9 := by rw [h7]; exact e6.alloc _
    exact e7
  have b3 : Blk w7 (w.heap.size + 3) #[.string ⟨#[60]⟩, .string ⟨#[62]⟩, .string ⟨#[60, 61]⟩, .string ⟨#[62, 61]⟩] 9 := by
    have e : Blk w4 (w.heap.size + 3) #[.string ⟨#[60]⟩, .string ⟨#[62]⟩, .string ⟨#[60, 61]⟩, .string ⟨#[62, 61]⟩] 9 := by rw [h4]; exact BlkAt (b := w.heap.size + 3) z3
    have e5 : Blk w5 (w.heap.size + 3) #[.string ⟨#[60]⟩, .string ⟨#[62]⟩, .string ⟨#[60, 61]⟩, .string ⟨#[62, 61]⟩] 9 := by rw [h5]; exact e.alloc _
    have e6 : Blk w6 (w.heap.size + 3) #[.string ⟨#[60]⟩, .string ⟨#[62]⟩, .string ⟨#[60, 61]⟩, .string ⟨#[62, 61]⟩] 9 := by rw [h6]; exact e5.alloc _
    have e7 : Blk w7 (w.heap.size + 3) #[.string ⟨#[60]⟩, .string ⟨#[62]⟩, .string ⟨#[60, 61]⟩, .string ⟨#[62, 61]⟩] 9 := by rw [h7]; exact e6.alloc _
    exact e7
  have b4 : Blk w7 (w.heap.size + 4) #[.string ⟨#[43]⟩, .string ⟨#[45]⟩] 9 := by
    have e : Blk w5 (w.heap.size + 4) #[.string ⟨#[43]⟩, .string ⟨#[45]⟩] 9 := by rw [h5]; exact BlkAt (b := w.heap.size + 4) z4
    have e6 : Blk w6 (w.heap.size + 4) #[.string ⟨#[43]⟩, .string ⟨#[45]⟩] 9 := by rw [h6]; exact e.alloc _
    have e7 : Blk w7 (w.heap.size + 4) #[.string ⟨#[43]⟩, .string ⟨#[45]⟩] 9 := by rw [h7]; exact e6.alloc _
    exact e7
  have b5 : Blk w7 (w.heap.size + 5) #[.string ⟨#[42]⟩, .string ⟨#[47]⟩] 9 := by
    have e : Blk w6 (w.heap.size + 5) #[.string ⟨#[42]⟩, .string ⟨#[47]⟩] 9 := by rw [h6]; exact BlkAt (b := w.heap.size + 5) z5
    have e7 : Blk w7 (w.heap.size + 5) #[.string ⟨#[42]⟩, .string ⟨#[47]⟩] 9 := by rw [h7]; exact e.alloc _
    exact e7
  have b6 : Blk w7 (w.heap.size + 6) #[.slice (some ⟨w.heap.size, 0, none⟩) 1 1, .slice (some ⟨w.heap.size + 1, 0, none⟩) 1 1, .slice (some ⟨w.heap.size + 2, 0, none⟩) 2 2, .slice (some ⟨w.heap.size + 3, 0, none⟩) 4 4, .slice (some ⟨w.heap.size + 4, 0, none⟩) 2 2, .slice (some ⟨w.heap.size + 5, 0, none⟩) 2 2] 84 := by rw [h7]; exact BlkAt z6
  have hx : Ext w w7 := by
    rw [h7, h6, h5, h4, h3, h2, h1]
    exact ((((((((Ext.refl w).alloc _).alloc _).alloc _).alloc _).alloc _).alloc _).alloc _)
  have HQ : Hid (RowsQ w pb (w.heap.size + 6) (fun k => w.heap.size + k) w7) := by
    refine ⟨fun k hk => ?_, hx⟩
    match k, hk with
    | 0, _ => exact ⟨b6.cell rfl, SF.new (opsW 0) b0 (by show ¬ (w.heap.size + 0 = pb); omega) (by decide)⟩
    | 1, _ => exact ⟨b6.cell rfl, SF.new (opsW 1) b1 (by show ¬ (w.heap.size + 1 = pb); omega) (by decide)⟩
    | 2, _ => exact ⟨b6.cell rfl, SF.new (opsW 2) b2 (by show ¬ (w.heap.size + 2 = pb); omega) (by decide)⟩
    | 3, _ => exact ⟨b6.cell rfl, SF.new (opsW 3) b3 (by show ¬ (w.heap.size + 3 = pb); omega) (by decide)⟩
    | 4, _ => exact ⟨b6.cell rfl, SF.new (opsW 4) b4 (by show ¬ (w.heap.size + 4 = pb); omega) (by decide)⟩
    | 5, _ => exact ⟨b6.cell rfl, SF.new (opsW 5) b5 (by show ¬ (w.heap.size + 5 = pb); omega) (by decide)⟩
    | n + 6, h => omega
  have HE := hide (And.intro h7 (And.intro h6 (And.intro h5 (And.intro h4 (And.intro h3 (And.intro h2 h1))))))
  clear b0 b1 b2 b3 b4 b5 b6 hx z1 z2 z3 z4 z5 z6 h1 h2 h3 h4 h5 h6 h7
  go_enter Tryz.func52, Tryz.ntmps52
  go_wp2
  go_ret
  obtain ⟨rfl, rfl, rfl, rfl, rfl, rfl, rfl⟩ := unhide HE
  exact ⟨w.heap.size + 6, fun k => w.heap.size + k, rfl, unhide HQ⟩

set_option maxHeartbeats 2000000 in
set_option maxRecDepth 100000 in
theorem table_any (w : World) (pb : Nat) (hpb : pb < w.heap.size) : Calls Tryz.prog 40 #[.pointer (some ⟨pb, 0, none⟩)] w fun e w' => ∃ lb, e = .returned (.slice (some ⟨lb, 0, none⟩) 6 6) ∧ LV w' pb (.slice (some ⟨lb, 0, none⟩) 6 6) ∧ Ext w w' := by
  have HR := hide (rows_any w pb hpb)
  have hmf : ∀ (fn : Fn) (first cap : Array Value) (w : World), (Instr.makeFunc fn first cap).run Tryz.prog w = .ok (.func fn first cap) w := fun _ _ _ _ => rfl
  go_enter Tryz.func40, Tryz.ntmps40
  go_wp2_with fail
  refine (unhide HR).mono ?_
  rintro e w1 ⟨rb, o, rfl, hq, hx⟩
  have HQ := hide hq
  have HX := hide hx
  have HCL : Hid (∀ wx, Ext w1 wx → wx.cell? ⟨rb, 0, none⟩ = some (.slice (some ⟨o 0, 0, none⟩) 1 1) ∧ wx.cell? ⟨rb, 1, none⟩ = some (.slice (some ⟨o 1, 0, none⟩) 1 1) ∧ wx.cell? ⟨rb, 2, none⟩ = some (.slice (some ⟨o 2, 0, none⟩) 2 2) ∧ wx.cell? ⟨rb, 3, none⟩ = some (.slice (some ⟨o 3, 0, none⟩) 4 4) ∧ wx.cell? ⟨rb, 4, none⟩ = some (.slice (some ⟨o 4, 0, none⟩) 2 2) ∧ wx.cell? ⟨rb, 5, none⟩ = some (.slice (some ⟨o 5, 0, none⟩) 2 2)) := fun wx hwx => by
    have ce := fun k hk => (hwx.cell (p := ⟨rb, k, none⟩) (World.block_lt_of_cell? w1 _ (hq k hk).1)).trans (hq k hk).1
    exact ⟨ce 0 (by decide), ce 1 (by decide), ce 2 (by decide), ce 3 (by decide), ce 4 (by decide), ce 5 (by decide)⟩
  clear hq hx HR
  go_wp2
  go_cut [2] (fun p wc => ∃ w5 lb, w5 = wc ∧ p = .slice (some ⟨lb, 0, none⟩) 6 6 ∧ w1.heap.size ≤ lb ∧ Blk wc lb #[.func (.func 53) #[.pointer (some ⟨pb, 0, none⟩)] #[], .slice (some ⟨o 0, 0, none⟩) 1 1, .func (.func 54) #[.pointer (some ⟨pb, 0, none⟩)] #[], .slice (some ⟨o 1, 0, none⟩) 1 1, .func (.func 55) #[.pointer (some ⟨pb, 0, none⟩)] #[], .slice (some ⟨o 2, 0, none⟩) 2 2, .func (.func 56) #[.pointer (some ⟨pb, 0, none⟩)] #[], .slice (some ⟨o 3, 0, none⟩) 4 4, .func (.func 57) #[.pointer (some ⟨pb, 0, none⟩)] #[], .slice (some ⟨o 4, 0, none⟩) 2 2, .func (.func 58) #[.pointer (some ⟨pb, 0, none⟩)] #[], .slice (some ⟨o 5, 0, none⟩) 2 2] 86 ∧ Ext w1 wc)
  case first =>
    refine wp_region_noPanic ?_
    refine wp_region_held_drew (S := fun wx => Ext w1 wx) (by kernel_rfl) ((Ext.refl w1).drew) (fun HS => ?_)
    refine wpAnyH_take (i := 0) (oi := { dst := some 5, op := Op.move (Operand.tmp 0), type := _, pos := _, after := _, guard := none }) (v := .pointer (some ⟨pb, 0, none⟩)) rfl (by kernel_rfl) (by kernel_rfl) (by kernel_rfl) (fun _ _ _ h => h) (Or.inl ⟨by rfl, fun _ _ => rfl⟩) HS ?_
    simp only [Act.put, List.setIfInBounds_toArray, List.set_cons_zero, List.set_cons_succ]
    refine wpAnyH_take (i := 1) (oi := { dst := some 6, op := Op.makeFunc (Fn.func 53) #[Operand.tmp 5] #[], type := _, pos := _, after := _, guard := none }) (v := .func (.func 53) #[.pointer (some ⟨pb, 0, none⟩)] #[]) rfl (by kernel_rfl) (by kernel_rfl) (by kernel_rfl) (fun _ _ _ h => h) (Or.inl ⟨by rfl, fun wx _ => by go_simp⟩) HS ?_
    simp only [Act.put, List.setIfInBounds_toArray, List.set_cons_zero, List.set_cons_succ]
    refine wpAnyH_take (i := 2) (oi := { dst := some 7, op := Op.move (Operand.tmp 3), type := _, pos := _, after := _, guard := none }) (v := .slice (some ⟨rb, 0, none⟩) 6 6) rfl (by kernel_rfl) (by kernel_rfl) (by kernel_rfl) (fun _ _ _ h => h) (Or.inl ⟨by rfl, fun _ _ => rfl⟩) HS ?_
    simp only [Act.put, List.setIfInBounds_toArray, List.set_cons_zero, List.set_cons_succ]
    refine wpAnyH_take (i := 3) (oi := { dst := some 8, op := Op.indexAddr 82 (Operand.tmp 7) (Operand.const (Value.int IntKind.i64 0)), type := _, pos := _, after := _, guard := none }) (v := .pointer (some ⟨rb, 0, none⟩)) rfl (by kernel_rfl) (by kernel_rfl) (by kernel_rfl) (fun _ _ _ h => h) (Or.inl ⟨by rfl, fun wx _ => by go_simp⟩) HS ?_
    simp only [Act.put, List.setIfInBounds_toArray, List.set_cons_zero, List.set_cons_succ]
    refine wpAnyH_take (i := 4) (oi := { dst := some 9, op := Op.load 84 (Operand.tmp 8), type := _, pos := _, after := _, guard := none }) (v := .slice (some ⟨o 0, 0, none⟩) 1 1) rfl (by kernel_rfl) (by kernel_rfl) (by kernel_rfl) (fun _ _ _ h => h) (Or.inl ⟨by rfl, fun wx hwx => by obtain ⟨e0, e1, e2, e3, e4, e5⟩ := unhide HCL wx hwx; go_simp⟩) HS ?_
    simp only [Act.put, List.setIfInBounds_toArray, List.set_cons_zero, List.set_cons_succ]
    refine wpAnyH_take (i := 5) (oi := { dst := some 10, op := Op.build 86 #[(0, Operand.tmp 6), (1, Operand.tmp 9)], type := _, pos := _, after := _, guard := none }) (v := .agg #[.func (.func 53) #[.pointer (some ⟨pb, 0, none⟩)] #[], .slice (some ⟨o 0, 0, none⟩) 1 1]) rfl (by kernel_rfl) (by kernel_rfl) (by kernel_rfl) (fun _ _ _ h => h) (Or.inl ⟨by rfl, fun wx _ => by go_simp⟩) HS ?_
    simp only [Act.put, List.setIfInBounds_toArray, List.set_cons_zero, List.set_cons_succ]
    refine wpAnyH_take (i := 6) (oi := { dst := some 11, op := Op.move (Operand.tmp 0), type := _, pos := _, after := _, guard := none }) (v := .pointer (some ⟨pb, 0, none⟩)) rfl (by kernel_rfl) (by kernel_rfl) (by kernel_rfl) (fun _ _ _ h => h) (Or.inl ⟨by rfl, fun _ _ => rfl⟩) HS ?_
    simp only [Act.put, List.setIfInBounds_toArray, List.set_cons_zero, List.set_cons_succ]
    refine wpAnyH_take (i := 7) (oi := { dst := some 12, op := Op.makeFunc (Fn.func 54) #[Operand.tmp 11] #[], type := _, pos := _, after := _, guard := none }) (v := .func (.func 54) #[.pointer (some ⟨pb, 0, none⟩)] #[]) rfl (by kernel_rfl) (by kernel_rfl) (by kernel_rfl) (fun _ _ _ h => h) (Or.inl ⟨by rfl, fun wx _ => by go_simp⟩) HS ?_
    simp only [Act.put, List.setIfInBounds_toArray, List.set_cons_zero, List.set_cons_succ]
    refine wpAnyH_take (i := 8) (oi := { dst := some 13, op := Op.move (Operand.tmp 3), type := _, pos := _, after := _, guard := none }) (v := .slice (some ⟨rb, 0, none⟩) 6 6) rfl (by kernel_rfl) (by kernel_rfl) (by kernel_rfl) (fun _ _ _ h => h) (Or.inl ⟨by rfl, fun _ _ => rfl⟩) HS ?_
    simp only [Act.put, List.setIfInBounds_toArray, List.set_cons_zero, List.set_cons_succ]
    refine wpAnyH_take (i := 9) (oi := { dst := some 14, op := Op.indexAddr 82 (Operand.tmp 13) (Operand.const (Value.int IntKind.i64 1)), type := _, pos := _, after := _, guard := none }) (v := .pointer (some ⟨rb, 1, none⟩)) rfl (by kernel_rfl) (by kernel_rfl) (by kernel_rfl) (fun _ _ _ h => h) (Or.inl ⟨by rfl, fun wx _ => by go_simp⟩) HS ?_
    simp only [Act.put, List.setIfInBounds_toArray, List.set_cons_zero, List.set_cons_succ]
    refine wpAnyH_take (i := 10) (oi := { dst := some 15, op := Op.load 84 (Operand.tmp 14), type := _, pos := _, after := _, guard := none }) (v := .slice (some ⟨o 1, 0, none⟩) 1 1) rfl (by kernel_rfl) (by kernel_rfl) (by kernel_rfl) (fun _ _ _ h => h) (Or.inl ⟨by rfl, fun wx hwx => by obtain ⟨e0, e1, e2, e3, e4, e5⟩ := unhide HCL wx hwx; go_simp⟩) HS ?_
    simp only [Act.put, List.setIfInBounds_toArray, List.set_cons_zero, List.set_cons_succ]
    refine wpAnyH_take (i := 11) (oi := { dst := some 16, op := Op.build 86 #[(0, Operand.tmp 12), (1, Operand.tmp 15)], type := _, pos := _, after := _, guard := none }) (v := .agg #[.func (.func 54) #[.pointer (some ⟨pb, 0, none⟩)] #[], .slice (some ⟨o 1, 0, none⟩) 1 1]) rfl (by kernel_rfl) (by kernel_rfl) (by kernel_rfl) (fun _ _ _ h => h) (Or.inl ⟨by rfl, fun wx _ => by go_simp⟩) HS ?_
    simp only [Act.put, List.setIfInBounds_toArray, List.set_cons_zero, List.set_cons_succ]
    refine wpAnyH_take (i := 12) (oi := { dst := some 17, op := Op.move (Operand.tmp 0), type := _, pos := _, after := _, guard := none }) (v := .pointer (some ⟨pb, 0, none⟩)) rfl (by kernel_rfl) (by kernel_rfl) (by kernel_rfl) (fun _ _ _ h => h) (Or.inl ⟨by rfl, fun _ _ => rfl⟩) HS ?_
    simp only [Act.put, List.setIfInBounds_toArray, List.set_cons_zero, List.set_cons_succ]
    refine wpAnyH_take (i := 13) (oi := { dst := some 18, op := Op.makeFunc (Fn.func 55) #[Operand.tmp 17] #[], type := _, pos := _, after := _, guard := none }) (v := .func (.func 55) #[.pointer (some ⟨pb, 0, none⟩)] #[]) rfl (by kernel_rfl) (by kernel_rfl) (by kernel_rfl) (fun _ _ _ h => h) (Or.inl ⟨by rfl, fun wx _ => by go_simp⟩) HS ?_
    simp only [Act.put, List.setIfInBounds_toArray, List.set_cons_zero, List.set_cons_succ]
    refine wpAnyH_take (i := 14) (oi := { dst := some 19, op := Op.move (Operand.tmp 3), type := _, pos := _, after := _, guard := none }) (v := .slice (some ⟨rb, 0, none⟩) 6 6) rfl (by kernel_rfl) (by kernel_rfl) (by kernel_rfl) (fun _ _ _ h => h) (Or.inl ⟨by rfl, fun _ _ => rfl⟩) HS ?_
    simp only [Act.put, List.setIfInBounds_toArray, List.set_cons_zero, List.set_cons_succ]
    refine wpAnyH_take (i := 15) (oi := { dst := some 20, op := Op.indexAddr 82 (Operand.tmp 19) (Operand.const (Value.int IntKind.i64 2)), type := _, pos := _, after := _, guard := none }) (v := .pointer (some ⟨rb, 2, none⟩)) rfl (by kernel_rfl) (by kernel_rfl) (by kernel_rfl) (fun _ _ _ h => h) (Or.inl ⟨by rfl, fun wx _ => by go_simp⟩) HS ?_
    simp only [Act.put, List.setIfInBounds_toArray, List.set_cons_zero, List.set_cons_succ]
    refine wpAnyH_take (i := 16) (oi := { dst := some 21, op := Op.load 84 (Operand.tmp 20), type := _, pos := _, after := _, guard := none }) (v := .slice (some ⟨o 2, 0, none⟩) 2 2) rfl (by kernel_rfl) (by kernel_rfl) (by kernel_rfl) (fun _ _ _ h => h) (Or.inl ⟨by rfl, fun wx hwx => by obtain ⟨e0, e1, e2, e3, e4, e5⟩ := unhide HCL wx hwx; go_simp⟩) HS ?_
    simp only [Act.put, List.setIfInBounds_toArray, List.set_cons_zero, List.set_cons_succ]
    refine wpAnyH_take (i := 17) (oi := { dst := some 22, op := Op.build 86 #[(0, Operand.tmp 18), (1, Operand.tmp 21)], type := _, pos := _, after := _, guard := none }) (v := .agg #[.func (.func 55) #[.pointer (some ⟨pb, 0, none⟩)] #[], .slice (some ⟨o 2, 0, none⟩) 2 2]) rfl (by kernel_rfl) (by kernel_rfl) (by kernel_rfl) (fun _ _ _ h => h) (Or.inl ⟨by rfl, fun wx _ => by go_simp⟩) HS ?_
    simp only [Act.put, List.setIfInBounds_toArray, List.set_cons_zero, List.set_cons_succ]
    refine wpAnyH_take (i := 18) (oi := { dst := some 23, op := Op.move (Operand.tmp 0), type := _, pos := _, after := _, guard := none }) (v := .pointer (some ⟨pb, 0, none⟩)) rfl (by kernel_rfl) (by kernel_rfl) (by kernel_rfl) (fun _ _ _ h => h) (Or.inl ⟨by rfl, fun _ _ => rfl⟩) HS ?_
    simp only [Act.put, List.setIfInBounds_toArray, List.set_cons_zero, List.set_cons_succ]
    refine wpAnyH_take (i := 19) (oi := { dst := some 24, op := Op.makeFunc (Fn.func 56) #[Operand.tmp 23] #[], type := _, pos := _, after := _, guard := none }) (v := .func (.func 56) #[.pointer (some ⟨pb, 0, none⟩)] #[]) rfl (by kernel_rfl) (by kernel_rfl) (by kernel_rfl) (fun _ _ _ h => h) (Or.inl ⟨by rfl, fun wx _ => by go_simp⟩) HS ?_
    simp only [Act.put, List.setIfInBounds_toArray, List.set_cons_zero, List.set_cons_succ]
    refine wpAnyH_take (i := 20) (oi := { dst := some 25, op := Op.move (Operand.tmp 3), type := _, pos := _, after := _, guard := none }) (v := .slice (some ⟨rb, 0, none⟩) 6 6) rfl (by kernel_rfl) (by kernel_rfl) (by kernel_rfl) (fun _ _ _ h => h) (Or.inl ⟨by rfl, fun _ _ => rfl⟩) HS ?_
    simp only [Act.put, List.setIfInBounds_toArray, List.set_cons_zero, List.set_cons_succ]
    refine wpAnyH_take (i := 21) (oi := { dst := some 26, op := Op.indexAddr 82 (Operand.tmp 25) (Operand.const (Value.int IntKind.i64 3)), type := _, pos := _, after := _, guard := none }) (v := .pointer (some ⟨rb, 3, none⟩)) rfl (by kernel_rfl) (by kernel_rfl) (by kernel_rfl) (fun _ _ _ h => h) (Or.inl ⟨by rfl, fun wx _ => by go_simp⟩) HS ?_
    simp only [Act.put, List.setIfInBounds_toArray, List.set_cons_zero, List.set_cons_succ]
    refine wpAnyH_take (i := 22) (oi := { dst := some 27, op := Op.load 84 (Operand.tmp 26), type := _, pos := _, after := _, guard := none }) (v := .slice (some ⟨o 3, 0, none⟩) 4 4) rfl (by kernel_rfl) (by kernel_rfl) (by kernel_rfl) (fun _ _ _ h => h) (Or.inl ⟨by rfl, fun wx hwx => by obtain ⟨e0, e1, e2, e3, e4, e5⟩ := unhide HCL wx hwx; go_simp⟩) HS ?_
    simp only [Act.put, List.setIfInBounds_toArray, List.set_cons_zero, List.set_cons_succ]
    refine wpAnyH_take (i := 23) (oi := { dst := some 28, op := Op.build 86 #[(0, Operand.tmp 24), (1, Operand.tmp 27)], type := _, pos := _, after := _, guard := none }) (v := .agg #[.func (.func 56) #[.pointer (some ⟨pb, 0, none⟩)] #[], .slice (some ⟨o 3, 0, none⟩) 4 4]) rfl (by kernel_rfl) (by kernel_rfl) (by kernel_rfl) (fun _ _ _ h => h) (Or.inl ⟨by rfl, fun wx _ => by go_simp⟩) HS ?_
    simp only [Act.put, List.setIfInBounds_toArray, List.set_cons_zero, List.set_cons_succ]
    refine wpAnyH_take (i := 24) (oi := { dst := some 29, op := Op.move (Operand.tmp 0), type := _, pos := _, after := _, guard := none }) (v := .pointer (some ⟨pb, 0, none⟩)) rfl (by kernel_rfl) (by kernel_rfl) (by kernel_rfl) (fun _ _ _ h => h) (Or.inl ⟨by rfl, fun _ _ => rfl⟩) HS ?_
    simp only [Act.put, List.setIfInBounds_toArray, List.set_cons_zero, List.set_cons_succ]
    refine wpAnyH_take (i := 25) (oi := { dst := some 30, op := Op.makeFunc (Fn.func 57) #[Operand.tmp 29] #[], type := _, pos := _, after := _, guard := none }) (v := .func (.func 57) #[.pointer (some ⟨pb, 0, none⟩)] #[]) rfl (by kernel_rfl) (by kernel_rfl) (by kernel_rfl) (fun _ _ _ h => h) (Or.inl ⟨by rfl, fun wx _ => by go_simp⟩) HS ?_
    simp only [Act.put, List.setIfInBounds_toArray, List.set_cons_zero, List.set_cons_succ]
    refine wpAnyH_take (i := 26) (oi := { dst := some 31, op := Op.move (Operand.tmp 3), type := _, pos := _, after := _, guard := none }) (v := .slice (some ⟨rb, 0, none⟩) 6 6) rfl (by kernel_rfl) (by kernel_rfl) (by kernel_rfl) (fun _ _ _ h => h) (Or.inl ⟨by rfl, fun _ _ => rfl⟩) HS ?_
    simp only [Act.put, List.setIfInBounds_toArray, List.set_cons_zero, List.set_cons_succ]
    refine wpAnyH_take (i := 27) (oi := { dst := some 32, op := Op.indexAddr 82 (Operand.tmp 31) (Operand.const (Value.int IntKind.i64 4)), type := _, pos := _, after := _, guard := none }) (v := .pointer (some ⟨rb, 4, none⟩)) rfl (by kernel_rfl) (by kernel_rfl) (by kernel_rfl) (fun _ _ _ h => h) (Or.inl ⟨by rfl, fun wx _ => by go_simp⟩) HS ?_
    simp only [Act.put, List.setIfInBounds_toArray, List.set_cons_zero, List.set_cons_succ]
    refine wpAnyH_take (i := 28) (oi := { dst := some 33, op := Op.load 84 (Operand.tmp 32), type := _, pos := _, after := _, guard := none }) (v := .slice (some ⟨o 4, 0, none⟩) 2 2) rfl (by kernel_rfl) (by kernel_rfl) (by kernel_rfl) (fun _ _ _ h => h) (Or.inl ⟨by rfl, fun wx hwx => by obtain ⟨e0, e1, e2, e3, e4, e5⟩ := unhide HCL wx hwx; go_simp⟩) HS ?_
    simp only [Act.put, List.setIfInBounds_toArray, List.set_cons_zero, List.set_cons_succ]
    refine wpAnyH_take (i := 29) (oi := { dst := some 34, op := Op.build 86 #[(0, Operand.tmp 30), (1, Operand.tmp 33)], type := _, pos := _, after := _, guard := none }) (v := .agg #[.func (.func 57) #[.pointer (some ⟨pb, 0, none⟩)] #[], .slice (some ⟨o 4, 0, none⟩) 2 2]) rfl (by kernel_rfl) (by kernel_rfl) (by kernel_rfl) (fun _ _ _ h => h) (Or.inl ⟨by rfl, fun wx _ => by go_simp⟩) HS ?_
    simp only [Act.put, List.setIfInBounds_toArray, List.set_cons_zero, List.set_cons_succ]
    refine wpAnyH_take (i := 30) (oi := { dst := some 35, op := Op.move (Operand.tmp 0), type := _, pos := _, after := _, guard := none }) (v := .pointer (some ⟨pb, 0, none⟩)) rfl (by kernel_rfl) (by kernel_rfl) (by kernel_rfl) (fun _ _ _ h => h) (Or.inl ⟨by rfl, fun _ _ => rfl⟩) HS ?_
    simp only [Act.put, List.setIfInBounds_toArray, List.set_cons_zero, List.set_cons_succ]
    refine wpAnyH_take (i := 31) (oi := { dst := some 36, op := Op.makeFunc (Fn.func 58) #[Operand.tmp 35] #[], type := _, pos := _, after := _, guard := none }) (v := .func (.func 58) #[.pointer (some ⟨pb, 0, none⟩)] #[]) rfl (by kernel_rfl) (by kernel_rfl) (by kernel_rfl) (fun _ _ _ h => h) (Or.inl ⟨by rfl, fun wx _ => by go_simp⟩) HS ?_
    simp only [Act.put, List.setIfInBounds_toArray, List.set_cons_zero, List.set_cons_succ]
    refine wpAnyH_take (i := 32) (oi := { dst := some 37, op := Op.move (Operand.tmp 3), type := _, pos := _, after := _, guard := none }) (v := .slice (some ⟨rb, 0, none⟩) 6 6) rfl (by kernel_rfl) (by kernel_rfl) (by kernel_rfl) (fun _ _ _ h => h) (Or.inl ⟨by rfl, fun _ _ => rfl⟩) HS ?_
    simp only [Act.put, List.setIfInBounds_toArray, List.set_cons_zero, List.set_cons_succ]
    refine wpAnyH_take (i := 33) (oi := { dst := some 38, op := Op.indexAddr 82 (Operand.tmp 37) (Operand.const (Value.int IntKind.i64 5)), type := _, pos := _, after := _, guard := none }) (v := .pointer (some ⟨rb, 5, none⟩)) rfl (by kernel_rfl) (by kernel_rfl) (by kernel_rfl) (fun _ _ _ h => h) (Or.inl ⟨by rfl, fun wx _ => by go_simp⟩) HS ?_
    simp only [Act.put, List.setIfInBounds_toArray, List.set_cons_zero, List.set_cons_succ]
    refine wpAnyH_take (i := 34) (oi := { dst := some 39, op := Op.load 84 (Operand.tmp 38), type := _, pos := _, after := _, guard := none }) (v := .slice (some ⟨o 5, 0, none⟩) 2 2) rfl (by kernel_rfl) (by kernel_rfl) (by kernel_rfl) (fun _ _ _ h => h) (Or.inl ⟨by rfl, fun wx hwx => by obtain ⟨e0, e1, e2, e3, e4, e5⟩ := unhide HCL wx hwx; go_simp⟩) HS ?_
    simp only [Act.put, List.setIfInBounds_toArray, List.set_cons_zero, List.set_cons_succ]
    refine wpAnyH_take (i := 35) (oi := { dst := some 40, op := Op.build 86 #[(0, Operand.tmp 36), (1, Operand.tmp 39)], type := _, pos := _, after := _, guard := none }) (v := .agg #[.func (.func 58) #[.pointer (some ⟨pb, 0, none⟩)] #[], .slice (some ⟨o 5, 0, none⟩) 2 2]) rfl (by kernel_rfl) (by kernel_rfl) (by kernel_rfl) (fun _ _ _ h => h) (Or.inl ⟨by rfl, fun wx _ => by go_simp⟩) HS ?_
    simp only [Act.put, List.setIfInBounds_toArray, List.set_cons_zero, List.set_cons_succ]
    refine wpAnyH_ready (rs := [36]) (by kernel_rfl) (by simp) (AllReadyH.cons (o := { dst := some 41, op := Op.buildSlice 69 6 #[(0, Operand.tmp 10), (1, Operand.tmp 16), (2, Operand.tmp 22), (3, Operand.tmp 28), (4, Operand.tmp 34), (5, Operand.tmp 40)], type := _, pos := _, after := _, guard := none }) rfl (fun KK hK => ?_) AllReadyH.nil)
    refine Eq.mpr (if_pos (by rfl)) ?_
    go_simp
    refine hK.out _ (w1.drew.alloc (.cells #[.func (.func 53) #[.pointer (some ⟨pb, 0, none⟩)] #[], .slice (some ⟨o 0, 0, none⟩) 1 1, .func (.func 54) #[.pointer (some ⟨pb, 0, none⟩)] #[], .slice (some ⟨o 1, 0, none⟩) 1 1, .func (.func 55) #[.pointer (some ⟨pb, 0, none⟩)] #[], .slice (some ⟨o 2, 0, none⟩) 2 2, .func (.func 56) #[.pointer (some ⟨pb, 0, none⟩)] #[], .slice (some ⟨o 3, 0, none⟩) 4 4, .func (.func 57) #[.pointer (some ⟨pb, 0, none⟩)] #[], .slice (some ⟨o 4, 0, none⟩) 2 2, .func (.func 58) #[.pointer (some ⟨pb, 0, none⟩)] #[], .slice (some ⟨o 5, 0, none⟩) 2 2] 86)) (HS.alloc _) (fun _ => ?_)
    clear hK KK
    have HS2 := HS.alloc (.cells #[.func (.func 53) #[.pointer (some ⟨pb, 0, none⟩)] #[], .slice (some ⟨o 0, 0, none⟩) 1 1, .func (.func 54) #[.pointer (some ⟨pb, 0, none⟩)] #[], .slice (some ⟨o 1, 0, none⟩) 1 1, .func (.func 55) #[.pointer (some ⟨pb, 0, none⟩)] #[], .slice (some ⟨o 2, 0, none⟩) 2 2, .func (.func 56) #[.pointer (some ⟨pb, 0, none⟩)] #[], .slice (some ⟨o 3, 0, none⟩) 4 4, .func (.func 57) #[.pointer (some ⟨pb, 0, none⟩)] #[], .slice (some ⟨o 4, 0, none⟩) 2 2, .func (.func 58) #[.pointer (some ⟨pb, 0, none⟩)] #[], .slice (some ⟨o 5, 0, none⟩) 2 2] 86)
    clear HS
    have HS := HS2
    clear HS2
    try simp only [Act.put, List.setIfInBounds_toArray, List.set_cons_zero, List.set_cons_succ]
    refine wpAnyH_take (i := 37) (oi := { dst := some 2, op := Op.assign (Operand.tmp 41), type := _, pos := _, after := _, guard := none }) (v := .slice (some ⟨w1.heap.size, 0, none⟩) 6 6) rfl (by kernel_rfl) (by kernel_rfl) (by kernel_rfl) (fun _ _ _ h => h) (Or.inl ⟨by rfl, fun _ _ => rfl⟩) HS ?_
    simp only [Act.put, List.setIfInBounds_toArray, List.set_cons_zero, List.set_cons_succ]
    refine wpAnyH_done (by kernel_rfl) ?_ _
    refine NoPanic.normal ?_
    go_wp2
    go_meet
    exact ⟨_, w1.heap.size, rfl, rfl, Nat.le_refl _, Blk.new (w1.drew) _ _, ((Ext.refl w1).drew).alloc _⟩
  case rest =>
    obtain ⟨w5, lb, rfl, rfl, hlb, hB, hX⟩ := hcut
    have HB := hide hB
    have HX5 := hide hX
    clear hB hX
    go_wp2
    go_ret
    refine ⟨lb, rfl, ⟨lb, rfl, ?_, fun k hk => ?_⟩, (unhide HX).trans (unhide HX5)⟩
    · have := (unhide HX).size
      omega
    · have hsf := ((unhide HQ) k hk).2.ext (unhide HX5)
      match k, hk with
      | 0, _ => exact ⟨_, (unhide HB).cell (i := 0) rfl, (unhide HB).cell (i := 1) rfl, hsf⟩
      | 1, _ => exact ⟨_, (unhide HB).cell (i := 2) rfl, (unhide HB).cell (i := 3) rfl, hsf⟩
      | 2, _ => exact ⟨_, (unhide HB).cell (i := 4) rfl, (unhide HB).cell (i := 5) rfl, hsf⟩
      | 3, _ => exact ⟨_, (unhide HB).cell (i := 6) rfl, (unhide HB).cell (i := 7) rfl, hsf⟩
      | 4, _ => exact ⟨_, (unhide HB).cell (i := 8) rfl, (unhide HB).cell (i := 9) rfl, hsf⟩
      | 5, _ => exact ⟨_, (unhide HB).cell (i := 10) rfl, (unhide HB).cell (i := 11) rfl, hsf⟩
      | n + 6, h => omega
end Go.Proofs.YtjfhhhabcbkahaaGreat
