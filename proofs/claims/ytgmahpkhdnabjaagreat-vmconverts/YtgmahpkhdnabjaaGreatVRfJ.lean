/- Several texts in one. -/
import Derived.Test.YtgmahpkhdnabjaaGreatCEqJ
import Derived.Test.YtgmahpkhdnabjaaGreatLemJ
import Derived.Test.YtgmahpkhdnabjaaGreatVPlJ
/-
  The machine of registers: why a code can't be run (refusal), Fits.
-/
namespace Go.Proofs.YtgmahpkhdnabjaaGreat
open Go.RowKit
set_option linter.unusedVariables false
set_option linter.unusedSimpArgs false

/-- Do surroundings fit, by how many there are? -/
def fitB (C : Cod) (na nu nv : Nat) : Bool := decide ((na : Int) = C.attr) && (decide ((nu : Int) = C.unif) && decide ((nv : Int) = (if C.stage = 1 then 0 else C.vary)))
/-- Why a code can't be run. -/
def refI (C : Cod) (na nu nv : Nat) : Int := if mayP C = false then 260 else if fitB C na nu nv then 0 else 2

set_option maxRecDepth 10000 in
set_option maxHeartbeats 4000000 in
theorem refusalM_any (C : Cod) (v : Value) (E : EnvC) (S : Sur) (w : World) (h : IR w v C.ins) (hs : SurAt w E S) :
    Calls Tryz.prog 28 #[.agg #[.int .i64 (C).stage, v, .int .i64 (C).regs, .int .i64 (C).attr, .int .i64 (C).unif, .int .i64 (C).vary], .agg (envA E)] w fun e w' => e = .returned (.int .i64 (refI C S.att.length S.uni.length S.vry.length)) ∧ Ext w w' := by
  obtain ⟨aa, ca, ea⟩ := hs.1.shape
  obtain ⟨au, cu, eu⟩ := hs.2.1.shape
  obtain ⟨av, cv, ev⟩ := hs.2.2.1.shape
  have ER := hide (show refI C S.att.length S.uni.length S.vry.length = if mayP C = false then 260 else if fitB C S.att.length S.uni.length S.vry.length then 0 else 2 from rfl)
  have EF := hide (show fitB C S.att.length S.uni.length S.vry.length = (decide ((S.att.length : Int) = C.attr) && (decide ((S.uni.length : Int) = C.unif) && decide ((S.vry.length : Int) = (if C.stage = 1 then 0 else C.vary)))) from rfl)
  generalize S.att.length = na at *
  generalize S.uni.length = nu at *
  generalize S.vry.length = nv at *
  have hX : Ext w ((w.alloc (.cells #[.int .i64 (C).stage, v, .int .i64 (C).regs, .int .i64 (C).attr, .int .i64 (C).unif, .int .i64 (C).vary] 24)).alloc (.cells (envA E) 31)) := ((Ext.refl w).alloc _).alloc _
  have hC : Blk ((w.alloc (.cells #[.int .i64 (C).stage, v, .int .i64 (C).regs, .int .i64 (C).attr, .int .i64 (C).unif, .int .i64 (C).vary] 24)).alloc (.cells (envA E) 31)) w.heap.size #[.int .i64 (C).stage, v, .int .i64 (C).regs, .int .i64 (C).attr, .int .i64 (C).unif, .int .i64 (C).vary] 24 := (Blk.new w _ _).alloc _
  have hE : Blk ((w.alloc (.cells #[.int .i64 (C).stage, v, .int .i64 (C).regs, .int .i64 (C).attr, .int .i64 (C).unif, .int .i64 (C).vary] 24)).alloc (.cells (envA E) 31)) (w.heap.size + 1) (envA E) 31 := Blk.at (by simp)
  have D := hide (And.intro hC (And.intro hE hX))
  have HC := hide (codeChk_any C v _ (h.ext hX))
  have HE := hide (And.intro ea (And.intro eu ev))
  clear hX hC hE h hs ea eu ev
  go_enter Tryz.func28, Tryz.ntmps28
  go_upto_region 1 with fail
  generalize hw2 : ((w.alloc (.cells #[.int .i64 (C).stage, v, .int .i64 (C).regs, .int .i64 (C).attr, .int .i64 (C).unif, .int .i64 (C).vary] 24)).alloc (.cells (envA E) 31)) = w2 at D HC ⊢
  clear hw2
  have HB := hide (unhide D).1
  go_cut [5] (fun p wc => p = .int .i64 (chkI (mayP C)) ∧ Hid (Ext w2 wc))
  case first =>
    go_wp2_with (first
      | refine wpList_load_row rfl 24 (.tmp 2) rfl w.heap.size rfl 24 #[.int .i64 (C).stage, v, .int .i64 (C).regs, .int .i64 (C).attr, .int .i64 (C).unif, .int .i64 (C).vary] (0, 0) _ (unhide HB) Tryz.underlying24 rfl size6 ?_
      | (go_at_call 47; refine (unhide HC).mono ?_; rintro e w3 ⟨rfl, hx3⟩; have X3 := hide hx3; clear hx3))
    go_meet
    exact ⟨rfl, unhide X3⟩
  case rest =>
  obtain ⟨rfl, hcut⟩ := hcut
  rename_i wc
  have DC := hide (And.intro ((unhide D).1.ext (unhide hcut)) (And.intro ((unhide D).2.1.ext (unhide hcut)) ((unhide D).2.2.trans (unhide hcut))))
  clear D HC HB hcut
  cases hy : mayP C
  case false =>
    have E2 : Hid (refI C na nu nv = 260) := by rw [Hid, unhide ER, if_pos hy]
    have hch : chkI false = 260 := rfl
    rw [hch]
    clear hy ER EF
    go_wp2
    go_ret
    exact ⟨by rw [unhide E2] <;> rfl, (unhide DC).2.2⟩
  case true =>
  have hch : chkI true = 0 := rfl
  rw [hch]
  have E3 : Hid (refI C na nu nv = if fitB C na nu nv then 0 else 2) := by rw [Hid, unhide ER, if_neg (by rw [hy]; decide)]
  clear hch hy ER
  have c0 := (unhide DC).1.cell (i := 0) (v := .int .i64 C.stage) rfl
  have c3 := (unhide DC).1.cell (i := 3) (v := .int .i64 C.attr) rfl
  have c4 := (unhide DC).1.cell (i := 4) (v := .int .i64 C.unif) rfl
  have c5 := (unhide DC).1.cell (i := 5) (v := .int .i64 C.vary) rfl
  have e0 := (unhide DC).2.1.cell (i := 0) (v := E.va) rfl
  have e1 := (unhide DC).2.1.cell (i := 1) (v := E.vu) rfl
  have e2 := (unhide DC).2.1.cell (i := 2) (v := E.vv) rfl
  rw [(unhide HE).1] at e0
  rw [(unhide HE).2.1] at e1
  rw [(unhide HE).2.2] at e2
  clear HE
  obtain ⟨q, hq⟩ : ∃ q : Int, (if C.stage = 1 then 0 else C.vary) = q := ⟨_, rfl⟩
  rw [hq] at EF
  have HX := hide (unhide DC).2.2
  clear DC
  generalize C.attr = xa at *
  generalize C.unif = xu at *
  by_cases h1 : C.stage = 1
  case pos =>
    rw [if_pos h1] at hq
    rw [h1] at c0
    subst hq
    clear h1
    by_cases ha : (na : Int) = xa
    case neg =>
      have E4 : Hid (refI C na nu nv = 2) := by rw [Hid, unhide E3, unhide EF, decide_eq_false ha]; rfl
      have d : ((na : Int) != xa) = true := by simp [ha]
      clear ha EF E3
      go_wp2
      go_ret
      exact ⟨by rw [unhide E4] <;> rfl, unhide HX⟩
    case pos =>
    have da : ((na : Int) != xa) = false := by simp [ha]
    by_cases hu : (nu : Int) = xu
    case neg =>
      have E4 : Hid (refI C na nu nv = 2) := by rw [Hid, unhide E3, unhide EF, decide_eq_false hu, Bool.false_and, Bool.and_false]; rfl
      have d : ((nu : Int) != xu) = true := by simp [hu]
      clear ha hu EF E3
      go_wp2
      go_ret
      exact ⟨by rw [unhide E4] <;> rfl, unhide HX⟩
    case pos =>
    have du : ((nu : Int) != xu) = false := by simp [hu]
    by_cases hv : (nv : Int) = 0
    case neg =>
      have E4 : Hid (refI C na nu nv = 2) := by rw [Hid, unhide E3, unhide EF, decide_eq_false hv, Bool.and_false, Bool.and_false]; rfl
      have d : ((nv : Int) != 0) = true := by first | (simp [hv]; done) | (simp; omega)
      clear ha hu hv EF E3
      go_wp2
      go_ret
      exact ⟨by rw [unhide E4] <;> rfl, unhide HX⟩
    case pos =>
    have dv : ((nv : Int) != 0) = false := by first | (simp [hv]; done) | (simp; omega)
    have E4 : Hid (refI C na nu nv = 0) := by rw [Hid, unhide E3, unhide EF, decide_eq_true ha, decide_eq_true hu, decide_eq_true hv]; rfl
    clear ha hu hv EF E3
    go_wp2
    go_ret
    exact ⟨by rw [unhide E4] <;> rfl, unhide HX⟩
  case neg =>
    rw [if_neg h1] at hq
    have d1 : (C.stage == 1) = false := by simp [h1]
    obtain ⟨xv, hxv⟩ : ∃ xv, C.vary = xv := ⟨_, rfl⟩
    rw [hxv] at hq c5
    subst hq
    clear h1 hxv
    by_cases ha : (na : Int) = xa
    case neg =>
      have E4 : Hid (refI C na nu nv = 2) := by rw [Hid, unhide E3, unhide EF, decide_eq_false ha]; rfl
      have d : ((na : Int) != xa) = true := by simp [ha]
      clear ha EF E3
      go_wp2
      go_ret
      exact ⟨by rw [unhide E4] <;> rfl, unhide HX⟩
    case pos =>
    have da : ((na : Int) != xa) = false := by simp [ha]
    by_cases hu : (nu : Int) = xu
    case neg =>
      have E4 : Hid (refI C na nu nv = 2) := by rw [Hid, unhide E3, unhide EF, decide_eq_false hu, Bool.false_and, Bool.and_false]; rfl
      have d : ((nu : Int) != xu) = true := by simp [hu]
      clear ha hu EF E3
      go_wp2
      go_ret
      exact ⟨by rw [unhide E4] <;> rfl, unhide HX⟩
    case pos =>
    have du : ((nu : Int) != xu) = false := by simp [hu]
    by_cases hv : (nv : Int) = xv
    case neg =>
      have E4 : Hid (refI C na nu nv = 2) := by rw [Hid, unhide E3, unhide EF, decide_eq_false hv, Bool.and_false, Bool.and_false]; rfl
      have d : ((nv : Int) != xv) = true := by first | (simp [hv]; done) | (simp; omega)
      clear ha hu hv EF E3
      go_wp2
      go_ret
      exact ⟨by rw [unhide E4] <;> rfl, unhide HX⟩
    case pos =>
    have dv : ((nv : Int) != xv) = false := by first | (simp [hv]; done) | (simp; omega)
    have E4 : Hid (refI C na nu nv = 0) := by rw [Hid, unhide E3, unhide EF, decide_eq_true ha, decide_eq_true hu, decide_eq_true hv]; rfl
    clear ha hu hv EF E3
    go_wp2
    go_ret
    exact ⟨by rw [unhide E4] <;> rfl, unhide HX⟩

set_option maxRecDepth 10000 in
set_option maxHeartbeats 4000000 in
theorem fits_any (C : Cod) (v : Value) (E : EnvC) (S : Sur) (w : World) (h : IR w v C.ins) (hs : SurAt w E S) :
    Calls Tryz.prog 14 #[.agg #[.int .i64 (C).stage, v, .int .i64 (C).regs, .int .i64 (C).attr, .int .i64 (C).unif, .int .i64 (C).vary], .agg (envA E)] w fun e w' => e = .returned (.bool (refI C S.att.length S.uni.length S.vry.length == 0)) ∧ Ext w w' := by
  have hX : Ext w ((w.alloc (.cells #[.int .i64 (C).stage, v, .int .i64 (C).regs, .int .i64 (C).attr, .int .i64 (C).unif, .int .i64 (C).vary] 24)).alloc (.cells (envA E) 31)) := ((Ext.refl w).alloc _).alloc _
  have hC : Blk ((w.alloc (.cells #[.int .i64 (C).stage, v, .int .i64 (C).regs, .int .i64 (C).attr, .int .i64 (C).unif, .int .i64 (C).vary] 24)).alloc (.cells (envA E) 31)) w.heap.size #[.int .i64 (C).stage, v, .int .i64 (C).regs, .int .i64 (C).attr, .int .i64 (C).unif, .int .i64 (C).vary] 24 := (Blk.new w _ _).alloc _
  have hE : Blk ((w.alloc (.cells #[.int .i64 (C).stage, v, .int .i64 (C).regs, .int .i64 (C).attr, .int .i64 (C).unif, .int .i64 (C).vary] 24)).alloc (.cells (envA E) 31)) (w.heap.size + 1) (envA E) 31 := Blk.at (by simp)
  have HB := hide hC
  have HE := hide hE
  have HX := hide hX
  have HR := hide (refusalM_any C v E S _ (h.ext hX) (hs.ext hX))
  clear hX hC hE h hs
  generalize refI C S.att.length S.uni.length S.vry.length = r at *
  go_enter Tryz.func14, Tryz.ntmps14
  go_wp2_with (first
    | refine wpList_load_row rfl 24 (.tmp 2) rfl w.heap.size rfl 24 #[.int .i64 (C).stage, v, .int .i64 (C).regs, .int .i64 (C).attr, .int .i64 (C).unif, .int .i64 (C).vary] (0, 0) _ (unhide HB) Tryz.underlying24 rfl size6 ?_
    | refine wpList_load_row rfl 31 (.tmp 3) rfl (w.heap.size + 1) rfl 31 (envA E) (0, 0) _ (unhide HE) Tryz.underlying31 rfl sizeEnv ?_
    | (go_at_call 28; refine (unhide HR).mono ?_; rintro e w3 ⟨rfl, hx3⟩; have X3 := hide ((unhide HX).trans hx3); clear hx3))
  go_ret
  exact ⟨rfl, unhide X3⟩
end Go.Proofs.YtgmahpkhdnabjaaGreat

/-
  What a call leaves alone. Nothing here speaks of the program.
-/
namespace Go.Proofs.YtgmahpkhdnabjaaGreat
open Go.RowKit
set_option linter.unusedVariables false
set_option linter.unusedSimpArgs false

/-! ### What a call leaves alone -/
/-- All blocks but T's are as they were. -/
structure Out (T : Nat → Prop) (w w' : World) : Prop where
  os : w'.os = w.os
  tape : w'.tape = w.tape
  output : w'.output = w.output
  size : w.heap.size ≤ w'.heap.size
  block : ∀ k, k < w.heap.size → ¬ T k → w'.heap[k]? = w.heap[k]?
/-- T' is T and perhaps blocks that were not there. -/
def Wid (T T' : Nat → Prop) (w : World) : Prop := ∀ b, (b < w.heap.size → T b → T' b) ∧ (T' b → T b ∨ w.heap.size ≤ b)
section
variable {T T' T'' : Nat → Prop} {a b c w w' w'' : World}
theorem Out.refl (T : Nat → Prop) (w : World) : Out T w w := ⟨rfl, rfl, rfl, Nat.le_refl _, fun _ _ _ => rfl⟩
theorem Out.trans (h : Out T a b) (k : Out T' b c) (ht : ∀ k, T' k → T k ∨ a.heap.size ≤ k) : Out T a c :=
  ⟨k.os.trans h.os, k.tape.trans h.tape, k.output.trans h.output, Nat.le_trans h.size k.size, fun i hi hn => (k.block i (Nat.lt_of_lt_of_le hi h.size) (fun hT => by rcases ht i hT with h1 | h1; exact hn h1; omega)).trans (h.block i hi hn)⟩
theorem Out.wide (h : Out T w w') (ht : ∀ k, T k → T' k) : Out T' w w' := ⟨h.os, h.tape, h.output, h.size, fun i hi hn => h.block i hi (fun e => hn (ht i e))⟩
theorem Out.of_ext (h : Ext w w') : Out T w w' := ⟨h.os, h.tape, h.output, h.size, fun k hk _ => h.block k hk⟩
theorem Out.of_grown {r : Option Nat} (h : w.grownBy w' r) (hr : ∀ k, r = some k → T k) : Out T w w' :=
  ⟨h.os, h.tape, h.output, h.size, fun k hk hn => h.block k hk (fun e => hn (hr k e.symm))⟩
theorem Out.ext (h : Out T w w') (ht : ∀ k, T k → w.heap.size ≤ k) : Ext w w' := ⟨h.os, h.tape, h.output, h.size, fun k hk => h.block k hk (fun e => by have := ht k e; omega)⟩
theorem Out.ext0 (h : Out T w w') {v : World} (hx : Ext v w) (ht : ∀ k, T k → v.heap.size ≤ k) : Ext v w' :=
  ⟨h.os.trans hx.os, h.tape.trans hx.tape, h.output.trans hx.output, Nat.le_trans hx.size h.size, fun k hk => (h.block k (Nat.lt_of_lt_of_le hk hx.size) (fun e => by have := ht k e; omega)).trans (hx.block k hk)⟩
theorem Blk.out {n : Nat} {cs : Array Value} {t : TypeId} (h : Blk w n cs t) (ho : Out T w w') (hn : ¬ T n) : Blk w' n cs t := (ho.block n h.lt hn).trans h
theorem Wid.refl (T : Nat → Prop) (w : World) : Wid T T w := fun b => ⟨fun _ h => h, .inl⟩
theorem Wid.low (h : Wid T T' w') (hs : w.heap.size ≤ w'.heap.size) : Wid T T' w := fun b => ⟨fun hb e => (h b).1 (Nat.lt_of_lt_of_le hb hs) e, fun e => (h b).2 e |>.imp id (Nat.le_trans hs)⟩
theorem Wid.trans (h : Wid T T' w) (k : Wid T' T'' w') (hs : w.heap.size ≤ w'.heap.size) : Wid T T'' w := fun b => ⟨fun hb e => (k b).1 (Nat.lt_of_lt_of_le hb hs) ((h b).1 hb e), fun e => by
  rcases (k b).2 e with h1 | h1
  · exact (h b).2 h1
  · exact .inr (by omega)⟩
end

end Go.Proofs.YtgmahpkhdnabjaaGreat

/-
  The machine of registers in memory, as a whole; what turns it and what does not.
-/
namespace Go.Proofs.YtgmahpkhdnabjaaGreat
open Go.RowKit
set_option linter.unusedVariables false
set_option linter.unusedSimpArgs false

/-- A machine in memory, and what it has come to. -/
def MAt (w0 w : World) (mb : Nat) (E : EnvC) (vr vy : Value) (s : St) : Prop :=
  Blk w mb (mcA E vr ⟨s.po, s.sz, vy, s.cl, s.dc⟩) 75 ∧ OV w w0.heap.size vr s.R ∧ OV w w0.heap.size vy s.V ∧ Ext w0 w ∧ w0.heap.size ≤ mb ∧ (∀ g, vr.ownBlock = some g → g ≠ mb) ∧ (∀ g, vy.ownBlock = some g → g ≠ mb ∧ vr.ownBlock ≠ some g)
/-- The blocks of a machine. -/
def MB (mb : Nat) (vr vy : Value) (b : Nat) : Prop := b = mb ∨ vr.ownBlock = some b ∨ vy.ownBlock = some b
/-- What is not a machine's, of the call's own. -/
def NB (w0 : World) (mb : Nat) (vr vy : Value) (b : Nat) : Prop := w0.heap.size ≤ b ∧ ¬ MB mb vr vy b
section
variable {w0 w w' : World} {mb : Nat} {E : EnvC} {vr vy : Value} {s : St}
theorem OV.out {T : Nat → Prop} {v : Value} {base : Nat} {L : List (Nat → Int)} (h : OV w base v L) (ho : Out T w w') (hn : ∀ b, v.ownBlock = some b → ¬ T b) : OV w' base v L := by
  refine ⟨h.1, ?_⟩
  rcases h.2 with hl | ⟨g, cap, cur, e, hb, hg, r⟩
  · exact .inl hl
  · exact .inr ⟨g, cap, cur, e, hb, (ho.block g (Array.getElem?_eq_some_iff.1 hg).1 (hn g (by rw [e]; rfl))).trans hg, r⟩
theorem MAt.out (h : MAt w0 w mb E vr vy s) (ho : Out (NB w0 mb vr vy) w w') : MAt w0 w' mb E vr vy s := by
  obtain ⟨h1, h2, h3, h4, h5, h6, h7⟩ := h
  exact ⟨h1.out ho (fun h => h.2 (.inl rfl)), h2.out ho (fun b hb h => h.2 (.inr (.inl hb))), h3.out ho (fun b hb h => h.2 (.inr (.inr hb))), ho.ext0 h4 (fun k hk => hk.1), h5, h6, h7⟩
theorem MAt.ext (h : MAt w0 w mb E vr vy s) (hx : Ext w w') : MAt w0 w' mb E vr vy s := h.out (Out.of_ext hx)
/-- A vector stored into the registers. -/
theorem MAt.setR {g n cap : Nat} (h : MAt w0 w mb E (.slice (some ⟨g, 0, none⟩) n cap) vy s) (k : Nat) (hk : k < s.R.length) (x : Nat → Int) :
    MAt w0 ((((w.setCell ⟨g, k * 4, none⟩ (.int .i32 (x 0))).setCell ⟨g, k * 4 + 1, none⟩ (.int .i32 (x 1))).setCell ⟨g, k * 4 + 2, none⟩ (.int .i32 (x 2))).setCell ⟨g, k * 4 + 3, none⟩ (.int .i32 (x 3))) mb E (.slice (some ⟨g, 0, none⟩) n cap) vy { s with R := s.R.set k x } := by
  obtain ⟨h1, h2, h3, h4, h5, h6, h7⟩ := h
  have hg := grown4 w g (k * 4) (k * 4 + 1) (k * 4 + 2) (k * 4 + 3) (.int .i32 (x 0)) (.int .i32 (x 1)) (.int .i32 (x 2)) (.int .i32 (x 3))
  have hgm := h6 g rfl
  have hgb := (GO.lt h2 g rfl).1
  exact ⟨h1.grown hg (fun e => hgm e.symm), h2.store k hk x, h3.other hg (fun b hb e => (h7 b hb).2 (by rw [e]; rfl)), h4.grown hg h4.size (fun b e => by cases e; exact hgb), h5, h6, h7⟩
theorem MAt.setPo (h : MAt w0 w mb E vr vy s) {x : Nat → Int} (hb : Blk w' mb (mcA E vr ⟨x, s.sz, vy, s.cl, s.dc⟩) 75) (hg : w.grownBy w' (some mb)) : MAt w0 w' mb E vr vy { s with po := x } := by
  obtain ⟨h1, h2, h3, h4, h5, h6, h7⟩ := h
  exact ⟨hb, h2.other hg h6, h3.other hg (fun b hb => (h7 b hb).1), h4.grown hg h4.size (fun b e => by cases e; exact h5), h5, h6, h7⟩
theorem MAt.setSz (h : MAt w0 w mb E vr vy s) {x : Int} (hb : Blk w' mb (mcA E vr ⟨s.po, x, vy, s.cl, s.dc⟩) 75) (hg : w.grownBy w' (some mb)) : MAt w0 w' mb E vr vy { s with sz := x } := by
  obtain ⟨h1, h2, h3, h4, h5, h6, h7⟩ := h
  exact ⟨hb, h2.other hg h6, h3.other hg (fun b hb => (h7 b hb).1), h4.grown hg h4.size (fun b e => by cases e; exact h5), h5, h6, h7⟩
theorem MAt.setCl (h : MAt w0 w mb E vr vy s) {x : Nat → Int} (hb : Blk w' mb (mcA E vr ⟨s.po, s.sz, vy, x, s.dc⟩) 75) (hg : w.grownBy w' (some mb)) : MAt w0 w' mb E vr vy { s with cl := x } := by
  obtain ⟨h1, h2, h3, h4, h5, h6, h7⟩ := h
  exact ⟨hb, h2.other hg h6, h3.other hg (fun b hb => (h7 b hb).1), h4.grown hg h4.size (fun b e => by cases e; exact h5), h5, h6, h7⟩
theorem MAt.setV (h : MAt w0 w mb E vr vy s) {g : Nat} {V : List (Nat → Int)} (e : vy.ownBlock = some g) (hv : OV w' w0.heap.size vy V) (hg : w.grownBy w' (some g)) : MAt w0 w' mb E vr vy { s with V := V } := by
  obtain ⟨h1, h2, h3, h4, h5, h6, h7⟩ := h
  have h8 := h7 g e
  exact ⟨h1.grown hg (fun e => h8.1 e.symm), h2.other hg (fun b hb e2 => h8.2 (by rw [← e2]; exact hb)), hv, h4.grown hg h4.size (fun b e3 => by cases e3; exact (GO.lt h3 g e).1), h5, h6, h7⟩

/-- What a function value that is told the places keeps: what has been told, in memory apart from the machine's. -/
structure Sees (P : Program) (w0 : World) (mb : Nat) (vr vy : Value) (g : FuncId) (lb : Array Value) (Tr : World → List Nat → Prop) : Prop where
  enters : ∀ args w, (callFunc g args).run P w = .ok (.enter g args) w
  keep : ∀ w w' tr b, Tr w tr → w.grownBy w' (some b) → MB mb vr vy b → Tr w' tr
  ext : ∀ w w' tr, Tr w tr → Ext w w' → Tr w' tr
  see : ∀ (k : Nat) w tr, Tr w tr → tr.length ≤ 5000 → k ≤ 5000 → Ext w0 w → Calls P g (#[.int .i64 (k : Int)] ++ lb) w fun e w' => e = .returned (.tuple #[]) ∧ Tr w' (tr ++ [k]) ∧ Out (NB w0 mb vr vy) w w'
end
/-- What run leaves behind. -/
def RunM (w0 : World) (mb : Nat) (E : EnvC) (vr vy : Value) (Tr : World → List Nat → Prop) (q : St × List Nat) (e : Ending) (w' : World) : Prop :=
  e = .returned (.tuple #[]) ∧ Tr w' q.2 ∧ ((q.1.dc = false ∧ MAt w0 w' mb E vr vy q.1) ∨ (q.1.dc = true ∧ MAt w0 w' mb E vr (.slice none 0 0) q.1))
end Go.Proofs.YtgmahpkhdnabjaaGreat
