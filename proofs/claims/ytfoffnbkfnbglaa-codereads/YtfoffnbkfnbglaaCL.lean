/-
  Codes as bytes: the walks of headOf, codeOf, instrOf. What the dump lacks is left out.
-/
import Derived.Test.YtfoffnbkfnbglaaCF
import Derived.Test.YtfoffnbkfnbglaaNum
import Derived.Deep.RegionHeld3
namespace Go.Proofs.Ytfoffnbkfnbglaa
open Go.RowKit
set_option linter.unusedVariables false
set_option linter.unusedSimpArgs false

theorem size7 : (Try.prog.info? 52).map (·.size) = some 7 := by kernel_rfl
theorem sizeA : (Try.prog.info? 88).map (·.size) = some 16 := by kernel_rfl
theorem sizeI1 : (Try.prog.info? 3).map (·.size) = some 1 := by kernel_rfl
/-- The numbers ahead of a code's instructions. -/
def hdA (C : Cod) (n : Nat) : Array Value := #[.int .i64 1128353872, .int .i64 C.stage, .int .i64 C.regs, .int .i64 C.attr, .int .i64 C.unif, .int .i64 C.vary, .int .i64 (n : Int)]
/-- The numbers of an instruction. -/
def nuA (I : Nat → Int) : Array Value := #[.int .i64 (I 0), .int .i64 (I 1), .int .i64 (I 2), .int .i64 (I 3), .int .i64 (I 4), .int .i64 (I 5), .int .i64 (I 6), .int .i64 (I 7), .int .i64 (I 8), .int .i64 (I 9), .int .i64 (I 10), .int .i64 (I 11), .int .i64 (I 12), .int .i64 (I 13), .int .i64 (I 14), .int .i64 (I 15)]
def OkI (I : Nat → Int) : Prop := (∀ k, k < 8 → -9223372036854775808 ≤ I k ∧ I k ≤ 9223372036854775807) ∧ (∀ k, k < 4 → -2147483648 ≤ I (8 + k) ∧ I (8 + k) ≤ 2147483647) ∧ (∀ k, k < 4 → -9223372036854775808 ≤ I (12 + k) ∧ I (12 + k) ≤ 9223372036854775807)

set_option maxRecDepth 10000 in
set_option maxHeartbeats 2000000 in
theorem headOf_any (C : Cod) (ao : Option Addr) (n cap : Nat) (w : World) : Calls Try.prog 22 #[.agg #[.int .i64 (C).stage, .slice ao n cap, .int .i64 (C).regs, .int .i64 (C).attr, .int .i64 (C).unif, .int .i64 (C).vary]] w fun e w' => e = .returned (.agg (hdA C n)) ∧ Ext w w' := by
  have HR : Hid (Blk ((w.alloc (.cells #[.int .i64 (C).stage, .slice ao n cap, .int .i64 (C).regs, .int .i64 (C).attr, .int .i64 (C).unif, .int .i64 (C).vary] 26)).alloc (.cells #[.int .i64 0, .int .i64 0, .int .i64 0, .int .i64 0, .int .i64 0, .int .i64 0, .int .i64 0] 52)) (w.heap.size + 1) #[.int .i64 0, .int .i64 0, .int .i64 0, .int .i64 0, .int .i64 0, .int .i64 0, .int .i64 0] 52) := Blk.here (by simp)
  have HX := hide (((Ext.refl w).alloc (.cells #[.int .i64 (C).stage, .slice ao n cap, .int .i64 (C).regs, .int .i64 (C).attr, .int .i64 (C).unif, .int .i64 (C).vary] 26)).alloc (.cells #[.int .i64 0, .int .i64 0, .int .i64 0, .int .i64 0, .int .i64 0, .int .i64 0, .int .i64 0] 52))
  go_enter Try.func22, Try.ntmps22
  go_wp2_with (first
    | refine wpList_buildTo rfl 52 _ rfl (some 16) rfl (hdA C n) (by kernel_rfl) ?_
    | refine wpList_store_row rfl 52 (.tmp 2) (.tmp 16) rfl (w.heap.size + 1) (hdA C n) rfl rfl 52 _ (unhide HR) size7 rfl (by simp [hdA, Value.oneCell']) ?_)
  exact bodyPost_ret (v := .agg (hdA C n)) (results_cell_row Try.results22 _ _ (w.heap.size + 1) 52 _ (0, 0) _ rfl ((unhide HR).rowC) Try.underlying52 rfl size7) rfl ⟨rfl, extRow (unhide HX) (by omega)⟩

set_option maxRecDepth 10000 in
set_option maxHeartbeats 2000000 in
theorem codeOf_any (x0 x1 x2 x3 x4 x5 x6 : Int) (w : World) : Calls Try.prog 19 #[.agg #[.int .i64 x0, .int .i64 x1, .int .i64 x2, .int .i64 x3, .int .i64 x4, .int .i64 x5, .int .i64 x6]] w fun e w' => e = .returned (.agg #[.int .i64 x1, .slice none 0 0, .int .i64 x2, .int .i64 x3, .int .i64 x4, .int .i64 x5]) ∧ Ext w w' := by
  have HR : Hid (Blk ((w.alloc (.cells #[.int .i64 x0, .int .i64 x1, .int .i64 x2, .int .i64 x3, .int .i64 x4, .int .i64 x5, .int .i64 x6] 52)).alloc (.cells #[.int .i64 0, .slice none 0 0, .int .i64 0, .int .i64 0, .int .i64 0, .int .i64 0] 26)) (w.heap.size + 1) #[.int .i64 0, .slice none 0 0, .int .i64 0, .int .i64 0, .int .i64 0, .int .i64 0] 26) := Blk.here (by simp)
  have HX := hide (((Ext.refl w).alloc (.cells #[.int .i64 x0, .int .i64 x1, .int .i64 x2, .int .i64 x3, .int .i64 x4, .int .i64 x5, .int .i64 x6] 52)).alloc (.cells #[.int .i64 0, .slice none 0 0, .int .i64 0, .int .i64 0, .int .i64 0, .int .i64 0] 26))
  go_enter Try.func19, Try.ntmps19
  go_wp2_with (first
    | refine wpList_buildTo rfl 26 _ rfl (some 13) rfl #[.int .i64 x1, .slice none 0 0, .int .i64 x2, .int .i64 x3, .int .i64 x4, .int .i64 x5] (by kernel_rfl) ?_
    | refine wpList_store_row rfl 26 (.tmp 2) (.tmp 13) rfl (w.heap.size + 1) #[.int .i64 x1, .slice none 0 0, .int .i64 x2, .int .i64 x3, .int .i64 x4, .int .i64 x5] rfl rfl 26 _ (unhide HR) size6 rfl (by simp [Value.oneCell']) ?_)
  exact bodyPost_ret (v := .agg #[.int .i64 x1, .slice none 0 0, .int .i64 x2, .int .i64 x3, .int .i64 x4, .int .i64 x5]) (results_cell_row Try.results19 _ _ (w.heap.size + 1) 26 _ (0, 0) _ rfl ((unhide HR).rowC) Try.underlying26 rfl size6) rfl ⟨rfl, extRow (unhide HX) (by omega)⟩

/-- 'copy' into a block that is known whole, as one step of a region that draws. -/
theorem step_copyC {P : Program} {ops : Array Oper} {o : Oper} {a : Act} {w : World} {K : Act → World → Prop} {Q : Exit → Act → World → Prop} {E : Prop} (hgd : o.guard = none) (d s : Operand) (dT sT : TypeId)
    (ho : o.op = .call { callee := .builtin .copy, args := #[d, s], argTypes := #[dT, sT] }) (elem : TypeId) (hu : P.underlying dT = some (.slice elem)) (hsz : (P.info? elem).map (·.size) = some 1)
    (g off dLen dCap : Nat) (ad : Addr) (sLen sCap : Nat) (hd : a.eval d = .slice (some ⟨g, off, none⟩) dLen dCap) (hs : a.eval s = .slice (some ad) sLen sCap)
    (cur : Array Value) (t : TypeId) (hg : w.heap[g]? = some (.cells cur t (0, 0))) (cs : List Value) (hn : cs.length = Nat.min sLen dLen)
    (hsrc : ∀ j v, cs[j]? = some v → w.cell? (ad.add j) = some v) (hfit : off + cs.length ≤ cur.size) (h1 : ∀ v ∈ cs, v.oneCell' = true)
    (h : K (a.put o.dst (goInt cs.length)) (w.setRow g (cur.toList.take off ++ (cs ++ cur.toList.drop (off + cs.length))).toArray)) :
    if Region.wanted o (yielded ops a.tmps) = true then Oper.wp P o a w K Q else E := by
  have hw : Region.wanted o (yielded ops a.tmps) = true := by simp [Region.wanted, hgd]
  rw [if_pos hw]
  have hrun := run_copy_row (P := P) w dT sT o.type elem g off dLen dCap ad sLen sCap cur t cs hu hsz hg hn hsrc hfit h1
  unfold Oper.wp
  simp [execOp, ho, resolve, invoke, builtin, hd, hs, hrun, Result.andThen]
  exact h

/-- The numbers of an instruction, k of Imm laid. -/
def nuK (I : Nat → Int) (k : Nat) : Array Value := #[.int .i64 (I 0), .int .i64 (I 1), .int .i64 (I 2), .int .i64 (I 3), .int .i64 (I 4), .int .i64 (I 5), .int .i64 (I 6), .int .i64 (I 7), .int .i64 (if 0 < k then I 8 else 0), .int .i64 (if 1 < k then I 9 else 0), .int .i64 (if 2 < k then I 10 else 0), .int .i64 (if 3 < k then I 11 else 0), .int .i64 0, .int .i64 0, .int .i64 0, .int .i64 0]
section
variable (p0 p1 p2 p3 : Int) (w : World)
theorem idv_0 : (Instr.index 36 (.agg #[.int .i32 p0, .int .i32 p1, .int .i32 p2, .int .i32 p3]) (.int .i64 0)).run Try.prog w = .ok (.int .i32 p0) w := by kernel_rfl
theorem idv_1 : (Instr.index 36 (.agg #[.int .i32 p0, .int .i32 p1, .int .i32 p2, .int .i32 p3]) (.int .i64 1)).run Try.prog w = .ok (.int .i32 p1) w := by kernel_rfl
theorem idv_2 : (Instr.index 36 (.agg #[.int .i32 p0, .int .i32 p1, .int .i32 p2, .int .i32 p3]) (.int .i64 2)).run Try.prog w = .ok (.int .i32 p2) w := by kernel_rfl
theorem idv_3 : (Instr.index 36 (.agg #[.int .i32 p0, .int .i32 p1, .int .i32 p2, .int .i32 p3]) (.int .i64 3)).run Try.prog w = .ok (.int .i32 p3) w := by kernel_rfl
end
theorem rng_vec {w : World} {b : Nat} {I : Nat → Int} {t : TypeId} (h : Blk w b (insA I) t) : w.rangeAt b 8 [.int .i32 (I 8), .int .i32 (I 9), .int .i32 (I 10), .int .i32 (I 11)] := by
  obtain ⟨m0, m1, m2, m3⟩ := cellM h
  intro j u hu
  have hj : j < 4 := by simpa using (List.getElem?_eq_some_iff.1 hu).1
  rcases (by omega : j = 0 ∨ j = 1 ∨ j = 2 ∨ j = 3) with rfl | rfl | rfl | rfl
  · cases hu; exact m0
  · cases hu; exact m1
  · cases hu; exact m2
  · cases hu; exact m3
/-- What stands while instrOf's last region draws. -/
def St4 (w : World) (I : Nat → Int) (wx : World) : Prop := Ext w wx ∧ Blk wx w.heap.size (insA I) 39 ∧ Blk wx (w.heap.size + 1) #[.int .i64 0, .int .i64 0, .int .i64 0, .int .i64 0, .int .i64 0, .int .i64 0, .int .i64 0, .int .i64 0, .int .i64 0, .int .i64 0, .int .i64 0, .int .i64 0, .int .i64 0, .int .i64 0, .int .i64 0, .int .i64 0] 88 ∧ ∃ r : Array Value, r.size = 16 ∧ Blk wx (w.heap.size + 1 + 1) r 88

set_option maxRecDepth 10000 in
set_option maxHeartbeats 4000000 in
theorem instrOf_any (I : Nat → Int) (w : World) (hok : OkI I) : Calls Try.prog 47 #[.agg (insA I)] w fun e w' => e = .returned (.agg (nuA I)) ∧ Ext w w' := by
  have HB := hide (Blk.new w (insA I) 39)
  have HR : Hid (Blk ((w.alloc (.cells (insA I) 39)).alloc (.cells #[.int .i64 0, .int .i64 0, .int .i64 0, .int .i64 0, .int .i64 0, .int .i64 0, .int .i64 0, .int .i64 0, .int .i64 0, .int .i64 0, .int .i64 0, .int .i64 0, .int .i64 0, .int .i64 0, .int .i64 0, .int .i64 0] 88)) (w.heap.size + 1) #[.int .i64 0, .int .i64 0, .int .i64 0, .int .i64 0, .int .i64 0, .int .i64 0, .int .i64 0, .int .i64 0, .int .i64 0, .int .i64 0, .int .i64 0, .int .i64 0, .int .i64 0, .int .i64 0, .int .i64 0, .int .i64 0] 88) := Blk.here (by simp)
  have HX := hide ((((Ext.refl w).alloc (.cells (insA I) 39)).alloc (.cells #[.int .i64 0, .int .i64 0, .int .i64 0, .int .i64 0, .int .i64 0, .int .i64 0, .int .i64 0, .int .i64 0, .int .i64 0, .int .i64 0, .int .i64 0, .int .i64 0, .int .i64 0, .int .i64 0, .int .i64 0, .int .i64 0] 88)).alloc (.cells (nuK I 0) 88))
  obtain ⟨i0, i1, i2, i3, i4, i5, i6, i7⟩ := cellJ ((unhide HB).alloc (.cells #[.int .i64 0, .int .i64 0, .int .i64 0, .int .i64 0, .int .i64 0, .int .i64 0, .int .i64 0, .int .i64 0, .int .i64 0, .int .i64 0, .int .i64 0, .int .i64 0, .int .i64 0, .int .i64 0, .int .i64 0, .int .i64 0] 88))
  have HO := hide hok
  clear hok
  go_enter Try.func47, Try.ntmps47
  go_wp2_with (first
    | refine wpList_buildTo rfl 88 _ rfl (some 22) rfl (nuK I 0) (by kernel_rfl) ?_
    | refine wpList_storeLast rfl 88 (.tmp 3) (.tmp 22) rfl _ (w.heap.size + 1 + 1) (by simp) rfl (nuK I 0) rfl 16 sizeA rfl rfl (by simp [nuK, Value.oneCell']) ?_
    | refine wpList_load_mid rfl 36 (.tmp 23) rfl w.heap.size 8 rfl [.int .i32 (I 8), .int .i32 (I 9), .int .i32 (I 10), .int .i32 (I 11)] _ (rng_vec (((unhide HB).alloc _).alloc _)) Try.underlying36 rfl sizeV ?_)
  clear i0 i1 i2 i3 i4 i5 i6 i7
  go_loopw [25] (fun iv wr => ∃ k : Nat, k ≤ 4 ∧ iv = .int .i64 (k : Int) ∧ Blk wr w.heap.size (insA I) 39 ∧ Blk wr (w.heap.size + 1) #[.int .i64 0, .int .i64 0, .int .i64 0, .int .i64 0, .int .i64 0, .int .i64 0, .int .i64 0, .int .i64 0, .int .i64 0, .int .i64 0, .int .i64 0, .int .i64 0, .int .i64 0, .int .i64 0, .int .i64 0, .int .i64 0] 88 ∧ Blk wr (w.heap.size + 1 + 1) (nuK I k) 88 ∧ Ext w wr) (fun iv _ => 4 - (intOf iv).toNat)
  case atStart => exact ⟨0, by omega, rfl, ((unhide HB).alloc _).alloc _, (unhide HR).alloc _, Blk.here (by simp), unhide HX⟩
  case round =>
    clear HB HR HX
    obtain ⟨k, hk, rfl, hb0, hb1, hb2, hx⟩ := hrel
    have D := hide (And.intro hb0 (And.intro hb1 (And.intro hb2 hx)))
    clear hb0 hb1 hb2 hx
    by_cases h4 : k = 4
    · subst h4
      have HSRC : Hid (∀ j v, [Value.int .i64 (I 12), .int .i64 (I 13), .int .i64 (I 14), .int .i64 (I 15)][j]? = some v → wr.drew.cell? ((⟨w.heap.size, 12, none⟩ : Addr).add j) = some v) := by
        obtain ⟨m0, m1, m2, m3⟩ := cellP (unhide D).1
        intro j u hu
        have hj : j < 4 := by simpa using (List.getElem?_eq_some_iff.1 hu).1
        rcases (by omega : j = 0 ∨ j = 1 ∨ j = 2 ∨ j = 3) with rfl | rfl | rfl | rfl
        · cases hu; exact m0
        · cases hu; exact m1
        · cases hu; exact m2
        · cases hu; exact m3
      have HNU : Hid (((nuK I 4).toList.take 12 ++ ([Value.int .i64 (I 12), .int .i64 (I 13), .int .i64 (I 14), .int .i64 (I 15)] ++ (nuK I 4).toList.drop (12 + [Value.int .i64 (I 12), .int .i64 (I 13), .int .i64 (I 14), .int .i64 (I 15)].length))).toArray = nuA I) := by simp [Hid, nuK, nuA]
      go_wp2
      refine wp_region_noPanic ?_
      refine wp_region_held_drew (S := fun wx => St4 w I wx) (by kernel_rfl) (⟨(unhide D).2.2.2.drew, (unhide D).1, (unhide D).2.1, _, rfl, (unhide D).2.2.1⟩) (fun HS => ?_)
      refine wpAnyH_take (i := 0) (oi := { dst := some 35, op := Op.slice _ (Operand.tmp 3) (some (Operand.const (Value.int IntKind.i64 12))) none none, type := _, pos := _, after := _, guard := none }) (v := .slice (some ⟨w.heap.size + 1 + 1, 12, none⟩) 4 4) rfl (by kernel_rfl) (by kernel_rfl) (by kernel_rfl) (fun _ _ _ h => h) (Or.inl ⟨by rfl, fun wx hx => by go_simp⟩) HS ?_
      simp only [Act.put, List.setIfInBounds_toArray, List.set_cons_zero, List.set_cons_succ]
      refine wpAnyH_take (i := 1) (oi := { dst := some 36, op := Op.fieldAddr _ (Operand.tmp 1) 9, type := _, pos := _, after := _, guard := none }) (v := .pointer (some ⟨w.heap.size, 12, none⟩)) rfl (by kernel_rfl) (by kernel_rfl) (by kernel_rfl) (fun _ _ _ h => h) (Or.inl ⟨by rfl, fun _ _ => rfl⟩) HS ?_
      simp only [Act.put, List.setIfInBounds_toArray, List.set_cons_zero, List.set_cons_succ]
      refine wpAnyH_take (i := 2) (oi := { dst := some 37, op := Op.slice _ (Operand.tmp 36) none none none, type := _, pos := _, after := _, guard := none }) (v := .slice (some ⟨w.heap.size, 12, none⟩) 4 4) rfl (by kernel_rfl) (by kernel_rfl) (by kernel_rfl) (fun _ _ _ h => h) (Or.inl ⟨by rfl, fun wx hx => by go_simp⟩) HS ?_
      simp only [Act.put, List.setIfInBounds_toArray, List.set_cons_zero, List.set_cons_succ]
      refine wpAnyH_ready (rs := [3]) (by kernel_rfl) (by simp) (AllReadyH.cons (o := { dst := some 38, op := Op.call { callee := Callee.builtin Builtin.copy, args := #[Operand.tmp 35, Operand.tmp 37], argTypes := _ }, type := _, pos := _, after := _, guard := none }) rfl (fun KK hK => ?_) AllReadyH.nil)
      have HB2 : Blk wr.drew (w.heap.size + 1 + 1) (nuK I 4) 88 := (unhide D).2.2.1
      refine step_copyC rfl (.tmp 35) (.tmp 37) 83 83 rfl 3 Try.underlying83 sizeI1 (w.heap.size + 1 + 1) 12 4 4 ⟨w.heap.size, 12, none⟩ 4 4 rfl rfl (nuK I 4) 88 HB2 [.int .i64 (I 12), .int .i64 (I 13), .int .i64 (I 14), .int .i64 (I 15)] rfl (unhide HSRC) (by simp [nuK]) (by simp [Value.oneCell']) ?_
      rw [unhide HNU]
      have HS2 : St4 w I (wr.drew.setRow (w.heap.size + 1 + 1) (nuA I)) := ⟨extRow (unhide D).2.2.2.drew (by omega), Blk.rowO (unhide D).1 (by omega), Blk.rowO (unhide D).2.1 (by omega), _, rfl, HB2.rowC⟩
      refine hK.out _ _ HS2 (fun _ => ?_)
      have HF := hide (And.intro (show Blk (wr.drew.setRow (w.heap.size + 1 + 1) (nuA I)) (w.heap.size + 1 + 1) (nuA I) 88 from HB2.rowC) (And.intro HS2.2.2.1 HS2.1))
      clear hK KK HS HS2 HB2
      generalize wr.drew.setRow (w.heap.size + 1 + 1) (nuA I) = w9 at HF ⊢
      try simp only [Act.put, List.setIfInBounds_toArray, List.set_cons_zero, List.set_cons_succ]
      refine wpAnyH_done (by kernel_rfl) ?_ _
      refine NoPanic.normal ?_
      go_wp2_with (first
        | refine wpList_load_row rfl 88 (.tmp 3) rfl (w.heap.size + 1 + 1) rfl 88 (nuA I) (0, 0) _ (unhide HF).1 Try.underlying88 rfl sizeA ?_
        | refine wpList_store_row rfl 88 (.tmp 2) (.tmp 39) rfl (w.heap.size + 1) (nuA I) rfl rfl 88 _ (unhide HF).2.1 sizeA rfl (by simp [nuA, Value.oneCell']) ?_)
      exact bodyPost_ret (v := .agg (nuA I)) (results_cell_row Try.results47 _ _ (w.heap.size + 1) 88 _ (0, 0) _ rfl ((unhide HF).2.1.rowC) Try.underlying88 rfl sizeA) rfl ⟨rfl, extRow (unhide HF).2.2 (by omega)⟩
    · have hk4 : (k : Int) < 4 := by omega
      have hf := (unhide D).2.2.1.free (8 + k)
      have HN : Hid (∀ u, Ext w (wr.setCell ⟨w.heap.size + 1 + 1, 8 + k, none⟩ u) ∧ Blk (wr.setCell ⟨w.heap.size + 1 + 1, 8 + k, none⟩ u) w.heap.size (insA I) 39 ∧ Blk (wr.setCell ⟨w.heap.size + 1 + 1, 8 + k, none⟩ u) (w.heap.size + 1) #[.int .i64 0, .int .i64 0, .int .i64 0, .int .i64 0, .int .i64 0, .int .i64 0, .int .i64 0, .int .i64 0, .int .i64 0, .int .i64 0, .int .i64 0, .int .i64 0, .int .i64 0, .int .i64 0, .int .i64 0, .int .i64 0] 88 ∧ Blk (wr.setCell ⟨w.heap.size + 1 + 1, 8 + k, none⟩ u) (w.heap.size + 1 + 1) ((nuK I k).setIfInBounds (8 + k) u) 88) := fun u => ⟨extSet (unhide D).2.2.2 (by omega), (unhide D).1.other _ _ (by omega), (unhide D).2.1.other _ _ (by omega), (unhide D).2.2.1.set _ _⟩
      rcases (by omega : k = 0 ∨ k = 1 ∨ k = 2 ∨ k = 3) with rfl | rfl | rfl | rfl
      · have hcl : wr.cell? ⟨w.heap.size + 1 + 1, 8, none⟩ = some (.int .i64 0) := (unhide D).2.2.1.cell (by simp [nuK])
        have hix := idv_0 (I 8) (I 9) (I 10) (I 11)
        have hwr : IntKind.i64.wrap (I 8) = I 8 := by
          have := (unhide HO).2.1 0 (by omega)
          simp only [Nat.reduceAdd] at this
          simp [IntKind.wrap, IntKind.bits, IntKind.signed]
          omega
        have HE : Hid ((nuK I 0).setIfInBounds (8 + 0) (.int .i64 (I 8)) = nuK I (0 + 1)) := by simp [Hid, nuK]
        simp only [Nat.reduceAdd] at hf HN HE
        go_wp2
        go_roundw
        case rel =>
          refine ⟨0 + 1, by omega, rfl, (unhide HN _).2.1, (unhide HN _).2.2.1, ?_, (unhide HN _).1⟩
          rw [← unhide HE]
          exact (unhide HN _).2.2.2
        case measure => simp [intOf]
      · have hcl : wr.cell? ⟨w.heap.size + 1 + 1, 9, none⟩ = some (.int .i64 0) := (unhide D).2.2.1.cell (by simp [nuK])
        have hix := idv_1 (I 8) (I 9) (I 10) (I 11)
        have hwr : IntKind.i64.wrap (I 9) = I 9 := by
          have := (unhide HO).2.1 1 (by omega)
          simp only [Nat.reduceAdd] at this
          simp [IntKind.wrap, IntKind.bits, IntKind.signed]
          omega
        have HE : Hid ((nuK I 1).setIfInBounds (8 + 1) (.int .i64 (I 9)) = nuK I (1 + 1)) := by simp [Hid, nuK]
        simp only [Nat.reduceAdd] at hf HN HE
        go_wp2
        go_roundw
        case rel =>
          refine ⟨1 + 1, by omega, rfl, (unhide HN _).2.1, (unhide HN _).2.2.1, ?_, (unhide HN _).1⟩
          rw [← unhide HE]
          exact (unhide HN _).2.2.2
        case measure => simp [intOf]
      · have hcl : wr.cell? ⟨w.heap.size + 1 + 1, 10, none⟩ = some (.int .i64 0) := (unhide D).2.2.1.cell (by simp [nuK])
        have hix := idv_2 (I 8) (I 9) (I 10) (I 11)
        have hwr : IntKind.i64.wrap (I 10) = I 10 := by
          have := (unhide HO).2.1 2 (by omega)
          simp only [Nat.reduceAdd] at this
          simp [IntKind.wrap, IntKind.bits, IntKind.signed]
          omega
        have HE : Hid ((nuK I 2).setIfInBounds (8 + 2) (.int .i64 (I 10)) = nuK I (2 + 1)) := by simp [Hid, nuK]
        simp only [Nat.reduceAdd] at hf HN HE
        go_wp2
        go_roundw
        case rel =>
          refine ⟨2 + 1, by omega, rfl, (unhide HN _).2.1, (unhide HN _).2.2.1, ?_, (unhide HN _).1⟩
          rw [← unhide HE]
          exact (unhide HN _).2.2.2
        case measure => simp [intOf]
      · have hcl : wr.cell? ⟨w.heap.size + 1 + 1, 11, none⟩ = some (.int .i64 0) := (unhide D).2.2.1.cell (by simp [nuK])
        have hix := idv_3 (I 8) (I 9) (I 10) (I 11)
        have hwr : IntKind.i64.wrap (I 11) = I 11 := by
          have := (unhide HO).2.1 3 (by omega)
          simp only [Nat.reduceAdd] at this
          simp [IntKind.wrap, IntKind.bits, IntKind.signed]
          omega
        have HE : Hid ((nuK I 3).setIfInBounds (8 + 3) (.int .i64 (I 11)) = nuK I (3 + 1)) := by simp [Hid, nuK]
        simp only [Nat.reduceAdd] at hf HN HE
        go_wp2
        go_roundw
        case rel =>
          refine ⟨3 + 1, by omega, rfl, (unhide HN _).2.1, (unhide HN _).2.2.1, ?_, (unhide HN _).1⟩
          rw [← unhide HE]
          exact (unhide HN _).2.2.2
        case measure => simp [intOf]
end Go.Proofs.Ytfoffnbkfnbglaa
