/- Several texts in one. -/
import Derived.Test.YtepefddgheimkaaGreatTB
import Derived.Laws.CopyOwn
import Derived.Deep.MidRow
import Derived.Deep.WholeRow
import Derived.Great.BuildSlice
import Derived.Test.YtepefddgheimkaaGreatRows
import Derived.Test.YtepefddgheimkaaGreatLem
import Derived.ProofKit
import Derived.OpenShut
import Derived.SizedLaws
import Derived.JoinedCond
import Derived.Deep.CondSized
import Derived.HandedShaped
import Derived.Test.YtepefddgheimkaaGreatTKcJ
import Derived.ChangeMaps5
/-
  The document's words.
-/
namespace Go.Proofs.YtepefddgheimkaaGreat
open Go.RowKit
set_option linter.unusedVariables false
set_option linter.unusedSimpArgs false

def docW : List Byts8 := [[97, 116, 116, 114, 105, 98, 117, 116, 101], [117, 110, 105, 102, 111, 114, 109], [118, 97, 114, 121, 105, 110, 103], [99, 111, 110, 115, 116], [105, 102], [101, 108, 115, 101], [102, 111, 114], [114, 101, 116, 117, 114, 110], [100, 105, 115, 99, 97, 114, 100], [116, 114, 117, 101], [102, 97, 108, 115, 101], [119, 104, 105, 108, 101], [100, 111], [98, 114, 101, 97, 107], [99, 111, 110, 116, 105, 110, 117, 101], [105, 110], [111, 117, 116], [105, 110, 111, 117, 116], [115, 116, 114, 117, 99, 116], [112, 114, 101, 99, 105, 115, 105, 111, 110]]
def txts (l : List Byts8) : Array Value := (l.map (fun t => Value.string ⟨t.toArray⟩)).toArray
def empt (n : Nat) : Array Value := (List.replicate n (Value.string ⟨#[]⟩)).toArray
theorem size14 : (Tryz.prog.info? 53).map (·.size) = some 14 := by kernel_rfl
theorem size20 : (Tryz.prog.info? 54).map (·.size) = some 20 := by kernel_rfl
theorem runZero {P : Program} {t : TypeId} {z : Value} (h : (P.info? t).map (·.zero) = some (some z)) (w : World) : (zeroValue t).run P w = .ok z w := by
  cases hq : P.info? t with
  | none => simp [hq] at h
  | some i =>
    have hz : i.zero = some z := by simpa [hq] using h
    simp [zeroValue, typeInfo, hq, hz]
theorem zero14 : ∀ w, (zeroValue 53).run Tryz.prog w = .ok (.agg (empt 14)) w := runZero (by kernel_rfl)
theorem zero20 : ∀ w, (zeroValue 54).run Tryz.prog w = .ok (.agg (empt 20)) w := runZero (by kernel_rfl)
theorem txts_one (l : List Byts8) : (txts l).all (·.oneCell') = true := by
  rw [Array.all_eq_true_iff_forall_mem]
  intro v hv
  unfold txts at hv
  simp only [List.mem_toArray, List.mem_map] at hv
  obtain ⟨t, _, rfl⟩ := hv
  rfl
theorem results_two {P : Program} {fn : Func} {p q : Tmp} {ty tz : TypeId} (h : fn.results = #[.cell p ty, .cell q tz]) (tmps : Array Value) (w : World) (g g2 : Nat)
    (hp : tmps.getD p undef = .pointer (some ⟨g, 0, none⟩)) (hq : tmps.getD q undef = .pointer (some ⟨g2, 0, none⟩)) {v v2 : Value} (l0 : (loadVar ty ⟨g, 0, none⟩).run P w = .ok v w) (l1 : (loadVar tz ⟨g2, 0, none⟩).run P w = .ok v2 w) :
    (results fn tmps).run P w = .ok (.tuple #[v, v2]) w := by
  have hp' : tmps[p]?.getD undef = .pointer (some ⟨g, 0, none⟩) := by simpa using hp
  have hq' : tmps[q]?.getD undef = .pointer (some ⟨g2, 0, none⟩) := by simpa using hq
  simp [results, h, hp', hq', asAddr, l0, l1]
/-- Two blocks made, and a row laid into each. -/
theorem lay2 (w : World) (E F A B : Array Value) (s t : TypeId) :
    Blk ((w.alloc (.cells E s)).alloc (.cells F t)) w.heap.size E s ∧ Blk (((w.alloc (.cells E s)).alloc (.cells F t)).setRow w.heap.size A) (w.heap.size + 1) F t ∧
    Blk ((((w.alloc (.cells E s)).alloc (.cells F t)).setRow w.heap.size A).setRow (w.heap.size + 1) B) w.heap.size A s ∧
    Blk ((((w.alloc (.cells E s)).alloc (.cells F t)).setRow w.heap.size A).setRow (w.heap.size + 1) B) (w.heap.size + 1) B t ∧
    Ext w ((((w.alloc (.cells E s)).alloc (.cells F t)).setRow w.heap.size A).setRow (w.heap.size + 1) B) := by
  have hx2 := ((Ext.refl w).alloc (.cells E s)).alloc (.cells F t)
  have b0 : Blk ((w.alloc (.cells E s)).alloc (.cells F t)) w.heap.size E s := (Blk.new w E s).ext ((Ext.refl _).alloc _)
  have b1 : Blk ((w.alloc (.cells E s)).alloc (.cells F t)) (w.heap.size + 1) F t := by
    have := Blk.new (w.alloc (.cells E s)) F t
    simpa using this
  have b3 : Blk (((w.alloc (.cells E s)).alloc (.cells F t)).setRow w.heap.size A) w.heap.size A s := setRow_heap _ _ _ _ _ (0, 0) b0
  have b4 : Blk (((w.alloc (.cells E s)).alloc (.cells F t)).setRow w.heap.size A) (w.heap.size + 1) F t := (setRow_other _ _ _ _ (by omega)).trans b1
  exact ⟨b0, b4, (setRow_other _ _ _ _ (by omega)).trans b3, setRow_heap _ _ _ _ _ (0, 0) b4, below_setRow (below_setRow hx2 (Nat.le_refl _) _) (by omega) _⟩
set_option maxHeartbeats 4000000 in
set_option maxRecDepth 100000 in
theorem words_any (w : World) : Calls Tryz.prog 27 #[] w fun e w' => e = .returned (.tuple #[.agg (txts typesW), .agg (txts docW)]) ∧ Ext w w' := by
  have hz1 := zero14
  have hz2 := zero20
  obtain ⟨E14, hE14⟩ : ∃ x, x = empt 14 := ⟨_, rfl⟩
  obtain ⟨E20, hE20⟩ : ∃ x, x = empt 20 := ⟨_, rfl⟩
  rw [← hE14] at hz1
  rw [← hE20] at hz2
  have HS14 : Hid (E14.size = 14) := by show E14.size = 14; rw [hE14]; rfl
  have HS20 : Hid (E20.size = 20) := by show E20.size = 20; rw [hE20]; rfl
  clear hE14 hE20
  have hx1 : Ext w (w.alloc (.cells E14 53)) := (Ext.refl w).alloc _
  have hx2 := hx1.alloc (.cells E20 54)
  have b0 : Blk ((w.alloc (.cells E14 53)).alloc (.cells E20 54)) w.heap.size E14 53 := (Blk.new w E14 53).ext ((Ext.refl _).alloc _)
  have b1 : Blk ((w.alloc (.cells E14 53)).alloc (.cells E20 54)) (w.heap.size + 1) E20 54 := by
    have := Blk.new (w.alloc (.cells E14 53)) E20 54
    simpa using this
  have HB0 := hide b0
  have b3 : Blk (((w.alloc (.cells E14 53)).alloc (.cells E20 54)).setRow w.heap.size (txts typesW)) w.heap.size (txts typesW) 53 := setRow_heap _ _ _ _ _ (0, 0) b0
  have b4 : Blk (((w.alloc (.cells E14 53)).alloc (.cells E20 54)).setRow w.heap.size (txts typesW)) (w.heap.size + 1) E20 54 := (setRow_other _ _ _ _ (by omega)).trans b1
  have HB4 := hide b4
  have HF0 : Hid (Blk ((((w.alloc (.cells E14 53)).alloc (.cells E20 54)).setRow w.heap.size (txts typesW)).setRow (w.heap.size + 1) (txts docW)) w.heap.size (txts typesW) 53) := (setRow_other _ _ _ _ (by omega)).trans b3
  have HF1 : Hid (Blk ((((w.alloc (.cells E14 53)).alloc (.cells E20 54)).setRow w.heap.size (txts typesW)).setRow (w.heap.size + 1) (txts docW)) (w.heap.size + 1) (txts docW) 54) := setRow_heap _ _ _ _ _ (0, 0) b4
  have HX : Hid (Ext w ((((w.alloc (.cells E14 53)).alloc (.cells E20 54)).setRow w.heap.size (txts typesW)).setRow (w.heap.size + 1) (txts docW))) := below_setRow (below_setRow hx2 (Nat.le_refl _) _) (by omega) _
  clear b0 b1 b3 b4 hx1 hx2
  go_enter Tryz.func27, Tryz.ntmps27
  go_wp2_with (first
    | refine wpList_buildTo rfl 53 _ rfl (some 2) rfl (txts typesW) (by kernel_rfl) ?_
    | refine wpList_buildTo rfl 54 _ rfl (some 3) rfl (txts docW) (by kernel_rfl) ?_
    | refine wpList_store_row rfl 53 (.tmp 0) (.tmp 2) rfl w.heap.size (txts typesW) rfl rfl 53 E14 (unhide HB0) size14 (unhide HS14) (txts_one _) ?_
    | refine wpList_store_row rfl 54 (.tmp 1) (.tmp 3) rfl (w.heap.size + 1) (txts docW) rfl rfl 54 E20 (unhide HB4) size20 (unhide HS20) (txts_one _) ?_)
  have l0 := run_loadVar_row (P := Tryz.prog) _ w.heap.size 53 53 (txts typesW) (0, 0) _ (unhide HF0) Tryz.underlying53 rfl size14
  have l1 := run_loadVar_row (P := Tryz.prog) _ (w.heap.size + 1) 54 54 (txts docW) (0, 0) _ (unhide HF1) Tryz.underlying54 rfl size20
  exact bodyPost_ret (v := .tuple #[.agg (txts typesW), .agg (txts docW)]) (results_two Tryz.results27 _ _ w.heap.size (w.heap.size + 1) rfl rfl l0 l1) rfl ⟨rfl, unhide HX⟩
theorem txts_get (l : List Byts8) (k : Nat) (h : k < l.length) : (txts l)[k]? = some (.string ⟨l[k].toArray⟩) := by
  unfold txts
  rw [List.getElem?_toArray, List.getElem?_map, List.getElem?_eq_getElem h]
  rfl
theorem txts_size (l : List Byts8) : (txts l).size = l.length := by simp [txts]
theorem ty_at (w : World) : ∀ (k : Nat) (hk : k < 14), (Instr.index 53 (.agg (txts typesW)) (.int .i64 (k : Int))).run Tryz.prog w = .ok (.string ⟨(typesW.getD k []).toArray⟩) w
  | 0, _ => by kernel_rfl
  | 1, _ => by kernel_rfl
  | 2, _ => by kernel_rfl
  | 3, _ => by kernel_rfl
  | 4, _ => by kernel_rfl
  | 5, _ => by kernel_rfl
  | 6, _ => by kernel_rfl
  | 7, _ => by kernel_rfl
  | 8, _ => by kernel_rfl
  | 9, _ => by kernel_rfl
  | 10, _ => by kernel_rfl
  | 11, _ => by kernel_rfl
  | 12, _ => by kernel_rfl
  | 13, _ => by kernel_rfl
  | k + 14, h => by omega
theorem do_at (w : World) : ∀ (k : Nat) (hk : k < 20), (Instr.index 54 (.agg (txts docW)) (.int .i64 (k : Int))).run Tryz.prog w = .ok (.string ⟨(docW.getD k []).toArray⟩) w
  | 0, _ => by kernel_rfl
  | 1, _ => by kernel_rfl
  | 2, _ => by kernel_rfl
  | 3, _ => by kernel_rfl
  | 4, _ => by kernel_rfl
  | 5, _ => by kernel_rfl
  | 6, _ => by kernel_rfl
  | 7, _ => by kernel_rfl
  | 8, _ => by kernel_rfl
  | 9, _ => by kernel_rfl
  | 10, _ => by kernel_rfl
  | 11, _ => by kernel_rfl
  | 12, _ => by kernel_rfl
  | 13, _ => by kernel_rfl
  | 14, _ => by kernel_rfl
  | 15, _ => by kernel_rfl
  | 16, _ => by kernel_rfl
  | 17, _ => by kernel_rfl
  | 18, _ => by kernel_rfl
  | 19, _ => by kernel_rfl
  | k + 20, h => by omega
set_option maxHeartbeats 4000000 in
set_option maxRecDepth 100000 in
theorem refType_any (t : Byts8) (w : World) : Calls Tryz.prog 11 #[.string ⟨t.toArray⟩] w fun e w' => e = .returned (.bool (isTypeW t)) ∧ Ext w w' := by
  have hz1 := zero14
  have hz2 := zero20
  obtain ⟨E14, hE14⟩ : ∃ x, x = empt 14 := ⟨_, rfl⟩
  obtain ⟨E20, hE20⟩ : ∃ x, x = empt 20 := ⟨_, rfl⟩
  rw [← hE14] at hz1
  rw [← hE20] at hz2
  have HS14 : Hid (E14.size = 14) := by show E14.size = 14; rw [hE14]; rfl
  have HS20 : Hid (E20.size = 20) := by show E20.size = 20; rw [hE20]; rfl
  clear hE14 hE20
  have HW := hide (words_any w)
  have HTL : Hid (typesW.length = 14) := rfl
  have hls := txts_size typesW
  rw [unhide HTL] at hls
  have HGET := hide (fun w => ty_at w)
  have HS14t := hide size14
  have HONE := hide (txts_one typesW)
  have hty : isTypeW t = typesW.contains t := rfl
  obtain ⟨R, hR⟩ : ∃ R, isTypeW t = R := ⟨_, rfl⟩
  rw [hR]
  rw [hty] at hR
  clear hty
  rw [show (14 : Nat) = (txts typesW).size from hls.symm] at HS14t
  generalize hTX : txts typesW = TX at *
  generalize typesW = TL at *
  clear hTX
  have HR := hide hR
  clear hR
  go_enter Tryz.func11, Tryz.ntmps11
  go_wp2_with fail
  refine (unhide HW).mono ?_
  rintro e w1 ⟨rfl, hx1⟩
  obtain ⟨b0, b4, f0, f1, hx2⟩ := lay2 w1 E14 E20 TX (txts docW) 53 54
  have HB0 := hide b0; have HB4 := hide b4; have HF0 := hide f0
  have HX := hide (hx1.trans hx2)
  have HONE2 := hide (txts_one docW)
  have HS20t := hide size20
  rw [show (20 : Nat) = (txts docW).size from rfl] at HS20t
  have HDS : Hid ((txts docW).size = 20) := rfl
  generalize txts docW = DX at *
  clear b0 b4 f0 f1 hx1 hx2 HW
  go_wp2_with (first
    | refine wpList_store_row rfl 53 (.tmp 3) (.tmp 9) rfl w1.heap.size TX rfl rfl 53 E14 (unhide HB0) (unhide HS14t) (by rw [unhide HS14, hls]) (unhide HONE) ?_
    | refine wpList_store_row rfl 54 (.tmp 4) (.tmp 10) rfl (w1.heap.size + 1) DX rfl rfl 54 E20 (unhide HB4) (unhide HS20t) (by rw [unhide HS20, unhide HDS]) (unhide HONE2) ?_
    | refine wpList_load_row rfl 53 (.tmp 3) rfl w1.heap.size rfl 53 TX (0, 0) _ (unhide HF0) Tryz.underlying53 rfl (unhide HS14t) ?_)
  generalize ((((w1.alloc (.cells E14 53)).alloc (.cells E20 54)).setRow w1.heap.size TX).setRow (w1.heap.size + 1) DX) = w2 at *
  generalize w1.heap.size = g1 at *
  clear HB0 HB4 HF0 HONE HONE2 HS14t HS20t HDS HS14 HS20 hz1 hz2
  go_loop [12] (fun iv => ∃ k : Nat, k ≤ 14 ∧ iv = .int .i64 k ∧ (TL.drop k).contains t = R) (fun iv => 14 - (intOf iv).toNat)
  case atStart => exact ⟨0, by omega, rfl, unhide HR⟩
  case round =>
    obtain ⟨k, hk, rfl, hc⟩ := hrel
    clear HR
    by_cases hlt : k < 14
    · have hk2 : k < TL.length := by rw [unhide HTL]; exact hlt
      have hg := fun w => unhide HGET w k hlt
      rw [show TL.getD k [] = TL[k] by simp [hk2]] at hg
      rw [List.drop_eq_getElem_cons hk2, List.contains_cons] at hc
      obtain ⟨x, hx⟩ : ∃ x, x = TL[k] := ⟨_, rfl⟩
      rw [← hx] at hg hc
      have HC := hide hc
      clear hc hx
      by_cases he : t = x
      · have q : (t == x) = true := by rw [he]; simp
        rw [q] at HC
        have hr : R = true := (unhide HC).symm
        subst he hr
        clear HC
        have q2 : (t == t) = true := by simp
        go_wp2
        go_ret
        exact ⟨rfl, unhide HX⟩
      · have q : (x == t) = false := beq_eq_false_iff_ne.2 (Ne.symm he)
        have q3 : (t == x) = false := beq_eq_false_iff_ne.2 he
        rw [q3, Bool.false_or] at HC
        clear he
        go_wp2
        refine ⟨⟨k + 1, by omega, rfl, unhide HC⟩, ?_⟩
        simp [intOf]
        omega
    · have hr : R = false := by rw [← hc, List.drop_of_length_le (by rw [unhide HTL]; omega)]; rfl
      subst hr
      clear hc
      go_wp2
      go_ret
      exact ⟨rfl, unhide HX⟩
end Go.Proofs.YtepefddgheimkaaGreat

/-
  The document's reserved words.
-/
namespace Go.Proofs.YtepefddgheimkaaGreat
open Go.RowKit
set_option linter.unusedVariables false
set_option linter.unusedSimpArgs false

theorem res_split (t : Byts8) : isResW t = (docW.contains t || (isTypeW t || (t == [108, 111, 119, 112] || (t == [109, 101, 100, 105, 117, 109, 112] || t == [104, 105, 103, 104, 112])))) := by
  unfold isResW
  rw [show resW = docW ++ [[108, 111, 119, 112], [109, 101, 100, 105, 117, 109, 112], [104, 105, 103, 104, 112]] from rfl]
  generalize isTypeW t = b
  have h : (docW ++ [[108, 111, 119, 112], [109, 101, 100, 105, 117, 109, 112], [104, 105, 103, 104, 112]]).contains t = (docW.contains t || (t == [108, 111, 119, 112] || (t == [109, 101, 100, 105, 117, 109, 112] || t == [104, 105, 103, 104, 112]))) := by
    rw [Bool.eq_iff_iff]
    simp only [List.contains_iff_mem, List.mem_append, List.mem_cons, List.not_mem_nil, or_false, Bool.or_eq_true, beq_iff_eq]
  rw [h]
  cases b <;> simp
set_option maxHeartbeats 4000000 in
set_option maxRecDepth 100000 in
theorem refRes_any (t : Byts8) (w : World) : Calls Tryz.prog 13 #[.string ⟨t.toArray⟩] w fun e w' => e = .returned (.bool (isResW t)) ∧ Ext w w' := by
  have hz1 := zero14
  have hz2 := zero20
  obtain ⟨E14, hE14⟩ : ∃ x, x = empt 14 := ⟨_, rfl⟩
  obtain ⟨E20, hE20⟩ : ∃ x, x = empt 20 := ⟨_, rfl⟩
  rw [← hE14] at hz1
  rw [← hE20] at hz2
  have HS14 : Hid (E14.size = 14) := by show E14.size = 14; rw [hE14]; rfl
  have HS20 : Hid (E20.size = 20) := by show E20.size = 20; rw [hE20]; rfl
  clear hE14 hE20
  have HW := hide (words_any w)
  have HTL : Hid (docW.length = 20) := rfl
  have hls := txts_size docW
  rw [unhide HTL] at hls
  have HGET := hide (fun w => do_at w)
  have HS20t := hide size20
  have HONE2 := hide (txts_one docW)
  have HRT := hide (fun w => refType_any t w)
  obtain ⟨R, hR⟩ : ∃ R, isResW t = R := ⟨_, rfl⟩
  rw [hR]
  rw [res_split] at hR
  have HR := hide hR
  clear hR
  rw [show (20 : Nat) = (txts docW).size from hls.symm] at HS20t
  generalize hTX : txts docW = DX at *
  generalize docW = DL at *
  clear hTX
  go_enter Tryz.func13, Tryz.ntmps13
  go_wp2_with fail
  refine (unhide HW).mono ?_
  rintro e w1 ⟨rfl, hx1⟩
  obtain ⟨b0, b4, f0, f1, hx2⟩ := lay2 w1 E14 E20 (txts typesW) DX 53 54
  have HB0 := hide b0; have HB4 := hide b4; have HF1 := hide f1
  have HX := hide (hx1.trans hx2)
  have HONE := hide (txts_one typesW)
  have HS14t := hide size14
  rw [show (14 : Nat) = (txts typesW).size from rfl] at HS14t
  have HDS : Hid ((txts typesW).size = 14) := rfl
  generalize txts typesW = TX at *
  clear b0 b4 f0 f1 hx1 hx2 HW
  go_wp2_with (first
    | refine wpList_store_row rfl 53 (.tmp 3) (.tmp 9) rfl w1.heap.size TX rfl rfl 53 E14 (unhide HB0) (unhide HS14t) (by rw [unhide HS14, unhide HDS]) (unhide HONE) ?_
    | refine wpList_store_row rfl 54 (.tmp 4) (.tmp 10) rfl (w1.heap.size + 1) DX rfl rfl 54 E20 (unhide HB4) (unhide HS20t) (by rw [unhide HS20, hls]) (unhide HONE2) ?_
    | refine wpList_load_row rfl 54 (.tmp 4) rfl (w1.heap.size + 1) rfl 54 DX (0, 0) _ (unhide HF1) Tryz.underlying54 rfl (unhide HS20t) ?_)
  generalize ((((w1.alloc (.cells E14 53)).alloc (.cells E20 54)).setRow w1.heap.size TX).setRow (w1.heap.size + 1) DX) = w2 at *
  generalize w1.heap.size = g1 at *
  clear HB0 HB4 HF1 HONE HONE2 HS14t HS20t HDS HS14 HS20 hz1 hz2
  go_loop [12] (fun iv => ∃ k : Nat, k ≤ 20 ∧ iv = .int .i64 k ∧ (DL.drop k).contains t = DL.contains t) (fun iv => 20 - (intOf iv).toNat)
  case atStart => exact ⟨0, by omega, rfl, rfl⟩
  case round =>
    obtain ⟨k, hk, rfl, hc⟩ := hrel
    by_cases hlt : k < 20
    · have hk2 : k < DL.length := by rw [unhide HTL]; exact hlt
      have hg := fun w => unhide HGET w k hlt
      rw [show DL.getD k [] = DL[k] by simp [hk2]] at hg
      rw [List.drop_eq_getElem_cons hk2, List.contains_cons] at hc
      obtain ⟨x, hx⟩ : ∃ x, x = DL[k] := ⟨_, rfl⟩
      rw [← hx] at hg hc
      have HC := hide hc
      clear hc hx
      by_cases he : t = x
      · have q : (t == x) = true := by rw [he]; simp
        rw [q] at HC
        have hr : R = true := by
          rw [← unhide HR, ← unhide HC]
          simp
        subst he hr
        clear HC
        have q2 : (t == t) = true := by simp
        go_wp2
        go_ret
        exact ⟨rfl, unhide HX⟩
      · have q : (x == t) = false := beq_eq_false_iff_ne.2 (Ne.symm he)
        have q3 : (t == x) = false := beq_eq_false_iff_ne.2 he
        rw [q3, Bool.false_or] at HC
        clear he
        go_wp2
        refine ⟨⟨k + 1, by omega, rfl, unhide HC⟩, ?_⟩
        simp [intOf]
        omega
    · have hr : DL.contains t = false := by rw [← hc, List.drop_of_length_le (by rw [unhide HTL]; omega)]; rfl
      have hR := unhide HR
      rw [hr, Bool.false_or] at hR
      have HQ := hide (unhide HRT w2)
      clear hc hr HR HRT HGET
      obtain ⟨b, hb⟩ : ∃ b, isTypeW t = b := ⟨_, rfl⟩
      rw [hb] at HQ hR
      clear hb
      cases b with
      | true =>
        have hR2 : R = true := by rw [← hR]; rfl
        subst hR2
        clear hR
        go_wp2_with fail
        refine (unhide HQ).mono ?_
        rintro e w3 ⟨rfl, hx3⟩
        have HX3 := hide ((unhide HX).trans hx3)
        clear hx3
        go_wp2
        go_ret
        exact ⟨rfl, unhide HX3⟩
      | false =>
        rw [Bool.false_or] at hR
        by_cases e1 : t = [108, 111, 119, 112]
        · subst e1
          have hR2 : R = true := by rw [← hR]; rfl
          subst hR2
          clear hR
          go_wp2_with fail
          refine (unhide HQ).mono ?_
          rintro e w3 ⟨rfl, hx3⟩
          have HX3 := hide ((unhide HX).trans hx3)
          clear hx3
          go_wp2
          go_ret
          exact ⟨rfl, unhide HX3⟩
        · have q1 : (t == [108, 111, 119, 112]) = false := beq_eq_false_iff_ne.2 e1
          rw [q1, Bool.false_or] at hR
          by_cases e2 : t = [109, 101, 100, 105, 117, 109, 112]
          · subst e2
            have hR2 : R = true := by rw [← hR]; rfl
            subst hR2
            clear hR e1
            go_wp2_with fail
            refine (unhide HQ).mono ?_
            rintro e w3 ⟨rfl, hx3⟩
            have HX3 := hide ((unhide HX).trans hx3)
            clear hx3
            go_wp2
            go_ret
            exact ⟨rfl, unhide HX3⟩
          · have q2 : (t == [109, 101, 100, 105, 117, 109, 112]) = false := beq_eq_false_iff_ne.2 e2
            rw [q2, Bool.false_or] at hR
            clear e1 e2
            by_cases e3 : t = [104, 105, 103, 104, 112]
            · subst e3
              have hR2 : R = true := by rw [← hR]; rfl
              subst hR2
              clear hR
              go_wp2_with fail
              refine (unhide HQ).mono ?_
              rintro e w3 ⟨rfl, hx3⟩
              have HX3 := hide ((unhide HX).trans hx3)
              clear hx3
              go_wp2
              go_ret
              exact ⟨rfl, unhide HX3⟩
            · have q3 : (t == [104, 105, 103, 104, 112]) = false := beq_eq_false_iff_ne.2 e3
              rw [q3] at hR
              subst hR
              clear e3
              go_wp2_with fail
              refine (unhide HQ).mono ?_
              rintro e w3 ⟨rfl, hx3⟩
              have HX3 := hide ((unhide HX).trans hx3)
              clear hx3
              go_wp2
              go_ret
              exact ⟨rfl, unhide HX3⟩
end Go.Proofs.YtepefddgheimkaaGreat

/-
  The step from a walk to a given statement, for every law of this seat: what comes in is opened, and behind the call it reads as it did, since nothing that was there has turned.
-/
namespace Go.Proofs.YtepefddgheimkaaGreat
open Go.ChangeShapes Go.WideShapes Go.ChangeAt Go.RowKit

theorem own : ownKnob Tryz.prog.godebug = none := by kernel_rfl
theorem laidOut : laidOutB Tryz.prog = true := by kernel_rfl

section
variable {H : Type} {enc : TypeId × Value → H}

theorem trod_lt_all {P : Program} {W : World} {t : TypeId} {v : Value} {d : DataW H} {p : List MemPlace} (h : DataW.Trod enc P W 0 (fun _ => true) true t v d p) : ∀ x ∈ p, x.block < W.heap.size := by
  obtain ⟨m, hm⟩ := h
  exact DataW.trod_lt m _ _ _ hm

/-- Behind a call that turns nothing that was there all arguments read as they did. -/
theorem same_all {P : Program} (hl : laidOutB P = true) {W W' : World} (hb : Below W.heap.size W W') : ∀ (ts : List TypeId) (vs : List Value) (ds : List (DataW H)) (ps : List MemPlace),
    (ts.all fun t => P.readableRec t && decide (t < P.types.size)) = true → DataW.TrodAll enc P W 0 (fun _ => true) true ts vs ds ps → DataW.TrodAll enc P W' 0 (fun b => decide (b < W.heap.size)) true ts vs ds ps := by
  intro ts
  induction ts with
  | nil =>
    intro vs ds ps _ h
    obtain ⟨rfl, rfl, rfl⟩ := trodAll_nil h
    exact trodAll_mk0
  | cons t ts ih =>
    intro vs ds ps ht h
    obtain ⟨v, vs', d, ds', p, q, rfl, rfl, rfl, h1, h2⟩ := trodAll_cons h
    simp only [List.all_cons, Bool.and_eq_true, decide_eq_true_eq] at ht
    exact trodAll_cons_mk (Below.trod hl ht.1.1 ht.1.2 h1 hb (trod_lt_all h1)) (ih vs' ds' q ht.2 h2)

/-- 'true, and the input reads as it did', out of a walk that turns nothing that was there. -/
theorem post_true {P : Program} (hl : laidOutB P = true) {s : ChangeSpec} {fn : Func} {T : TypeId} {W W' : World} {args : Array Value} {ds gs : List (DataW H)} {before : List MemPlace} (hres : fn.resultTypes = #[T]) (hT : P.underlying T = some .bool) (hvars : s.vars = [])
    (hread : (fn.params.toList.all fun t => P.readableRec t && decide (t < P.types.size)) = true)
    (hW : DataW.Whole enc P fn.params.toList s.vars false W args.toList ds gs before) (hfn : (s.fn H ds).results = [.lit (.bool true)] ∧ (s.fn H ds).args = ds ∧ (s.fn H ds).vars = [])
    (hb : Below W.heap.size W W') : s.post enc P fn false true false false W args (.bool true) W' := by
  have hW0 := hW
  obtain ⟨p, q, hA, hV, rfl, _, _⟩ := hW
  rw [hvars] at hV
  obtain ⟨rfl, rfl⟩ := trodVars_none hV
  obtain ⟨h1, h2, h3⟩ := hfn
  refine ⟨ds, [], _, [], p, [], hW0, ?_, ?_, ?_, hb.frame _, fun h => by cases h⟩
  · rw [List.append_nil, h1, hres]
    exact trodAll_mk1 (shut_bool hT _)
  · rw [List.append_nil, h2]
    exact same_all hl hb _ _ _ _ hread hA
  · rw [List.append_nil, h3, hvars]
    exact rfl

/-- A slice of integers that came in: its numbers, that each fits its kind, how many bytes they take. -/
theorem open_row {P : Program} {W : World} {base : Nat} {t e : TypeId} {k : IntKind} {v : Value} {d : DataW H} {p : List MemPlace} {ts : List TypeId} {ds : List (DataW H)} {j : Nat} (ht : P.underlying t = some (.slice e)) (he : P.underlying e = some (.int k)) (hc : P.cellsOf e = 1)
    (hv : Value.okWide P W .any base t v) (h : DataW.Trod enc P W 0 (fun _ => true) true t v d p) (hsz : (DataW.weightsEach P ts ds).all (· ≤ reachBytes) = true) (hj : ts[j]? = some t) (hd : ds[j]? = some d) :
    ∃ xs : List Int, Row k W v xs ∧ (∀ x ∈ xs, (Lit.int k x).wf = true) ∧ xs.length * P.bytesOf e ≤ 140737488351232 := by
  obtain ⟨a, len, cap, rfl⟩ := okWide_slice ht hv
  obtain ⟨fuel, hf⟩ := h
  rcases open_ints ht he hc hf with ⟨hcs, _⟩ | ⟨x, l, c, zs, hcs, _, hl, hm, hz, hx, hcell, hwz⟩
  · simp [Value.cells] at hcs
    obtain ⟨rfl, rfl, rfl⟩ := hcs
    exact ⟨[], Row.nil _ _, by simp, by simp⟩
  · simp [Value.cells] at hcs
    obtain ⟨rfl, rfl, rfl⟩ := hcs
    simp only [if_true] at hz
    have hlen : (zs.take len).length = len := by simp; omega
    refine ⟨zs.take len, ?_, fun n hn => hwz n (List.mem_of_mem_take hn), ?_⟩
    · by_cases h0 : len = 0
      · subst h0
        exact .inl ⟨by simp, some x, cap, rfl, (fun h => by cases h), hm⟩
      · obtain ⟨b, off, spot⟩ := x
        have hc0 := hcell 0 (by omega)
        have hspot : spot = none := by simpa [Addr.add] using World.cell?_spot hc0
        subst hspot
        refine .inr ⟨?_, b, off, cap, by rw [hlen], by rw [hlen]; exact hl, hm, fun i hi => ?_⟩
        · intro h
          rw [h] at hlen
          exact h0 (by simpa using hlen.symm)
        · rw [hlen] at hi
          have hci := hcell i (by omega)
          rw [Addr.add_lit] at hci
          rw [hci]
          have e2 : (zs.take len).getD i 0 = zs.getD i 0 := by simp [List.getD, hi]
          rw [e2]
    · have hw := sized_slice hsz hj (by rw [hd, (Prod.mk.inj hx).1]) ht
      simp only [lits, List.length_map, reachBytes] at hw
      rw [hlen] at hw ⊢
      rw [Nat.add_mul] at hw
      omega

/-- What a law's proof owes: whatever it is handed, the call returns true and turns nothing that was there. -/
def Owes (H : Type) (enc : TypeId × Value → H) (P : Program) (f : FuncId) (fn : Func) (s : ChangeSpec) (W : World) (base : Nat) (args : Array Value) (ds : List (DataW H)) (p : List MemPlace) : Prop :=
  (∀ (j : Nat) t v, fn.params[j]? = some t → args[j]? = some v → Value.okWide P W .any base t v) →
  DataW.TrodAll enc P W 0 (fun _ => true) true fn.params.toList args.toList ds p →
  (DataW.weightsEach P fn.params.toList ds).all (· ≤ reachBytes) = true →
  ((s.fn H ds).results = [.lit (.bool true)] ∧ (s.fn H ds).args = ds ∧ (s.fn H ds).vars = []) ∧
  Calls P f args W fun e W' => e = .returned (.bool true) ∧ Ext W W'

theorem lift_law {C : Checked} {os : Os} {f : FuncId} {fn : Func} {s : ChangeSpec} {T : TypeId} (hown : ownKnob C.prog.godebug = none) (hlaid : laidOutB C.prog = true) (started : os.Started) (noInit : C.prog.inits.idxOf? f = none) (hfn : C.prog.funcs[f]? = some fn)
    (hres : fn.resultTypes = #[T]) (hT : C.prog.underlying T = some .bool) (hvars : s.vars = [])
    (hread : (fn.params.toList.all fun t => C.prog.readableRec t && decide (t < C.prog.types.size)) = true)
    (witness : ∃ (w : World) (tape : Tape) (i : Input), w.os = os ∧ (w.forCall tape i).Shaped C.prog ∧ i.vars = [] ∧ Input.okWide C.prog (w.forCall tape i) .any w.heap.size f i ∧
      s.pre6 enc C.prog fn [] false (w.forCall tape i).memory i.args ∧ ({} : Assume).holds C.prog (lone (Frame.enter C.prog f i.args .normal) [] (w.forCall tape i)))
    (owes : ∀ W base args ds p, Owes H enc C.prog f fn s W base args ds p) :
    ReturnsInHanded {} C os f .any (s.pre6 enc C.prog fn [] false) (s.post enc C.prog fn false true false false) := by
  refine returnsInHanded_of_change_sized (C := C) hown started noInit hfn witness ?_
  intro W base args ds gs before hval hW _ hsz _
  have hW0 := hW
  obtain ⟨p, q, hA, hV, rfl, _, _⟩ := hW
  rw [hvars] at hV
  obtain ⟨rfl, rfl⟩ := trodVars_none hV
  have e : s.plain.varTypes C.prog = [] := by simp [ChangeSpec.plain, DataSpec.varTypes, hvars]
  rw [e, List.append_nil, List.append_nil] at hsz
  obtain ⟨hf, hc⟩ := owes W base args ds p hval hA hsz
  refine hc.mono fun e W' ⟨he, hb⟩ => ⟨_, he, ?_⟩
  exact post_true hlaid (T := T) hres hT hvars hread hW0 hf hb
end
end Go.Proofs.YtepefddgheimkaaGreat

/-
  The step from a walk to a given statement, where the world's shape is wanted: a variable of the library's own holds a number.
-/
namespace Go.Proofs.YtepefddgheimkaaGreat
open Go.ChangeShapes Go.WideShapes Go.ChangeAt Go.RowKit
section
variable {H : Type} {enc : TypeId × Value → H}
/-- What a law's proof owes: whatever it is handed, the call returns true and turns nothing that was there; the world is shaped. -/
def OwesH (H : Type) (enc : TypeId × Value → H) (P : Program) (f : FuncId) (fn : Func) (s : ChangeSpec) (W : World) (base : Nat) (args : Array Value) (ds : List (DataW H)) (p : List MemPlace) : Prop :=
  (∀ (j : Nat) t v, fn.params[j]? = some t → args[j]? = some v → Value.okWide P W .any base t v) →
  DataW.TrodAll enc P W 0 (fun _ => true) true fn.params.toList args.toList ds p →
  (DataW.weightsEach P fn.params.toList ds).all (· ≤ reachBytes) = true →
  W.ShapedOpen P →
  ((s.fn H ds).results = [.lit (.bool true)] ∧ (s.fn H ds).args = ds ∧ (s.fn H ds).vars = []) ∧
  Calls P f args W fun e W' => e = .returned (.bool true) ∧ Ext W W'

theorem lift_law_shaped {C : Checked} {os : Os} {f : FuncId} {fn : Func} {s : ChangeSpec} {T : TypeId} (hown : ownKnob C.prog.godebug = none) (hlaid : laidOutB C.prog = true) (started : os.Started) (noInit : C.prog.inits.idxOf? f = none) (hfn : C.prog.funcs[f]? = some fn)
    (hres : fn.resultTypes = #[T]) (hT : C.prog.underlying T = some .bool) (hvars : s.vars = [])
    (hread : (fn.params.toList.all fun t => C.prog.readableRec t && decide (t < C.prog.types.size)) = true)
    (witness : ∃ (w : World) (tape : Tape) (i : Input), w.os = os ∧ (w.forCall tape i).Shaped C.prog ∧ i.vars = [] ∧ Input.okWide C.prog (w.forCall tape i) .any w.heap.size f i ∧
      s.pre6 enc C.prog fn [] false (w.forCall tape i).memory i.args ∧ ({} : Assume).holds C.prog (lone (Frame.enter C.prog f i.args .normal) [] (w.forCall tape i)))
    (owes : ∀ W base args ds p, OwesH H enc C.prog f fn s W base args ds p) :
    ReturnsInHanded {} C os f .any (s.pre6 enc C.prog fn [] false) (s.post enc C.prog fn false true false false) := by
  refine returnsInHanded_of_change_shaped (C := C) hown started noInit hfn witness ?_
  intro W base args ds gs before hval hW _ hsz hsh _
  have hW0 := hW
  obtain ⟨p, q, hA, hV, rfl, _, _⟩ := hW
  rw [hvars] at hV
  obtain ⟨rfl, rfl⟩ := trodVars_none hV
  have e : s.plain.varTypes C.prog = [] := by simp [ChangeSpec.plain, DataSpec.varTypes, hvars]
  rw [e, List.append_nil, List.append_nil] at hsz
  obtain ⟨hf, hc⟩ := owes W base args ds p hval hA hsz hsh
  refine hc.mono fun e W' ⟨he, hb⟩ => ⟨_, he, ?_⟩
  exact post_true hlaid (T := T) hres hT hvars hread hW0 hf hb
end
end Go.Proofs.YtepefddgheimkaaGreat

/-
  ParseWords: which words are types and which are reserved is as the document says; for every text.
-/
namespace Go.Proofs.YtepefddgheimkaaGreat
open Go.ChangeShapes Go.WideShapes Go.ChangeAt Go.RowKit
open Go.ChangeMaps (open_string)
set_option linter.unusedSimpArgs false
set_option linter.unusedVariables false

theorem ba_back (s : ByteArray) : (⟨s.data.toList.toArray⟩ : ByteArray) = s := by cases s; simp
set_option maxHeartbeats 4000000 in
set_option maxRecDepth 100000 in
theorem parseWords_any (t : Byts8) (w : World) (m : Int) (hm : w.cell? ⟨0, 0, none⟩ = some (.int .i64 m)) :
    Calls Tryz.prog 5 #[.string ⟨t.toArray⟩] w fun e w' => e = .returned (.bool true) ∧ Ext w w' := by
  have HW := hide (wakes12_any w m hm)
  have HT := hide (typeW_any t)
  have HU := hide (refType_any t)
  have HV := hide (resW_any t)
  have HX := hide (refRes_any t)
  clear hm
  generalize isTypeW t = a at *
  generalize isResW t = b at *
  go_enter Tryz.func5, Tryz.ntmps5
  go_wp2_with fail
  refine (unhide HW).mono ?_
  rintro e w1 ⟨rfl, hx1⟩
  have X1 := hide hx1
  clear hx1 HW
  go_wp2_with fail
  refine (unhide HT w1).mono ?_
  rintro e w2 ⟨rfl, rfl⟩
  go_wp2_with fail
  refine (unhide HU _).mono ?_
  rintro e w3 ⟨rfl, hx3⟩
  have X3 := hide ((unhide X1).trans hx3)
  clear hx3
  have qa : (a == a) = true := by simp
  have qb : (b == b) = true := by simp
  go_wp2_with fail
  refine (unhide HV w3).mono ?_
  rintro e w4 ⟨rfl, rfl⟩
  go_wp2_with fail
  refine (unhide HX _).mono ?_
  rintro e w5 ⟨rfl, hx5⟩
  have X5 := hide ((unhide X3).trans hx5)
  clear hx5
  go_wp2
  go_ret
  exact ⟨rfl, unhide X5⟩

set_option maxRecDepth 100000 in
theorem parseWords_owes (H : Type) (enc : TypeId × Value → H) (W : World) (base : Nat) (args : Array Value) (ds : List (DataW H)) (p : List MemPlace) : OwesH H enc Tryz.prog 5 Tryz.f5 Rows.parseWordsSpec W base args ds p := by
  intro hval hA hsz hsh
  rw [Tryz.params5] at hA hval hsz
  obtain ⟨v0, vs0, d0, ds0, p0, q0, hargs, rfl, rfl, h0, r0⟩ := trodAll_cons hA
  obtain ⟨rfl, rfl, rfl⟩ := trodAll_nil r0
  obtain rfl : args = #[v0] := by cases args; simp_all
  obtain ⟨s, rfl, rfl, rfl, ws⟩ := open_string Tryz.underlying9 (hval 0 9 v0 rfl rfl) h0
  obtain ⟨m, hm⟩ := Tryz.laysM143.s1_3 W hsh
  have hpw := parseWords_any s.data.toList W m hm
  rw [ba_back] at hpw
  exact ⟨⟨rfl, rfl, rfl⟩, hpw⟩

set_option maxRecDepth 100000 in
theorem parseWords_lifted (os : Os) (started : os.Started) (H : Type) (enc : TypeId × Value → H) :
    ReturnsInHanded {} Tryz.checked os 5 .any (Rows.parseWordsSpec.pre6 enc Tryz.prog Tryz.f5 [] false) (Rows.parseWordsSpec.post enc Tryz.prog Tryz.f5 false true false false) :=
  lift_law_shaped (C := Tryz.checked) own laidOut started (by kernel_rfl) Tryz.func5 (T := 4) rfl Tryz.underlying4 rfl (by kernel_rfl)
    (ChangeSpec.witness6 (enc := enc) (C := Tryz.checked) false ⟨#[], #[.string ⟨#[]⟩], []⟩ 8 (by kernel_rfl) (by kernel_rfl) (by kernel_rfl) (by kernel_rfl)) (parseWords_owes H enc)

theorem parseWords_holds : Rows.ParseWordsSaid :=
  OpenClaim.holds_of_wide 5 Tryz.f5 rfl rfl rfl rfl rfl rfl rfl ⟨rfl, rfl, rfl, rfl, rfl⟩ rfl rfl rfl rfl rfl (by kernel_rfl) Tryz.func5 (by kernel_rfl)
    (of_decide_eq_true (by kernel_rfl)) (by unfold Func.isWrapper; rw [if_neg (of_decide_eq_false (by kernel_rfl))]; exact ⟨rfl, rfl⟩)
    (fun os started H enc _ => parseWords_lifted os started H enc)
#print axioms parseWords_holds
end Go.Proofs.YtepefddgheimkaaGreat
