/-
  Codes as bytes: Encode, the two ways in one. What the dump lacks is left out.
-/
import Derived.Test.YtfoffnbkfnbglaaCO
import Derived.Test.YtfoffnbkfnbglaaCK
namespace Go.Proofs.Ytfoffnbkfnbglaa
open Go.RowKit
set_option linter.unusedVariables false
set_option linter.unusedSimpArgs false

set_option maxRecDepth 10000 in
set_option maxHeartbeats 2000000 in
theorem encode_bad (C : Cod) (v : Value) (w : World) (h : IR w v C.ins) (hm : mayP C = false) : Calls Try.prog 11 #[.agg #[.int .i64 (C).stage, v, .int .i64 (C).regs, .int .i64 (C).attr, .int .i64 (C).unif, .int .i64 (C).vary]] w fun e w' => e = .returned (.tuple #[.slice none 0 0, .int .i64 260]) ∧ Ext w w' := by
  have HV := hide h
  obtain ⟨ao, cap, rfl, hn0, hlc, hcm, hat⟩ := h
  have HM := hide (fun wx (hx : Ext w wx) => may_any C _ wx ((unhide HV).ext hx))
  rw [hm] at HM
  have HB := hide (Blk.new w #[.int .i64 (C).stage, .slice ao C.ins.length cap, .int .i64 (C).regs, .int .i64 (C).attr, .int .i64 (C).unif, .int .i64 (C).vary] 26)
  have HX := hide ((Ext.refl w).alloc (.cells #[.int .i64 (C).stage, .slice ao C.ins.length cap, .int .i64 (C).regs, .int .i64 (C).attr, .int .i64 (C).unif, .int .i64 (C).vary] 26))
  clear hat hn0 hm
  go_enter Try.func11, Try.ntmps11
  go_wp2_with (first
    | refine wpList_load_row rfl 26 (.tmp 1) rfl w.heap.size rfl 26 #[.int .i64 (C).stage, .slice ao C.ins.length cap, .int .i64 (C).regs, .int .i64 (C).attr, .int .i64 (C).unif, .int .i64 (C).vary] (0, 0) _ (unhide HB) Try.underlying26 rfl size6 ?_
    | (go_at_call 9999))
  refine (unhide HM _ (unhide HX)).mono ?_
  rintro e w2 ⟨rfl, hx2⟩
  have X2 := hide ((unhide HX).trans hx2)
  clear hx2 HX HB
  go_wp2
  exact bodyPost_ret (v := .tuple #[.slice none 0 0, .int .i64 260]) (by simp [results, Try.results11, go_sem]) rfl ⟨rfl, unhide X2⟩

theorem may_len {C : Cod} (h : mayP C = true) : C.ins.length ≤ 4096 := by
  simp only [mayP, Bool.and_eq_true, decide_eq_true_eq] at h
  exact h.2.1

theorem encode_ok (C : Cod) (v : Value) (w : World) (h : IR w v C.ins) (hok : ∀ I ∈ C.ins, OkI I) (hm : mayP C = true) : Calls Try.prog 11 #[.agg #[.int .i64 (C).stage, v, .int .i64 (C).regs, .int .i64 (C).attr, .int .i64 (C).unif, .int .i64 (C).vary]] w fun e w' => ∃ ao cap, e = .returned (.tuple #[.slice ao (bytP C).length cap, .int .i64 0]) ∧ Own .u8 w' w.heap.size 5 (.slice ao (bytP C).length cap) (bytP C) ∧ Ext w w' :=
  encode_good C v w h hok (may_len hm) (fun wx hx => by rw [← hm]; exact may_any C v wx (h.ext hx))
end Go.Proofs.Ytfoffnbkfnbglaa
