/-
  Words, nodes that begin.
-/
import Derived.Test.YtjfhhhabcbkahaaGreatTG
namespace Go.Proofs.YtjfhhhabcbkahaaGreat
open Go.RowKit
set_option linter.unusedVariables false
set_option linter.unusedSimpArgs false

section
variable {w w' w'' : World} {pb : Nat} {L : List Tok} {tv lv : Value} {i j : Nat}
/-- What a word's call answers. -/
def TQ (w : World) (pb : Nat) (L : List Tok) (tv lv : Value) (R : Nat × Option Tok) (e : Ending) (w' : World) : Prop := St w pb L tv lv R.1 w' ∧ (match R.2 with | none => e = .panicked Pan | some t => e = .returned (.string ⟨t.text.toArray⟩))
set_option maxHeartbeats 1000000 in
set_option maxRecDepth 100000 in
theorem typeWord_any (h : PE w pb L tv lv i) (hi : i ≤ 2000000000) (hL : L.length ≤ 1000000000) :
    Calls Tryz.prog 79 #[.pointer (some ⟨pb, 0, none⟩)] w (TQ w pb L tv lv (takeP L (isTypeW (tk L i).text) i)) := by
  have HP := hide h
  have HA := hide (ahead0 h (by omega) hL)
  have g1 := fld1
  clear h
  cases hb : isTypeW (tk L i).text with
  | false =>
    have HY := fun w1 => typeW_any (tk L i).text w1
    rw [hb] at HY
    have HY2 := hide HY
    clear HY hb
    go_enter Tryz.func79, Tryz.ntmps79
    go_wp2_with fail
    refine (unhide HA).mono ?_
    rintro e w1 ⟨rfl, hx⟩
    have HX := hide hx
    clear hx
    go_wp2_with fail
    refine (unhide HY2 w1).mono ?_
    rintro e w2 ⟨rfl, rfl⟩
    go_wp2_with fail
    refine (take_no ((unhide HP).ext (unhide HX))).mono ?_
    rintro e w3 ⟨rfl, hx3⟩
    have HX3 := hide ((unhide HX).trans hx3)
    clear hx3
    go_wp2
    exact ⟨rfl, St.of (unhide HP) (unhide HX3), rfl⟩
  | true =>
    have HY := fun w1 => typeW_any (tk L i).text w1
    rw [hb] at HY
    have HY2 := hide HY
    clear HY hb
    go_enter Tryz.func79, Tryz.ntmps79
    go_wp2_with fail
    refine (unhide HA).mono ?_
    rintro e w1 ⟨rfl, hx⟩
    have HX := hide hx
    clear hx
    go_wp2_with fail
    refine (unhide HY2 w1).mono ?_
    rintro e w2 ⟨rfl, rfl⟩
    go_wp2_with fail
    refine (take_ok ((unhide HP).ext (unhide HX)) (by omega) hL).mono ?_
    rintro e w3 ⟨rfl, hs3⟩
    have HS3 := hide (St.after (unhide HX) hs3)
    clear hs3
    go_wp2
    go_ret
    exact ⟨unhide HS3, rfl⟩
set_option maxHeartbeats 1000000 in
set_option maxRecDepth 100000 in
theorem isName_any (h : PE w pb L tv lv i) (hi : i ≤ 2000000000) (hL : L.length ≤ 1000000000) :
    Calls Tryz.prog 96 #[.pointer (some ⟨pb, 0, none⟩)] w fun e w' => e = .returned (.bool (isNm L i)) ∧ Ext w w' := by
  have HA := hide (ahead0 h (by omega) hL)
  clear h
  unfold isNm
  have HY := hide (fun w1 => resW_any (tk L i).text w1)
  generalize tk L i = t at *
  by_cases hk : t.kind = 1
  · have q : (t.kind == 1) = true := by rw [hk]; rfl
    rw [decide_eq_true hk]
    obtain ⟨R, hR⟩ : ∃ R, isResW t.text = R := ⟨_, rfl⟩
    rw [hR] at HY ⊢
    clear hR
    go_enter Tryz.func96, Tryz.ntmps96
    go_wp2_with fail
    refine (unhide HA).mono ?_
    rintro e w1 ⟨rfl, hx⟩
    have HX := hide (hx.alloc (.cells #[.int .i64 (t).kind, .string ⟨(t).text.toArray⟩, .int .i32 (t).num, .int .i64 (t).place, .int .i64 (t).line] 44))
    have HB := Blk.new w1 #[.int .i64 (t).kind, .string ⟨(t).text.toArray⟩, .int .i32 (t).num, .int .i64 (t).place, .int .i64 (t).line] 44
    have t0 := HB.cell (i := 0) (v := .int .i64 t.kind) rfl
    have t1 := HB.cell (i := 1) (v := .string ⟨t.text.toArray⟩) rfl
    rw [hk] at t0 HX ⊢
    clear hx HB hk
    go_wp2_with fail
    refine (unhide HY _).mono ?_
    rintro e w2 ⟨rfl, rfl⟩
    go_wp2
    go_ret
    exact ⟨rfl, unhide HX⟩
  · have q : (t.kind == 1) = false := beq_eq_false_iff_ne.2 hk
    rw [decide_eq_false hk, Bool.false_and]
    clear hk
    go_enter Tryz.func96, Tryz.ntmps96
    go_wp2_with fail
    refine (unhide HA).mono ?_
    rintro e w1 ⟨rfl, hx⟩
    have HX := hide (hx.alloc (.cells #[.int .i64 (t).kind, .string ⟨(t).text.toArray⟩, .int .i32 (t).num, .int .i64 (t).place, .int .i64 (t).line] 44))
    have HB := Blk.new w1 #[.int .i64 (t).kind, .string ⟨(t).text.toArray⟩, .int .i32 (t).num, .int .i64 (t).place, .int .i64 (t).line] 44
    have t0 := HB.cell (i := 0) (v := .int .i64 t.kind) rfl
    clear hx HB
    go_wp2
    go_ret
    exact ⟨rfl, unhide HX⟩
set_option maxHeartbeats 1000000 in
set_option maxRecDepth 100000 in
theorem name_any (h : PE w pb L tv lv i) (hi : i ≤ 2000000000) (hL : L.length ≤ 1000000000) :
    Calls Tryz.prog 80 #[.pointer (some ⟨pb, 0, none⟩)] w (TQ w pb L tv lv (takeP L (isNm L i) i)) := by
  have HP := hide h
  have HA := isName_any h (by omega) hL
  have g1 := fld1
  clear h
  cases hb : isNm L i with
  | false =>
    rw [hb] at HA
    have HA2 := hide HA
    clear HA hb
    go_enter Tryz.func80, Tryz.ntmps80
    go_wp2_with fail
    refine (unhide HA2).mono ?_
    rintro e w1 ⟨rfl, hx⟩
    have HX := hide hx
    clear hx
    go_wp2_with fail
    refine (take_no ((unhide HP).ext (unhide HX))).mono ?_
    rintro e w3 ⟨rfl, hx3⟩
    have HX3 := hide ((unhide HX).trans hx3)
    clear hx3
    go_wp2
    exact ⟨rfl, St.of (unhide HP) (unhide HX3), rfl⟩
  | true =>
    rw [hb] at HA
    have HA2 := hide HA
    clear HA hb
    go_enter Tryz.func80, Tryz.ntmps80
    go_wp2_with fail
    refine (unhide HA2).mono ?_
    rintro e w1 ⟨rfl, hx⟩
    have HX := hide hx
    clear hx
    go_wp2_with fail
    refine (take_ok ((unhide HP).ext (unhide HX)) (by omega) hL).mono ?_
    rintro e w3 ⟨rfl, hs3⟩
    have HS3 := hide (St.after (unhide HX) hs3)
    clear hs3
    go_wp2
    go_ret
    exact ⟨unhide HS3, rfl⟩
set_option maxHeartbeats 1000000 in
set_option maxRecDepth 100000 in
theorem begin_any (kind : Int) (ao : Option Addr) (n cap : Nat) (h : PE w pb L tv lv i) (hi : i ≤ 2000000000) (hL : L.length ≤ 1000000000) :
    Calls Tryz.prog 77 #[.pointer (some ⟨pb, 0, none⟩), .int .i64 kind, .slice ao n cap] w fun e w' => ∃ xb, e = .returned (.pointer (some ⟨xb, 0, none⟩)) ∧ w.heap.size ≤ xb ∧ Blk w' xb (ndC kind [] [] 0 (tk L i).place (.slice ao n cap)) 78 ∧ Ext w w' := by
  have HA := hide (ahead0 h (by omega) hL)
  have g3 := fld3
  clear h
  generalize tk L i = t at *
  go_enter Tryz.func77, Tryz.ntmps77
  go_wp2_with fail
  refine (unhide HA).mono ?_
  rintro e w1 ⟨rfl, hx⟩
  have HX := hide hx
  clear hx
  go_wp2
  go_ret
  exact ⟨w1.heap.size, rfl, (unhide HX).size, Blk.new _ _ _, (unhide HX).alloc _⟩
end
end Go.Proofs.YtjfhhhabcbkahaaGreat
