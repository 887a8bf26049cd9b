/-
  Small functions: isWord, Fresh, whole.
-/
import Derived.Test.YtdcamcpffiilbaaDoorZA
import Derived.Test.YtdcamcpffiilbaaDoorZM
import Derived.Test.YtdcamcpffiilbaaDoorXW
import Derived.Test.YtdcamcpffiilbaaDoorShelf
import Derived.Lib.LaidTab
namespace Go.Proofs.YtdcamcpffiilbaaDoor
open Go.RowKit
set_option linter.unusedVariables false
set_option linter.unusedSimpArgs false

def Tab (w : World) : Prop := Lib.TabIs Tryd.prog w "internal/strconv.uint64pow10" .u64 Lib.pow10Tab
theorem tab_no : Tryd.prog.globalNamed "internal/strconv.uint64pow10" = some 1 := by kernel_rfl
theorem Tab.ext {w w' : World} (h : Tab w) (hx : Ext w w') : Tab w' := by
  unfold Tab Lib.TabIs World.var? at *
  rw [tab_no] at *
  simp only [Option.bind_some] at *
  have hlt : 1 < w.heap.size := by
    rcases Nat.lt_or_ge 1 w.heap.size with h1 | h1
    · exact h1
    · rw [Array.getElem?_eq_none h1] at h
      cases h
  rw [hx.block _ hlt]
  exact h
/-- What the library's variables hold. -/
def Std (w : World) (m : Int) : Prop := w.cell? ⟨0, 0, none⟩ = some (.int .i64 m) ∧ Tab w
theorem Std.ext {w w' : World} {m : Int} (h : Std w m) (hx : Ext w w') : Std w' m := ⟨keepM h.1 hx, h.2.ext hx⟩
theorem ext_grow (w : World) (k : Nat) (os : Array Obj) : Ext w (Sort.grow (w.drewN k) os) :=
  ⟨rfl, rfl, rfl, by simp [Sort.grow, World.drewN], fun i hi => by simp only [Sort.grow]; rw [Array.getElem?_append_left (by exact hi)]; rfl⟩

theorem whole_any (n : Int) (w : World) (m : Int) (h0 : -9223372036854775808 ≤ n) (h1 : n ≤ 9223372036854775807) (hS : Std w m) :
    Calls Tryd.prog 19 #[.int .i64 n] w fun e w' => ∃ ao cap, e = .returned (.slice ao (wholeL n).length cap) ∧ TO w' w.heap.size (.slice ao (wholeL n).length cap) (wholeL n) ∧ Ext w w' := by
  have HS := hide hS
  clear hS
  obtain ⟨R, hR⟩ : ∃ R, lexP (Lib.itoa n) = R := ⟨_, rfl⟩
  unfold wholeL
  rw [hR]
  go_enter Tryd.func19, Tryd.ntmps19
  go_wp2_with fail
  refine (Tryd.strconv_Itoa n h0 h1 w (unhide HS).2).mono ?_
  rintro e w1 ⟨rfl, k, os, rfl⟩
  have HX := hide (ext_grow w k os)
  obtain ⟨w2, hw2⟩ : ∃ w2, w2 = Sort.grow (w.drewN k) os := ⟨_, rfl⟩
  rw [← hw2] at HX ⊢
  clear hw2
  have HL := hide (lex_any ⟨(Lib.itoa n).toArray⟩ w2 m (keepM (unhide HS).1 (unhide HX)))
  rw [show (⟨(Lib.itoa n).toArray⟩ : ByteArray).data.toList = Lib.itoa n from rfl, hR] at HL
  go_wp2_with fail
  refine (unhide HL).mono ?_
  rintro e w3 ⟨ao, cap, rfl, hO, hx⟩
  have HO := hide ((hO.lower (Nat.le_trans (unhide HX).size (Nat.le_add_right _ 2))).ext ((Ext.refl _).alloc (.cells #[.int .i64 R.2.1, .int .i64 R.2.2] 26)))
  have X3 := hide (((unhide HX).trans hx).alloc (.cells #[.int .i64 R.2.1, .int .i64 R.2.2] 26))
  clear hO hx
  go_wp2
  go_ret
  exact ⟨ao, cap, rfl, unhide HO, unhide X3⟩

theorem isWordT_any (L : List Tok) (ao : Option Addr) (ca : Nat) (w : World) (hL : TR w (.slice ao L.length ca) L) :
    Calls Tryd.prog 69 #[.slice ao L.length ca] w fun e w' => e = .returned (.bool (isWordL L)) ∧ w' = w := by
  by_cases h1 : L.length = 1
  · match L, h1 with
    | [t], _ =>
      obtain ⟨b, off, rfl, c⟩ := hL.at 0 (by simp)
      have c0 := c.kind
      simp only [Nat.zero_mul, Nat.add_zero, List.getElem_cons_zero] at c0
      clear c hL h1
      show Calls Tryd.prog 69 #[.slice (some ⟨b, off, none⟩) 1 ca] w fun e w' => e = .returned (.bool (decide (t.kind = 1))) ∧ w' = w
      by_cases hk : t.kind = 1
      · have q : (t.kind == 1) = true := by rw [hk]; rfl
        rw [decide_eq_true hk]
        clear hk
        go_enter Tryd.func69, Tryd.ntmps69
        go_wp2
        go_ret
        exact ⟨rfl, rfl⟩
      · have q : (t.kind == 1) = false := beq_eq_false_iff_ne.2 hk
        rw [decide_eq_false hk]
        clear hk
        go_enter Tryd.func69, Tryd.ntmps69
        go_wp2
        go_ret
        exact ⟨rfl, rfl⟩
  · have hf : isWordL L = false := by
      match L, h1 with
      | [], _ => rfl
      | [_], h => exact absurd rfl h
      | _ :: _ :: _, _ => rfl
    rw [hf]
    have q : ((L.length : Int) == 1) = false := beq_eq_false_iff_ne.2 (by omega)
    clear hL hf
    go_enter Tryd.func69, Tryd.ntmps69
    go_wp2
    go_ret
    exact ⟨rfl, rfl⟩

set_option maxHeartbeats 1000000 in
theorem fresh_any (t : Byts8) (w : World) (m : Int) (hm : w.cell? ⟨0, 0, none⟩ = some (.int .i64 m)) :
    Calls Tryd.prog 72 #[.string ⟨t.toArray⟩] w fun e w' => e = .returned (.bool (freshP t)) ∧ Ext w w' := by
  have HL := hide (lex_any ⟨t.toArray⟩ w m hm)
  rw [show (⟨t.toArray⟩ : ByteArray).data.toList = t from rfl] at HL
  have HM := hide hm
  have hlen : isWordL (lexP t).1 = true → t.length ≤ 8192 := fun h => by
    refine Nat.le_of_not_lt fun hl => ?_
    unfold lexP at h
    rw [if_pos hl] at h
    cases h
  have HLEN := hide hlen
  clear hm hlen
  obtain ⟨R, hR⟩ : ∃ R, lexP t = R := ⟨_, rfl⟩
  rw [hR] at HL HLEN
  obtain ⟨fb, hfb⟩ : ∃ fb, freshP t = fb := ⟨_, rfl⟩
  rw [hfb]
  unfold freshP at hfb
  rw [hR] at hfb
  have HFB := hide hfb
  clear hR hfb
  go_enter Tryd.func72, Tryd.ntmps72
  go_wp2_with fail
  refine (unhide HL).mono ?_
  rintro e w1 ⟨ao, cap, rfl, hO, hx⟩
  have HT := hide (hO.tr.ext ((Ext.refl _).alloc (.cells #[.int .i64 R.2.1, .int .i64 R.2.2] 26)))
  have X := hide (hx.alloc (.cells #[.int .i64 R.2.1, .int .i64 R.2.2] 26))
  obtain ⟨w2, hw2⟩ : ∃ w2, w2 = w1.alloc (.cells #[.int .i64 R.2.1, .int .i64 R.2.2] 26) := ⟨_, rfl⟩
  rw [← hw2] at HT X
  clear hO hx HL
  have HW := hide (isWordT_any R.1 ao cap w2 (unhide HT))
  cases hw : isWordL R.1 with
  | false =>
    have hf0 : fb = false := by rw [← unhide HFB, hw]; simp
    rw [hw] at HW
    subst hf0
    clear hw HLEN HFB
    go_wp2_with fail
    rw [← hw2]
    clear hw2
    refine (unhide HW).mono ?_
    rintro e w3 ⟨rfl, rfl⟩
    go_wp2
    go_ret
    exact ⟨rfl, unhide X⟩
  | true =>
    have h82 := unhide HLEN hw
    obtain ⟨x, hx⟩ : ∃ x, R.1 = [x] := by
      match R.1, hw with
      | [x], _ => exact ⟨x, rfl⟩
    rw [hw] at HW
    obtain ⟨b, off, rfl, c⟩ := (unhide HT).at 0 (by rw [hx]; simp)
    have c1 := c.text
    simp only [hx, Nat.zero_mul, Nat.add_zero, List.getElem_cons_zero] at c1
    have hh : hd0 R.1 = x := by rw [hx]; rfl
    rw [hh, hw] at HFB
    have hl1 : R.1.length = 1 := by rw [hx]; rfl
    have HP := hide (Tryd.strings_HasPrefix ⟨t.toArray⟩ ⟨#[71, 76, 95]⟩ w2)
    have HC := hide (Tryd.strings_Contains ⟨t.toArray⟩ ⟨#[95, 95]⟩ m w2 (show t.length < 4294967281 by omega) (keepM (unhide HM) (unhide X)))
    rw [show (⟨t.toArray⟩ : ByteArray).data.toList = t from rfl, show (⟨#[71, 76, 95]⟩ : ByteArray).data.toList = [71, 76, 95] from rfl] at HP
    rw [show (⟨t.toArray⟩ : ByteArray).data.toList = t from rfl, show (⟨#[95, 95]⟩ : ByteArray).data.toList = [95, 95] from rfl] at HC
    generalize Lib.hasPrefix t [71, 76, 95] = p1 at *
    generalize Lib.contains t [95, 95] = p2 at *
    clear c hw hh hx HLEN HT HM
    rw [hl1] at HW ⊢
    go_wp2_with fail
    rw [← hw2]
    clear hw2
    refine (unhide HW).mono ?_
    rintro e w3 ⟨rfl, rfl⟩
    by_cases ht : x.text = t
    · have q : (x.text == t) = true := by rw [ht]; simp
      rw [q] at HFB
      rw [ht] at c1
      clear ht q
      go_wp2_with fail
      refine (unhide HP).mono ?_
      rintro e w4 ⟨rfl, rfl⟩
      cases p1 with
      | true =>
        have hf0 : fb = false := by rw [← unhide HFB]; simp
        subst hf0
        clear HFB
        go_wp2
        go_ret
        exact ⟨rfl, unhide X⟩
      | false =>
        have hf0 : (!p2) = fb := by rw [← unhide HFB]; simp
        subst hf0
        clear HFB
        go_wp2_with fail
        refine (unhide HC).mono ?_
        rintro e w5 ⟨rfl, rfl⟩
        go_wp2
        go_ret
        exact ⟨rfl, unhide X⟩
    · have q : (x.text == t) = false := beq_eq_false_iff_ne.2 ht
      have hf0 : fb = false := by rw [← unhide HFB, q]; simp
      subst hf0
      clear HFB ht
      go_wp2
      go_ret
      exact ⟨rfl, unhide X⟩
end Go.Proofs.YtdcamcpffiilbaaDoor
