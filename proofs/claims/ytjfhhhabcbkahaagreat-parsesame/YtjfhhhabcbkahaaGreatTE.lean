/-
  Tokens that are taken, one by one.
-/
import Derived.Test.YtjfhhhabcbkahaaGreatTD
namespace Go.Proofs.YtjfhhhabcbkahaaGreat
open Go.RowKit
set_option linter.unusedVariables false
set_option linter.unusedSimpArgs false

def Pan : List PanicEntry := [{ v := .iface 29 (.int .i64 220), recovered := false }]
/-- The parser behind a call. -/
structure St (w : World) (pb : Nat) (L : List Tok) (tv lv : Value) (j : Nat) (w' : World) : Prop where
  pe : PE w' pb L tv lv j
  out : Out (fun b => b = pb) w w'
section
variable {w w' w'' : World} {pb : Nat} {L : List Tok} {tv lv : Value} {i j : Nat}
theorem St.of (h : PE w pb L tv lv i) (hx : Ext w w') : St w pb L tv lv i w' := ⟨h.ext hx, Out.of_ext hx⟩
theorem St.trans (h : St w pb L tv lv i w') (k : St w' pb L tv lv j w'') : St w pb L tv lv j w'' := ⟨k.pe, h.out.trans k.out (fun _ e => .inl e)⟩
theorem St.ext (h : St w pb L tv lv i w') (hx : Ext w' w'') : St w pb L tv lv i w'' := h.trans (St.of h.pe hx)
theorem St.after (hx : Ext w w') (k : St w' pb L tv lv j w'') : St w pb L tv lv j w'' := ⟨k.pe, (Out.of_ext hx).trans k.out (fun _ e => .inl e)⟩
theorem Out.set {T : Nat → Prop} {b c : Nat} {v : Value} (h : Out T w w') (hb : T b ∨ w.heap.size ≤ b) : Out T w (w'.setCell ⟨b, c, none⟩ v) :=
  h.trans (Out.of_grown (T := fun k => k = b) (grownBy_set w' b c v) (fun k e => by cases e; rfl)) (fun k e => by subst e; exact hb)
theorem St.fresh (h : PE w pb L tv lv i) (ho : Out (fun b => b = pb) w w') (hb : Blk w' pb (prC tv j lv) 71) : St w pb L tv lv j w' := ⟨⟨hb, h.toks.out ho, h.lev.out ho⟩, ho⟩
/-- What is the call's own is turned. -/
theorem St.set {b c : Nat} {v : Value} (h0 : PE w pb L tv lv i) (h : St w pb L tv lv j w') (hb : w.heap.size ≤ b) : St w pb L tv lv j (w'.setCell ⟨b, c, none⟩ v) :=
  St.fresh h0 (h.out.set (.inr hb)) (h.pe.blk.other c v (by have := h0.lt; omega))
theorem St.grown {g : Option Nat} (h0 : PE w pb L tv lv i) (h : St w pb L tv lv j w') (hg : w'.grownBy w'' g) (hb : ∀ b, g = some b → w.heap.size ≤ b) : St w pb L tv lv j w'' := by
  have ho : Out (fun b => b = pb) w w'' := h.out.trans (Out.of_grown (T := fun k => g = some k) hg (fun k e => e)) (fun k e => .inr (hb k e))
  refine St.fresh h0 ho ?_
  refine (hg.block pb h.pe.lt (fun e => ?_)).trans h.pe.blk
  have := hb pb e.symm
  have := h0.lt
  omega
theorem fld0 (a b c d e : Value) (w : World) : (Instr.field 44 (.agg #[a, b, c, d, e]) 0).run Tryz.prog w = .ok a w := by kernel_rfl
theorem fld1 (a b c d e : Value) (w : World) : (Instr.field 44 (.agg #[a, b, c, d, e]) 1).run Tryz.prog w = .ok b w := by kernel_rfl
theorem fld2 (a b c d e : Value) (w : World) : (Instr.field 44 (.agg #[a, b, c, d, e]) 2).run Tryz.prog w = .ok c w := by kernel_rfl
theorem fld3 (a b c d e : Value) (w : World) : (Instr.field 44 (.agg #[a, b, c, d, e]) 3).run Tryz.prog w = .ok d w := by kernel_rfl
theorem ahead0 (h : PE w pb L tv lv i) (hi : i ≤ 3000000000) (hL : L.length ≤ 1000000000) : Calls Tryz.prog 60 #[.pointer (some ⟨pb, 0, none⟩), .int .i64 0] w fun e w' => e = .returned (.agg #[.int .i64 (tk L i).kind, .string ⟨(tk L i).text.toArray⟩, .int .i32 (tk L i).num, .int .i64 (tk L i).place, .int .i64 (tk L i).line]) ∧ Ext w w' := ahead_any 0 h (by omega) hL
theorem ahead1 (h : PE w pb L tv lv i) (hi : i ≤ 3000000000) (hL : L.length ≤ 1000000000) : Calls Tryz.prog 60 #[.pointer (some ⟨pb, 0, none⟩), .int .i64 1] w fun e w' => e = .returned (.agg #[.int .i64 (tk L (i + 1)).kind, .string ⟨(tk L (i + 1)).text.toArray⟩, .int .i32 (tk L (i + 1)).num, .int .i64 (tk L (i + 1)).place, .int .i64 (tk L (i + 1)).line]) ∧ Ext w w' := ahead_any 1 h (by omega) hL
theorem ahead2 (h : PE w pb L tv lv i) (hi : i ≤ 3000000000) (hL : L.length ≤ 1000000000) : Calls Tryz.prog 60 #[.pointer (some ⟨pb, 0, none⟩), .int .i64 2] w fun e w' => e = .returned (.agg #[.int .i64 (tk L (i + 2)).kind, .string ⟨(tk L (i + 2)).text.toArray⟩, .int .i32 (tk L (i + 2)).num, .int .i64 (tk L (i + 2)).place, .int .i64 (tk L (i + 2)).line]) ∧ Ext w w' := ahead_any 2 h (by omega) hL
set_option maxRecDepth 100000 in
theorem isOne_any {T : Nat → Prop} {ao : Option Addr} {n cap : Nat} {ts : List Byts8} (h : PE w pb L tv lv i) (hs : SF T w (.slice ao n cap) ts) (hi : i ≤ 3000000000) (hL : L.length ≤ 1000000000) :
    Calls Tryz.prog 74 #[.pointer (some ⟨pb, 0, none⟩), .slice ao n cap] w fun e w' => e = .returned (.bool (ts.contains (tk L i).text)) ∧ Ext w w' := by
  have HA := hide (ahead0 h hi hL)
  have HS := hide hs
  clear h hs
  generalize tk L i = t at *
  obtain ⟨R, hR⟩ : ∃ R, ts.contains t.text = R := ⟨_, rfl⟩
  rw [hR]
  have HR := hide hR
  clear hR
  go_enter Tryz.func74, Tryz.ntmps74
  go_wp2_with fail
  refine (unhide HA).mono ?_
  rintro e w1 ⟨rfl, hx⟩
  have HC := contains_any t.text ((unhide HS).ext hx)
  rw [unhide HR] at HC
  have HC2 := hide HC
  have HX := hide hx
  clear HC hx
  have g1 := fld1
  go_wp2_with fail
  refine (unhide HC2).mono ?_
  rintro e w2 ⟨rfl, rfl⟩
  go_wp2
  go_ret
  exact ⟨rfl, unhide HX⟩
set_option maxHeartbeats 1000000 in
set_option maxRecDepth 100000 in
theorem take_ok (h : PE w pb L tv lv i) (hi : i ≤ 3000000000) (hL : L.length ≤ 1000000000) :
    Calls Tryz.prog 78 #[.pointer (some ⟨pb, 0, none⟩), .bool true] w fun e w' => e = .returned (.agg #[.int .i64 (tk L i).kind, .string ⟨(tk L i).text.toArray⟩, .int .i32 (tk L i).num, .int .i64 (tk L i).place, .int .i64 (tk L i).line]) ∧ St w pb L tv lv (i + 1) w' := by
  have HP := hide h
  clear h
  obtain ⟨w1, hw1⟩ : ∃ w1, w1 = w.alloc (.cells #[.int .i64 0, .string ⟨#[]⟩, .int .i32 0, .int .i64 0, .int .i64 0] 44) := ⟨_, rfl⟩
  have X1 : Hid (Ext w w1) := by rw [hw1]; exact (Ext.refl w).alloc _
  have HB1 : Hid (Blk w1 w.heap.size #[.int .i64 0, .string ⟨#[]⟩, .int .i32 0, .int .i64 0, .int .i64 0] 44) := by rw [hw1]; exact Blk.new _ _ _
  have HA := hide (ahead0 ((unhide HP).ext (unhide X1)) hi hL)
  generalize ht : tk L i = t at *
  clear ht
  obtain ⟨nb, hnb⟩ : ∃ nb, nb = w.heap.size := ⟨_, rfl⟩
  have HN := hide hnb
  rw [← hnb] at HB1
  go_enter Tryz.func78, Tryz.ntmps78
  go_wp2_with fail
  rw [show (w.alloc (.cells #[.int .i64 0, .string ⟨#[]⟩, .int .i32 0, .int .i64 0, .int .i64 0] 44)) = w1 from hw1.symm, show w.heap.size = nb from hnb.symm]
  clear hw1 hnb
  refine (unhide HA).mono ?_
  rintro e w2 ⟨rfl, hx2⟩
  obtain ⟨w3, hw3⟩ : ∃ w3, w3 = w2.alloc (.cells #[.int .i64 (t).kind, .string ⟨(t).text.toArray⟩, .int .i32 (t).num, .int .i64 (t).place, .int .i64 (t).line] 44) := ⟨_, rfl⟩
  obtain ⟨tb, htb⟩ : ∃ tb, tb = w2.heap.size := ⟨_, rfl⟩
  have X3 : Hid (Ext w w3) := by rw [hw3]; exact ((unhide X1).trans hx2).alloc _
  have HB3 : Hid (Blk w3 nb #[.int .i64 0, .string ⟨#[]⟩, .int .i32 0, .int .i64 0, .int .i64 0] 44) := by rw [hw3]; exact ((unhide HB1).ext hx2).alloc _
  have HT3 : Hid (Blk w3 tb #[.int .i64 (t).kind, .string ⟨(t).text.toArray⟩, .int .i32 (t).num, .int .i64 (t).place, .int .i64 (t).line] 44) := by rw [hw3, htb]; exact Blk.new _ _ _
  have HP3 := hide ((unhide HP).ext (unhide X3))
  have hnt : nb ≠ tb := by
    have h1 := (unhide HB1).lt
    have h2 := hx2.size
    omega
  have hpn : nb ≠ pb := by
    have h1 := (unhide HP).lt
    have h2 := unhide HN
    omega
  have hpt : tb ≠ pb := by
    have h1 := (unhide HP).lt
    have h2 := unhide HN
    have h3 := (unhide HB1).lt
    have h4 := hx2.size
    omega
  have HW := hide hw3
  have HTB := hide htb
  have c1 := (unhide HP3).blk.cell (i := 1) (v := .int .i64 i) rfl
  have f1 := fun j => (unhide HP3).blk.free j
  have HS4 := hide ((unhide HP3).step (i + 1))
  have HB4 := hide ((unhide HB3).other 1 (.int .i64 ((i : Int) + 1)) hpn)
  have HT4 := hide ((unhide HT3).other 1 (.int .i64 ((i : Int) + 1)) hpt)
  have t0 := (unhide HT4).cell (i := 0) (v := .int .i64 t.kind) rfl
  have t1 := (unhide HT4).cell (i := 1) (v := .string ⟨t.text.toArray⟩) rfl
  have t2 := (unhide HT4).cell (i := 2) (v := .int .i32 t.num) rfl
  have t3 := (unhide HT4).cell (i := 3) (v := .int .i64 t.place) rfl
  have t4 := (unhide HT4).cell (i := 4) (v := .int .i64 t.line) rfl
  have z0 := (unhide HB4).cell (i := 0) (v := .int .i64 0) rfl
  have z1 := (unhide HB4).cell (i := 1) (v := .string ⟨#[]⟩) rfl
  have z2 := (unhide HB4).cell (i := 2) (v := .int .i32 0) rfl
  have z3 := (unhide HB4).cell (i := 3) (v := .int .i64 0) rfl
  have z4 := (unhide HB4).cell (i := 4) (v := .int .i64 0) rfl
  have fz := fun j => (unhide HB4).free j
  have e1 : ((i + 1 : Nat) : Int) = (i : Int) + 1 := by omega
  rw [e1] at HS4
  rw [unhide HW] at c1 f1 t0 t1 t2 t3 t4 z0 z1 z2 z3 z4 fz
  rw [unhide HTB] at t0 t1 t2 t3 t4
  clear hw3 htb hx2 HA e1
  go_wp2
  rw [← unhide HW]
  have B2 := (((((unhide HB4).set 0 (.int .i64 t.kind)).set 1 (.string ⟨t.text.toArray⟩)).set 2 (.int .i32 t.num)).set 3 (.int .i64 t.place)).set 4 (.int .i64 t.line)
  have r0 := B2.cell (i := 0) (v := .int .i64 t.kind) rfl
  have r1 := B2.cell (i := 1) (v := .string ⟨t.text.toArray⟩) rfl
  have r2 := B2.cell (i := 2) (v := .int .i32 t.num) rfl
  have r3 := B2.cell (i := 3) (v := .int .i64 t.place) rfl
  have r4 := B2.cell (i := 4) (v := .int .i64 t.line) rfl
  have hwn : w.heap.size ≤ nb := Nat.le_of_eq (unhide HN).symm
  refine bodyPost_ret (v := .agg #[.int .i64 (t).kind, .string ⟨(t).text.toArray⟩, .int .i32 (t).num, .int .i64 (t).place, .int .i64 (t).line]) (by simp [results, Tryz.results78, go_sem, r0, r1, r2, r3, r4]) rfl ⟨rfl, ?_⟩
  have h0 := unhide HP
  have hs := St.after (unhide X3) (St.mk (unhide HS4).1 (unhide HS4).2)
  exact St.set h0 (St.set h0 (St.set h0 (St.set h0 (St.set h0 hs hwn) hwn) hwn) hwn) hwn
set_option maxRecDepth 100000 in
theorem take_no (h : PE w pb L tv lv i) : Calls Tryz.prog 78 #[.pointer (some ⟨pb, 0, none⟩), .bool false] w fun e w' => e = .panicked Pan ∧ Ext w w' := by
  go_enter Tryz.func78, Tryz.ntmps78
  go_wp2_with fail
  refine (refuse_any _ _).mono ?_
  rintro e w1 ⟨rfl, rfl⟩
  go_wp2
  exact ⟨rfl, rfl, (Ext.refl w).alloc _⟩
end
end Go.Proofs.YtjfhhhabcbkahaaGreat
