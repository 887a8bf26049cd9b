/-
  tell.
-/
import Derived.Test.YtdcamcpffiilbaaDoorZU
namespace Go.Proofs.YtdcamcpffiilbaaDoor
open Go.RowKit
set_option linter.unusedVariables false
set_option linter.unusedSimpArgs false

/-- What tell does: too much, or the tokens are told. -/
def TellQ (w : World) (T : Nat → Prop) (base rb mb n : Nat) (po : Option Addr) (pc : Nat) (E : Env) (ps : List Part) (q : Option (List Tok)) (e : Ending) (w' : World) : Prop :=
  Out T w w' ∧ match q with
  | none => e = .returned (.bool false)
  | some tl => e = .returned (.bool true) ∧ tl.length ≤ 2048 ∧ ∃ T' to tc, Wid T T' w ∧ RD w' T' base rb mb n po pc to tc E ps tl
theorem TellQ.value {w : World} {T : Nat → Prop} {base rb mb n : Nat} {po : Option Addr} {pc : Nat} {E : Env} {ps : List Part} {q : Option (List Tok)} {e : Ending} {w' : World} (h : TellQ w T base rb mb n po pc E ps q e w') : e = .returned (.bool q.isSome) := by
  have h2 := h.2
  cases q with
  | none => exact h2
  | some p => exact h2.1

set_option maxHeartbeats 2000000 in
set_option maxRecDepth 100000 in
theorem tell2_any {T : Nat → Prop} {base rb mb n : Nat} {po : Option Addr} {pc : Nat} {to : Option Addr} {tc : Nat} {E : Env} {ps : List Part} {tl : List Tok} (w : World) (h : RD w T base rb mb n po pc to tc E ps tl)
    (hE : ∀ k L, E k = some L → ∀ t ∈ L, t.text.length ≤ 1000000) (hEl : ∀ k L, E k = some L → L.length ≤ 1000000) (htl : tl.length ≤ 2048) (tk : Tok) (hx : tk.text.length ≤ 1000000) :
    Calls Tryd.prog 23 #[.pointer (some ⟨rb, 0, none⟩), .agg #[.int .i64 tk.kind, .string ⟨tk.text.toArray⟩, .int .i32 tk.num, .int .i64 tk.place, .int .i64 tk.line]] w (TellQ w T base rb mb n po pc E ps (toldP E tl tk)) := by
  have H := hide h
  have hrb := h.blk.lt
  have hmbl : mb < w.heap.size := let ⟨f, hf, _⟩ := h.map; hf.lt
  clear h
  have hmf : ∀ (fn : Fn) (first cap : Array Value) (w : World), (Instr.makeFunc fn first cap).run Tryd.prog w = .ok (.func fn first cap) w := fun _ _ _ _ => rfl
  have hmm := @run_makeMap Tryd.prog
  have hsf : ∀ (fn : Fn) (first cap : Array Value) (a : Addr) (w : World), (store a (.func fn first cap)).run Tryd.prog w = stored Tryd.prog w a (.func fn first cap) .plain := fun _ _ _ a w => run_store Tryd.prog w a _ .plain rfl
  have ef := eTell
  have b0 : Blk (w.alloc (.cells #[.pointer (some ⟨rb, 0, none⟩)] 34)) (w.heap.size) #[.pointer (some ⟨rb, 0, none⟩)] 34 := Blk.new _ _ _
  have b1 : Blk ((w.alloc (.cells #[.pointer (some ⟨rb, 0, none⟩)] 34)).alloc (.cells #[.int .i64 tk.kind, .string ⟨tk.text.toArray⟩, .int .i32 tk.num, .int .i64 tk.place, .int .i64 tk.line] 33)) (w.heap.size + 1) #[.int .i64 tk.kind, .string ⟨tk.text.toArray⟩, .int .i32 tk.num, .int .i64 tk.place, .int .i64 tk.line] 33 := blkAt (by simp)
  have b2 : FM (((w.alloc (.cells #[.pointer (some ⟨rb, 0, none⟩)] 34)).alloc (.cells #[.int .i64 tk.kind, .string ⟨tk.text.toArray⟩, .int .i32 tk.num, .int .i64 tk.place, .int .i64 tk.line] 33)).alloc (.map #[] 0)) (w.heap.size + 1 + 1) 0 (fun _ => none) := by
    have := FM.made ((w.alloc (.cells #[.pointer (some ⟨rb, 0, none⟩)] 34)).alloc (.cells #[.int .i64 tk.kind, .string ⟨tk.text.toArray⟩, .int .i32 tk.num, .int .i64 tk.place, .int .i64 tk.line] 33))
    simpa using this
  have b3 : Blk ((((w.alloc (.cells #[.pointer (some ⟨rb, 0, none⟩)] 34)).alloc (.cells #[.int .i64 tk.kind, .string ⟨tk.text.toArray⟩, .int .i32 tk.num, .int .i64 tk.place, .int .i64 tk.line] 33)).alloc (.map #[] 0)).alloc (.cells #[.map (some (w.heap.size + 1 + 1))] 81)) (w.heap.size + 1 + 1 + 1) #[.map (some (w.heap.size + 1 + 1))] 81 := blkAt (by simp)
  have b4 : Blk (((((w.alloc (.cells #[.pointer (some ⟨rb, 0, none⟩)] 34)).alloc (.cells #[.int .i64 tk.kind, .string ⟨tk.text.toArray⟩, .int .i32 tk.num, .int .i64 tk.place, .int .i64 tk.line] 33)).alloc (.map #[] 0)).alloc (.cells #[.map (some (w.heap.size + 1 + 1))] 81)).alloc (.cells #[.int .i64 0] 3)) (w.heap.size + 1 + 1 + 1 + 1) #[.int .i64 0] 3 := blkAt (by simp)
  have b5 : Blk ((((((w.alloc (.cells #[.pointer (some ⟨rb, 0, none⟩)] 34)).alloc (.cells #[.int .i64 tk.kind, .string ⟨tk.text.toArray⟩, .int .i32 tk.num, .int .i64 tk.place, .int .i64 tk.line] 33)).alloc (.map #[] 0)).alloc (.cells #[.map (some (w.heap.size + 1 + 1))] 81)).alloc (.cells #[.int .i64 0] 3)).alloc (.cells #[.nilFunc] 61)) (w.heap.size + 1 + 1 + 1 + 1 + 1) #[.nilFunc] 61 := blkAt (by simp)
  have s5 := b5.cell (i := 0) (v := .nilFunc) rfl
  have f5 := fun i => b5.free i
  have c1 : Blk ((((((w.alloc (.cells #[.pointer (some ⟨rb, 0, none⟩)] 34)).alloc (.cells #[.int .i64 tk.kind, .string ⟨tk.text.toArray⟩, .int .i32 tk.num, .int .i64 tk.place, .int .i64 tk.line] 33)).alloc (.map #[] 0)).alloc (.cells #[.map (some (w.heap.size + 1 + 1))] 81)).alloc (.cells #[.int .i64 0] 3)).alloc (.cells #[(.func (.func 53) #[] #[.pointer (some ⟨w.heap.size, 0, none⟩), .pointer (some ⟨w.heap.size + 1 + 1 + 1, 0, none⟩), .pointer (some ⟨w.heap.size + 1, 0, none⟩), .pointer (some ⟨w.heap.size + 1 + 1 + 1 + 1, 0, none⟩), .pointer (some ⟨w.heap.size + 1 + 1 + 1 + 1 + 1, 0, none⟩)])] 61)) (w.heap.size + 1) #[.int .i64 tk.kind, .string ⟨tk.text.toArray⟩, .int .i32 tk.num, .int .i64 tk.place, .int .i64 tk.line] 33 := (((b1.alloc _).alloc _).alloc _).alloc _
  have c5 : Blk ((((((w.alloc (.cells #[.pointer (some ⟨rb, 0, none⟩)] 34)).alloc (.cells #[.int .i64 tk.kind, .string ⟨tk.text.toArray⟩, .int .i32 tk.num, .int .i64 tk.place, .int .i64 tk.line] 33)).alloc (.map #[] 0)).alloc (.cells #[.map (some (w.heap.size + 1 + 1))] 81)).alloc (.cells #[.int .i64 0] 3)).alloc (.cells #[(.func (.func 53) #[] #[.pointer (some ⟨w.heap.size, 0, none⟩), .pointer (some ⟨w.heap.size + 1 + 1 + 1, 0, none⟩), .pointer (some ⟨w.heap.size + 1, 0, none⟩), .pointer (some ⟨w.heap.size + 1 + 1 + 1 + 1, 0, none⟩), .pointer (some ⟨w.heap.size + 1 + 1 + 1 + 1 + 1, 0, none⟩)])] 61)) (w.heap.size + 1 + 1 + 1 + 1 + 1) #[(.func (.func 53) #[] #[.pointer (some ⟨w.heap.size, 0, none⟩), .pointer (some ⟨w.heap.size + 1 + 1 + 1, 0, none⟩), .pointer (some ⟨w.heap.size + 1, 0, none⟩), .pointer (some ⟨w.heap.size + 1 + 1 + 1 + 1, 0, none⟩), .pointer (some ⟨w.heap.size + 1 + 1 + 1 + 1 + 1, 0, none⟩)])] 61 := blkAt (by simp)
  have t0 := c1.cell (i := 0) (v := .int .i64 tk.kind) rfl
  have t1 := c1.cell (i := 1) (v := .string ⟨tk.text.toArray⟩) rfl
  have t2 := c1.cell (i := 2) (v := .int .i32 tk.num) rfl
  have t3 := c1.cell (i := 3) (v := .int .i64 tk.place) rfl
  have t4 := c1.cell (i := 4) (v := .int .i64 tk.line) rfl
  have a0 := c5.cell (i := 0) (v := (.func (.func 53) #[] #[.pointer (some ⟨w.heap.size, 0, none⟩), .pointer (some ⟨w.heap.size + 1 + 1 + 1, 0, none⟩), .pointer (some ⟨w.heap.size + 1, 0, none⟩), .pointer (some ⟨w.heap.size + 1 + 1 + 1 + 1, 0, none⟩), .pointer (some ⟨w.heap.size + 1 + 1 + 1 + 1 + 1, 0, none⟩)])) rfl
  have X7 : Ext w ((((((w.alloc (.cells #[.pointer (some ⟨rb, 0, none⟩)] 34)).alloc (.cells #[.int .i64 tk.kind, .string ⟨tk.text.toArray⟩, .int .i32 tk.num, .int .i64 tk.place, .int .i64 tk.line] 33)).alloc (.map #[] 0)).alloc (.cells #[.map (some (w.heap.size + 1 + 1))] 81)).alloc (.cells #[.int .i64 0] 3)).alloc (.cells #[(.func (.func 53) #[] #[.pointer (some ⟨w.heap.size, 0, none⟩), .pointer (some ⟨w.heap.size + 1 + 1 + 1, 0, none⟩), .pointer (some ⟨w.heap.size + 1, 0, none⟩), .pointer (some ⟨w.heap.size + 1 + 1 + 1 + 1, 0, none⟩), .pointer (some ⟨w.heap.size + 1 + 1 + 1 + 1 + 1, 0, none⟩)])] 61)) := ((((((Ext.refl w).alloc _).alloc _).alloc _).alloc _).alloc _).alloc _
  have HT0 : Wid T (fun b => (T b ∧ b < w.heap.size) ∨ b = w.heap.size + 1 + 1 + 1 + 1 ∨ b = w.heap.size + 1 + 1) w := fun b => ⟨fun hb e => .inl ⟨e, hb⟩, fun e => by
    rcases e with e | e | e
    · exact .inl e.1
    · exact .inr (by omega)
    · exact .inr (by omega)⟩
  have HRD0 := hide (((unhide H).wid HT0).ext X7)
  have HCL0 : Hid (CL ((((((w.alloc (.cells #[.pointer (some ⟨rb, 0, none⟩)] 34)).alloc (.cells #[.int .i64 tk.kind, .string ⟨tk.text.toArray⟩, .int .i32 tk.num, .int .i64 tk.place, .int .i64 tk.line] 33)).alloc (.map #[] 0)).alloc (.cells #[.map (some (w.heap.size + 1 + 1))] 81)).alloc (.cells #[.int .i64 0] 3)).alloc (.cells #[(.func (.func 53) #[] #[.pointer (some ⟨w.heap.size, 0, none⟩), .pointer (some ⟨w.heap.size + 1 + 1 + 1, 0, none⟩), .pointer (some ⟨w.heap.size + 1, 0, none⟩), .pointer (some ⟨w.heap.size + 1 + 1 + 1 + 1, 0, none⟩), .pointer (some ⟨w.heap.size + 1 + 1 + 1 + 1 + 1, 0, none⟩)])] 61)) (fun b => (T b ∧ b < w.heap.size) ∨ b = w.heap.size + 1 + 1 + 1 + 1 ∨ b = w.heap.size + 1 + 1) rb mb (w.heap.size) (w.heap.size + 1 + 1 + 1) (w.heap.size + 1) (w.heap.size + 1 + 1 + 1 + 1) (w.heap.size + 1 + 1 + 1 + 1 + 1) (w.heap.size + 1 + 1) (.slice po ps.length pc) (.slice to tl.length tc) tk 0 0 []) := by
    refine ⟨((((b0.alloc _).alloc _).alloc _).alloc _).alloc _, (b3.alloc _).alloc _, c1, ?_, c5, ?_, ⟨?_, ?_, ?_, ?_⟩, ⟨.inr (.inl rfl), .inr (.inr rfl)⟩, ⟨by omega, by omega, by omega, by omega, by omega, fun e => ?_, fun e => ?_, fun e => ?_, fun e => ?_⟩, Nat.le_refl _⟩
    · exact b4.alloc _
    · have := b2.ext ((((Ext.refl _).alloc (.cells #[.map (some (w.heap.size + 1 + 1))] 81)).alloc (.cells #[.int .i64 0] 3)).alloc (.cells #[(.func (.func 53) #[] #[.pointer (some ⟨w.heap.size, 0, none⟩), .pointer (some ⟨w.heap.size + 1 + 1 + 1, 0, none⟩), .pointer (some ⟨w.heap.size + 1, 0, none⟩), .pointer (some ⟨w.heap.size + 1 + 1 + 1 + 1, 0, none⟩), .pointer (some ⟨w.heap.size + 1 + 1 + 1 + 1 + 1, 0, none⟩)])] 61))
      exact this.congr (fun k => by simp [inW])
    · rintro (⟨_, e⟩ | e | e) <;> omega
    · rintro (⟨_, e⟩ | e | e) <;> omega
    · rintro (⟨_, e⟩ | e | e) <;> omega
    · rintro (⟨_, e⟩ | e | e) <;> omega
    · have := (World.ownsRow.lt (unhide H).parts _ e).2; omega
    · have := (World.ownsRow.lt (unhide H).parts _ e).2; omega
    · have := (World.ownsRow.lt (unhide H).told _ e).2; omega
    · have := (World.ownsRow.lt (unhide H).told _ e).2; omega
  have HCALL := hide (add_any hE hEl 2049 [] tk 0 0 ((((((w.alloc (.cells #[.pointer (some ⟨rb, 0, none⟩)] 34)).alloc (.cells #[.int .i64 tk.kind, .string ⟨tk.text.toArray⟩, .int .i32 tk.num, .int .i64 tk.place, .int .i64 tk.line] 33)).alloc (.map #[] 0)).alloc (.cells #[.map (some (w.heap.size + 1 + 1))] 81)).alloc (.cells #[.int .i64 0] 3)).alloc (.cells #[(.func (.func 53) #[] #[.pointer (some ⟨w.heap.size, 0, none⟩), .pointer (some ⟨w.heap.size + 1 + 1 + 1, 0, none⟩), .pointer (some ⟨w.heap.size + 1, 0, none⟩), .pointer (some ⟨w.heap.size + 1 + 1 + 1 + 1, 0, none⟩), .pointer (some ⟨w.heap.size + 1 + 1 + 1 + 1 + 1, 0, none⟩)])] 61)) _ to tc tl (unhide HRD0) (unhide HCL0) (by omega) (by omega) htl hx)
  obtain ⟨q, hq⟩ : ∃ q, q = toldP E tl tk := ⟨_, rfl⟩
  rw [← hq]
  have HQ := hide hq
  have X7H := hide X7
  have HT0H := hide HT0
  clear hq b0 b1 b2 b3 b4 b5 c1 c5 X7 HRD0 HCL0 HT0
  go_enter Tryd.func23, Tryd.ntmps23
  go_wp2_with fail
  refine (unhide HCALL).mono ?_
  rintro e w8 ⟨ok, T8, to8, tc8, tl8, d8, nw8, rfl, hw8, hrd8, hcl8, ho8, _, _, htl8, hok, hno⟩
  have HOUT : Hid (Out T w w8) := (Out.of_ext (unhide X7H)).trans ho8 (fun b hb => (unhide HT0H b).2 hb)
  have HW8 : Hid (Wid T T8 w) := (unhide HT0H).trans hw8 (unhide X7H).size
  have HRD8 := hide hrd8
  have HOK := hide hok
  have HNO := hide hno
  clear hw8 hrd8 hcl8 ho8 hok hno s5 f5 t0 t1 t2 t3 t4 a0
  go_wp2
  go_ret
  refine ⟨unhide HOUT, ?_⟩
  have hq := unhide HQ
  unfold toldP at hq
  cases ok with
  | true =>
    obtain ⟨h1, _, xs, h2, h3⟩ := unhide HOK rfl
    rw [h2] at hq
    simp only at hq
    rw [h3, List.length_append] at h1
    rw [if_pos h1] at hq
    subst hq
    rw [← h3]
    exact ⟨rfl, by rw [h3, List.length_append]; exact h1, T8, to8, tc8, unhide HW8, unhide HRD8⟩
  | false =>
    rcases unhide HNO rfl with h2 | ⟨xs, d2, h2, h3⟩
    · rw [h2] at hq
      subst hq
      rfl
    · rw [h2] at hq
      simp only at hq
      rw [if_neg (by omega)] at hq
      subst hq
      rfl
end Go.Proofs.YtdcamcpffiilbaaDoor
