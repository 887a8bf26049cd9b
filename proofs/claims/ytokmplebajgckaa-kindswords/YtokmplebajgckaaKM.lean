/-
  The built-in functions, in a map.
-/
import Derived.Test.YtokmplebajgckaaKC
import Derived.Maps.OwnSet
import Derived.Maps.Views
import Derived.StringKeys
namespace Go.Proofs.Ytokmplebajgckaa
open Go.RowKit
set_option linter.unusedVariables false
set_option linter.unusedSimpArgs false

def heldV : Value → Option (DataW Value × List MemPlace) := fun v => some (.held v, [])
/-- Block mb is a map of at most n entries: at the text k stands g k. -/
def FM (w : World) (mb n : Nat) (g : Byts8 → Option Value) : Prop := ∃ D : DataW Value, w.ownsMap Try.prog 9 heldV mb n D ∧ ∀ k, Maps.has D (.string k) = (g k).isSome ∧ ∀ z, D.atKey (.string k) z = ((g k).map DataW.held).getD z
theorem keyS (k : Byts8) (hk : k.length ≤ maxLen) : keyOf Try.prog 9 (.string ⟨k.toArray⟩) = some (.string k) := by
  have := WideMaps.keyOf_string_mk (P := Try.prog) (k := 9) Try.underlying9 (s := ⟨k.toArray⟩) (show (⟨k.toArray⟩ : ByteArray).size ≤ maxLen from hk)
  simpa using this
theorem keyedS : Maps.Keyed Try.prog 9 := Maps.string_keyed Try.underlying9
section
variable {w w' : World} {mb n : Nat} {g : Byts8 → Option Value}
theorem FM.made (w : World) : FM (w.alloc (.map #[] 0)) w.heap.size 0 (fun _ => none) := ⟨.map [], World.ownsMap_made _ _ _ _, fun k => ⟨rfl, fun z => rfl⟩⟩
theorem FM.ext (h : FM w mb n g) (hx : Ext w w') : FM w' mb n g := by
  obtain ⟨D, ⟨es, clock, hb, r⟩, h2⟩ := h
  have hl : mb < w.heap.size := (Array.getElem?_eq_some_iff.1 hb).1
  exact ⟨D, ⟨es, clock, (hx.block mb hl).trans hb, r⟩, h2⟩
theorem FM.look {t e : TypeId} {z : Value} (h : FM w mb n g) (ht : Try.prog.underlying t = some (.map 9 e)) (hz : (zeroValue e).run Try.prog w = .ok z w) (k : Byts8) (hk : k.length ≤ maxLen) :
    (Instr.lookup t (.map (some mb)) (.string ⟨k.toArray⟩) true).run Try.prog w = .ok (.tuple #[(g k).getD z, .bool (g k).isSome]) w := by
  obtain ⟨D, h1, h2⟩ := h
  obtain ⟨v, ps, hrun, hv⟩ := h1.look_ok keyedS ht hz (zd := .held z) (zp := []) rfl (keyS k hk)
  rw [hrun, (h2 k).1]
  have hv2 : DataW.held v = ((g k).map DataW.held).getD (.held z) := by
    rw [← (h2 k).2]
    have := congrArg (Option.map Prod.fst) hv
    simpa [heldV] using this
  have : v = (g k).getD z := by
    cases hg : g k with
    | none => rw [hg] at hv2; simpa using hv2
    | some x => rw [hg] at hv2; simpa using hv2
  rw [this]
theorem FM.put {t e : TypeId} (h : FM w mb n g) (ht : Try.prog.underlying t = some (.map 9 e)) (hn : n < maxLen) (k : Byts8) (hk : k.length ≤ maxLen) (v : Value) :
    ∃ w', (Instr.mapUpdate t (.map (some mb)) (.string ⟨k.toArray⟩) v).run Try.prog w = .ok () w' ∧ FM w' mb (n + 1) (fun k' => if k' = k then some v else g k') ∧ w.grownBy w' (some mb) := by
  obtain ⟨D, h1, h2⟩ := h
  obtain ⟨w', hrun, h3, h4⟩ := h1.store keyedS ht hn (keyS k hk) (show heldV v = some (.held v, []) from rfl)
  refine ⟨w', hrun, ⟨_, h3, fun k' => ?_⟩, h4.grown⟩
  have hD := h1.isMap
  by_cases hkk : k' = k
  · subst hkk
    dsimp only
    rw [if_pos rfl]
    exact ⟨Maps.has_put_same hD (show WideAt.IsKeyLit (Lit.string k') from trivial) _, fun z => Maps.atKey_put_same hD (show WideAt.IsKeyLit (Lit.string k') from trivial) _ z⟩
  · dsimp only
    rw [if_neg hkk]
    have hne : Lit.string k' ≠ Lit.string k := fun e => hkk (by cases e; rfl)
    exact ⟨(Maps.has_put_other hne _).trans (h2 k').1, fun z => (Maps.atKey_put_other hne _ z).trans ((h2 k').2 z)⟩
end
/-- What stands at a text in a row of texts and pairs, the first one first. -/
def gL : List (Byts8 × Ty) → Byts8 → Option Ty
  | [], _ => none
  | p :: l, k => if k = p.1 then some p.2 else gL l k
def tyV (t : Ty) : Value := .agg #[.int .i64 (t).1, .int .i64 (t).2]
def MapIn (w0 : World) (l : List (Byts8 × Ty)) (w : World) : Prop := FM w w0.heap.size l.length (fun k => (gL l k).map tyV) ∧ Ext w0 w
section
variable {w : World} {ops : Array Oper} {rest : List Oper} {o : Oper} {a : Act} {Q : Exit → Act → World → Prop}
theorem wpList_insert_M {w0 : World} {l : List (Byts8 × Ty)} (hg : o.guard = none) (m x v : Operand) (t : TypeId) (hop : o.op = Op.insert t m x v)
    (hm : a.eval m = .map (some w0.heap.size)) (h : MapIn w0 l w) (hn : l.length < 100) (k : Byts8) (hk : k.length ≤ 100) (hx : a.eval x = .string ⟨k.toArray⟩) (u : Ty) (hv : a.eval v = tyV u) (ht : Try.prog.underlying t = some (.map 9 62))
    (hK : ∀ w', MapIn w0 ((k, u) :: l) w' → wpList Try.prog ops Q rest (a.put o.dst undef) w') :
    wpList Try.prog ops Q (o :: rest) a w := by
  refine wpList_plain hg fun K' hK' => ?_
  obtain ⟨w', hrun, r1, r2⟩ := h.1.put ht (by unfold maxLen; omega) k (by unfold maxLen; omega) (tyV u)
  unfold Oper.wp
  simp [execOp, hop, hm, hx, hv, hrun, Result.andThen]
  refine hK' _ _ (hK w' ⟨?_, ?_⟩)
  · have e : (fun k' => if k' = k then some (tyV u) else (gL l k').map tyV) = fun k' => (gL ((k, u) :: l) k').map tyV := by
      funext k'
      unfold gL
      by_cases hkk : k' = k
      · simp [hkk]
      · simp only [hkk, if_false]
        cases l <;> rfl
    rw [← e]
    exact r1
  · exact Below.trans h.2 (grown_below r2 h.2.size (fun b hb => by cases hb; exact Nat.le_refl _))
end
def fns : List (Byts8 × Ty) := [([97, 98, 115], ⟨1, 1⟩), ([115, 105, 103, 110], ⟨2, 1⟩), ([102, 108, 111, 111, 114], ⟨3, 1⟩), ([102, 114, 97, 99, 116], ⟨4, 1⟩), ([115, 113, 114, 116], ⟨5, 1⟩), ([105, 110, 118, 101, 114, 115, 101, 115, 113, 114, 116], ⟨6, 1⟩), ([101, 120, 112, 50], ⟨7, 1⟩), ([108, 111, 103, 50], ⟨8, 1⟩), ([115, 105, 110], ⟨9, 1⟩), ([99, 111, 115], ⟨10, 1⟩), ([110, 111, 114, 109, 97, 108, 105, 122, 101], ⟨11, 1⟩), ([109, 105, 110], ⟨12, 3⟩), ([109, 97, 120], ⟨13, 3⟩), ([109, 111, 100], ⟨14, 3⟩), ([112, 111, 119], ⟨15, 2⟩), ([115, 116, 101, 112], ⟨16, 4⟩), ([109, 105, 120], ⟨17, 5⟩), ([99, 108, 97, 109, 112], ⟨18, 6⟩), ([100, 111, 116], ⟨19, 2⟩), ([108, 101, 110, 103, 116, 104], ⟨20, 1⟩), ([99, 114, 111, 115, 115], ⟨21, 7⟩), ([116, 101, 120, 116, 117, 114, 101, 50, 68], ⟨22, 8⟩)]
/-- A built-in function: its number, and what it is of. -/
def fnP (k : Byts8) : Option Ty := gL fns k
theorem gL_mem : ∀ (l : List (Byts8 × Ty)) (k : Byts8), k ∉ l.map (·.1) → gL l k = none
  | [], k, _ => rfl
  | p :: l, k, h => by
    unfold gL
    simp only [List.map_cons, List.mem_cons, not_or] at h
    rw [if_neg h.1]
    exact gL_mem l k h.2
theorem gL_rev (k : Byts8) : gL fns.reverse k = fnP k := by
  by_cases h : k ∈ fns.map (·.1)
  · have hall : ∀ k ∈ fns.map (·.1), gL fns.reverse k = fnP k := by decide
    exact hall k h
  · unfold fnP
    rw [gL_mem fns k h, gL_mem fns.reverse k (by simpa using h)]
set_option maxHeartbeats 4000000 in
set_option maxRecDepth 100000 in
theorem functions_any (w : World) : Calls Try.prog 39 #[] w fun e w' => e = .returned (.map (some w.heap.size)) ∧ FM w' w.heap.size 22 (fun k => (fnP k).map tyV) ∧ Ext w w' := by
  have hmm := @run_makeMap Try.prog
  have HM0 : Hid (MapIn w [] (w.alloc (.map #[] 0))) := ⟨FM.made w, (Ext.refl w).alloc _⟩
  go_enter Try.func39, Try.ntmps39
  go_wp2_with (refine wpList_buildTo rfl 62 _ rfl (some 2) rfl #[.int .i64 1, .int .i64 1] (by kernel_rfl) ?_; refine wpList_insert_M rfl (.tmp 1) (.const (.string ⟨#[97, 98, 115]⟩)) (.tmp 2) 64 rfl rfl (unhide HM0) (by decide) [97, 98, 115] (by decide) rfl ⟨1, 1⟩ rfl Try.underlying64 ?_; intro w1 hM1; have HM1 := hide hM1; clear hM1 HM0; (try simp only [Act.put, List.setIfInBounds_toArray, List.set_cons_zero, List.set_cons_succ]); refine wpList_buildTo rfl 62 _ rfl (some 3) rfl #[.int .i64 2, .int .i64 1] (by kernel_rfl) ?_; refine wpList_insert_M rfl (.tmp 1) (.const (.string ⟨#[115, 105, 103, 110]⟩)) (.tmp 3) 64 rfl rfl (unhide HM1) (by decide) [115, 105, 103, 110] (by decide) rfl ⟨2, 1⟩ rfl Try.underlying64 ?_; intro w2 hM2; have HM2 := hide hM2; clear hM2 HM1; (try simp only [Act.put, List.setIfInBounds_toArray, List.set_cons_zero, List.set_cons_succ]); refine wpList_buildTo rfl 62 _ rfl (some 4) rfl #[.int .i64 3, .int .i64 1] (by kernel_rfl) ?_; refine wpList_insert_M rfl (.tmp 1) (.const (.string ⟨#[102, 108, 111, 111, 114]⟩)) (.tmp 4) 64 rfl rfl (unhide HM2) (by decide) [102, 108, 111, 111, 114] (by decide) rfl ⟨3, 1⟩ rfl Try.underlying64 ?_; intro w3 hM3; have HM3 := hide hM3; clear hM3 HM2; (try simp only [Act.put, List.setIfInBounds_toArray, List.set_cons_zero, List.set_cons_succ]); refine wpList_buildTo rfl 62 _ rfl (some 5) rfl #[.int .i64 4, .int .i64 1] (by kernel_rfl) ?_; refine wpList_insert_M rfl (.tmp 1) (.const (.string ⟨#[102, 114, 97, 99, 116]⟩)) (.tmp 5) 64 rfl rfl (unhide HM3) (by decide) [102, 114, 97, 99, 116] (by decide) rfl ⟨4, 1⟩ rfl Try.underlying64 ?_; intro w4 hM4; have HM4 := hide hM4; clear hM4 HM3; (try simp only [Act.put, List.setIfInBounds_toArray, List.set_cons_zero, List.set_cons_succ]); refine wpList_buildTo rfl 62 _ rfl (some 6) rfl #[.int .i64 5, .int .i64 1] (by kernel_rfl) ?_; refine wpList_insert_M rfl (.tmp 1) (.const (.string ⟨#[115, 113, 114, 116]⟩)) (.tmp 6) 64 rfl rfl (unhide HM4) (by decide) [115, 113, 114, 116] (by decide) rfl ⟨5, 1⟩ rfl Try.underlying64 ?_; intro w5 hM5; have HM5 := hide hM5; clear hM5 HM4; (try simp only [Act.put, List.setIfInBounds_toArray, List.set_cons_zero, List.set_cons_succ]); refine wpList_buildTo rfl 62 _ rfl (some 7) rfl #[.int .i64 6, .int .i64 1] (by kernel_rfl) ?_; refine wpList_insert_M rfl (.tmp 1) (.const (.string ⟨#[105, 110, 118, 101, 114, 115, 101, 115, 113, 114, 116]⟩)) (.tmp 7) 64 rfl rfl (unhide HM5) (by decide) [105, 110, 118, 101, 114, 115, 101, 115, 113, 114, 116] (by decide) rfl ⟨6, 1⟩ rfl Try.underlying64 ?_; intro w6 hM6; have HM6 := hide hM6; clear hM6 HM5; (try simp only [Act.put, List.setIfInBounds_toArray, List.set_cons_zero, List.set_cons_succ]); refine wpList_buildTo rfl 62 _ rfl (some 8) rfl #[.int .i64 7, .int .i64 1] (by kernel_rfl) ?_; refine wpList_insert_M rfl (.tmp 1) (.const (.string ⟨#[101, 120, 112, 50]⟩)) (.tmp 8) 64 rfl rfl (unhide HM6) (by decide) [101, 120, 112, 50] (by decide) rfl ⟨7, 1⟩ rfl Try.underlying64 ?_; intro w7 hM7; have HM7 := hide hM7; clear hM7 HM6; (try simp only [Act.put, List.setIfInBounds_toArray, List.set_cons_zero, List.set_cons_succ]); refine wpList_buildTo rfl 62 _ rfl (some 9) rfl #[.int .i64 8, .int .i64 1] (by kernel_rfl) ?_; refine wpList_insert_M rfl (.tmp 1) (.const (.string ⟨#[108, 111, 103, 50]⟩)) (.tmp 9) 64 rfl rfl (unhide HM7) (by decide) [108, 111, 103, 50] (by decide) rfl ⟨8, 1⟩ rfl Try.underlying64 ?_; intro w8 hM8; have HM8 := hide hM8; clear hM8 HM7; (try simp only [Act.put, List.setIfInBounds_toArray, List.set_cons_zero, List.set_cons_succ]); refine wpList_buildTo rfl 62 _ rfl (some 10) rfl #[.int .i64 9, .int .i64 1] (by kernel_rfl) ?_; refine wpList_insert_M rfl (.tmp 1) (.const (.string ⟨#[115, 105, 110]⟩)) (.tmp 10) 64 rfl rfl (unhide HM8) (by decide) [115, 105, 110] (by decide) rfl ⟨9, 1⟩ rfl Try.underlying64 ?_; intro w9 hM9; have HM9 := hide hM9; clear hM9 HM8; (try simp only [Act.put, List.setIfInBounds_toArray, List.set_cons_zero, List.set_cons_succ]); refine wpList_buildTo rfl 62 _ rfl (some 11) rfl #[.int .i64 10, .int .i64 1] (by kernel_rfl) ?_; refine wpList_insert_M rfl (.tmp 1) (.const (.string ⟨#[99, 111, 115]⟩)) (.tmp 11) 64 rfl rfl (unhide HM9) (by decide) [99, 111, 115] (by decide) rfl ⟨10, 1⟩ rfl Try.underlying64 ?_; intro w10 hM10; have HM10 := hide hM10; clear hM10 HM9; (try simp only [Act.put, List.setIfInBounds_toArray, List.set_cons_zero, List.set_cons_succ]); refine wpList_buildTo rfl 62 _ rfl (some 12) rfl #[.int .i64 11, .int .i64 1] (by kernel_rfl) ?_; refine wpList_insert_M rfl (.tmp 1) (.const (.string ⟨#[110, 111, 114, 109, 97, 108, 105, 122, 101]⟩)) (.tmp 12) 64 rfl rfl (unhide HM10) (by decide) [110, 111, 114, 109, 97, 108, 105, 122, 101] (by decide) rfl ⟨11, 1⟩ rfl Try.underlying64 ?_; intro w11 hM11; have HM11 := hide hM11; clear hM11 HM10; (try simp only [Act.put, List.setIfInBounds_toArray, List.set_cons_zero, List.set_cons_succ]); refine wpList_buildTo rfl 62 _ rfl (some 13) rfl #[.int .i64 12, .int .i64 3] (by kernel_rfl) ?_; refine wpList_insert_M rfl (.tmp 1) (.const (.string ⟨#[109, 105, 110]⟩)) (.tmp 13) 64 rfl rfl (unhide HM11) (by decide) [109, 105, 110] (by decide) rfl ⟨12, 3⟩ rfl Try.underlying64 ?_; intro w12 hM12; have HM12 := hide hM12; clear hM12 HM11; (try simp only [Act.put, List.setIfInBounds_toArray, List.set_cons_zero, List.set_cons_succ]); refine wpList_buildTo rfl 62 _ rfl (some 14) rfl #[.int .i64 13, .int .i64 3] (by kernel_rfl) ?_; refine wpList_insert_M rfl (.tmp 1) (.const (.string ⟨#[109, 97, 120]⟩)) (.tmp 14) 64 rfl rfl (unhide HM12) (by decide) [109, 97, 120] (by decide) rfl ⟨13, 3⟩ rfl Try.underlying64 ?_; intro w13 hM13; have HM13 := hide hM13; clear hM13 HM12; (try simp only [Act.put, List.setIfInBounds_toArray, List.set_cons_zero, List.set_cons_succ]); refine wpList_buildTo rfl 62 _ rfl (some 15) rfl #[.int .i64 14, .int .i64 3] (by kernel_rfl) ?_; refine wpList_insert_M rfl (.tmp 1) (.const (.string ⟨#[109, 111, 100]⟩)) (.tmp 15) 64 rfl rfl (unhide HM13) (by decide) [109, 111, 100] (by decide) rfl ⟨14, 3⟩ rfl Try.underlying64 ?_; intro w14 hM14; have HM14 := hide hM14; clear hM14 HM13; (try simp only [Act.put, List.setIfInBounds_toArray, List.set_cons_zero, List.set_cons_succ]); refine wpList_buildTo rfl 62 _ rfl (some 16) rfl #[.int .i64 15, .int .i64 2] (by kernel_rfl) ?_; refine wpList_insert_M rfl (.tmp 1) (.const (.string ⟨#[112, 111, 119]⟩)) (.tmp 16) 64 rfl rfl (unhide HM14) (by decide) [112, 111, 119] (by decide) rfl ⟨15, 2⟩ rfl Try.underlying64 ?_; intro w15 hM15; have HM15 := hide hM15; clear hM15 HM14; (try simp only [Act.put, List.setIfInBounds_toArray, List.set_cons_zero, List.set_cons_succ]); refine wpList_buildTo rfl 62 _ rfl (some 17) rfl #[.int .i64 16, .int .i64 4] (by kernel_rfl) ?_; refine wpList_insert_M rfl (.tmp 1) (.const (.string ⟨#[115, 116, 101, 112]⟩)) (.tmp 17) 64 rfl rfl (unhide HM15) (by decide) [115, 116, 101, 112] (by decide) rfl ⟨16, 4⟩ rfl Try.underlying64 ?_; intro w16 hM16; have HM16 := hide hM16; clear hM16 HM15; (try simp only [Act.put, List.setIfInBounds_toArray, List.set_cons_zero, List.set_cons_succ]); refine wpList_buildTo rfl 62 _ rfl (some 18) rfl #[.int .i64 17, .int .i64 5] (by kernel_rfl) ?_; refine wpList_insert_M rfl (.tmp 1) (.const (.string ⟨#[109, 105, 120]⟩)) (.tmp 18) 64 rfl rfl (unhide HM16) (by decide) [109, 105, 120] (by decide) rfl ⟨17, 5⟩ rfl Try.underlying64 ?_; intro w17 hM17; have HM17 := hide hM17; clear hM17 HM16; (try simp only [Act.put, List.setIfInBounds_toArray, List.set_cons_zero, List.set_cons_succ]); refine wpList_buildTo rfl 62 _ rfl (some 19) rfl #[.int .i64 18, .int .i64 6] (by kernel_rfl) ?_; refine wpList_insert_M rfl (.tmp 1) (.const (.string ⟨#[99, 108, 97, 109, 112]⟩)) (.tmp 19) 64 rfl rfl (unhide HM17) (by decide) [99, 108, 97, 109, 112] (by decide) rfl ⟨18, 6⟩ rfl Try.underlying64 ?_; intro w18 hM18; have HM18 := hide hM18; clear hM18 HM17; (try simp only [Act.put, List.setIfInBounds_toArray, List.set_cons_zero, List.set_cons_succ]); refine wpList_buildTo rfl 62 _ rfl (some 20) rfl #[.int .i64 19, .int .i64 2] (by kernel_rfl) ?_; refine wpList_insert_M rfl (.tmp 1) (.const (.string ⟨#[100, 111, 116]⟩)) (.tmp 20) 64 rfl rfl (unhide HM18) (by decide) [100, 111, 116] (by decide) rfl ⟨19, 2⟩ rfl Try.underlying64 ?_; intro w19 hM19; have HM19 := hide hM19; clear hM19 HM18; (try simp only [Act.put, List.setIfInBounds_toArray, List.set_cons_zero, List.set_cons_succ]); refine wpList_buildTo rfl 62 _ rfl (some 21) rfl #[.int .i64 20, .int .i64 1] (by kernel_rfl) ?_; refine wpList_insert_M rfl (.tmp 1) (.const (.string ⟨#[108, 101, 110, 103, 116, 104]⟩)) (.tmp 21) 64 rfl rfl (unhide HM19) (by decide) [108, 101, 110, 103, 116, 104] (by decide) rfl ⟨20, 1⟩ rfl Try.underlying64 ?_; intro w20 hM20; have HM20 := hide hM20; clear hM20 HM19; (try simp only [Act.put, List.setIfInBounds_toArray, List.set_cons_zero, List.set_cons_succ]); refine wpList_buildTo rfl 62 _ rfl (some 22) rfl #[.int .i64 21, .int .i64 7] (by kernel_rfl) ?_; refine wpList_insert_M rfl (.tmp 1) (.const (.string ⟨#[99, 114, 111, 115, 115]⟩)) (.tmp 22) 64 rfl rfl (unhide HM20) (by decide) [99, 114, 111, 115, 115] (by decide) rfl ⟨21, 7⟩ rfl Try.underlying64 ?_; intro w21 hM21; have HM21 := hide hM21; clear hM21 HM20; (try simp only [Act.put, List.setIfInBounds_toArray, List.set_cons_zero, List.set_cons_succ]); refine wpList_buildTo rfl 62 _ rfl (some 23) rfl #[.int .i64 22, .int .i64 8] (by kernel_rfl) ?_; refine wpList_insert_M rfl (.tmp 1) (.const (.string ⟨#[116, 101, 120, 116, 117, 114, 101, 50, 68]⟩)) (.tmp 23) 64 rfl rfl (unhide HM21) (by decide) [116, 101, 120, 116, 117, 114, 101, 50, 68] (by decide) rfl ⟨22, 8⟩ rfl Try.underlying64 ?_; intro w22 hM22; have HM22 := hide hM22; clear hM22 HM21; (try simp only [Act.put, List.setIfInBounds_toArray, List.set_cons_zero, List.set_cons_succ]))
  go_ret
  have e : (fun k => (fnP k).map tyV) = fun k => (gL fns.reverse k).map tyV := by
    funext k
    rw [gL_rev]
  rw [e]
  exact ⟨rfl, (unhide HM22).1, (unhide HM22).2⟩
end Go.Proofs.Ytokmplebajgckaa
