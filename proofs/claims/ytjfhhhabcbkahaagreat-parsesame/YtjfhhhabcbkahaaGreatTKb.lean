/-
  Rules go on, plain: all of them.
-/
import Derived.Test.YtjfhhhabcbkahaaGreatTK
namespace Go.Proofs.YtjfhhhabcbkahaaGreat
set_option linter.unusedVariables false
set_option linter.unusedSimpArgs false

/-- Tokens as lex tells them: numbers of 32 bits, words that are not empty. -/
def TokOk (L : List Tok) : Prop := ∀ k, I32 (tk L k).num ∧ (isNm L k = true → (tk L k).text ≠ [])
theorem take_tok {L : List Tok} {may : Bool} {i j : Nat} {o : Option Tok} (h : takeP L may i = (j, o)) : o = none ∨ (o = some (tk L i) ∧ may = true) := by
  unfold takeP at h
  split at h
  · rename_i hm
    exact .inr ⟨(Prod.mk.inj h).2.symm, hm⟩
  · exact .inl (Prod.mk.inj h).2.symm
theorem take_some {L : List Tok} {may : Bool} {i j : Nat} {t : Tok} (h : takeP L may i = (j, some t)) : t = tk L i ∧ may = true := by
  rcases take_tok h with h1 | ⟨h1, h2⟩
  · cases h1
  · exact ⟨Option.some.inj h1, h2⟩
section
variable {L : List Tok} {rec : Nat → Nat → Rp} {i : Nat} (hr : ∀ r k, k ≤ L.length → Adv L k (rec r k)) (hi : i ≤ L.length)
theorem adv_var (hr : ∀ r k, k ≤ L.length → Adv L k (rec r k)) (hi : i ≤ L.length) : Adv L i (varP L rec i) := by
  refine adv_bnd (adv_take hi name_lt) (fun j t _ hj => ?_)
  split
  · rename_i e
    exact (lea_bnd (hr 0 (j + 1) (text_lt e (by decide))).1 (fun k x _ hk => lea_here _ hk)).mono (Nat.le_succ j)
  · exact lea_here _ hj
theorem adv_declR (hr : ∀ r k, k ≤ L.length → Adv L k (rec r k)) (hi : i ≤ L.length) (pl : Int) (tx : Byts8) : Adv L i (declR L rec pl tx i) :=
  adv_bnd (adv_take hi type_lt) (fun k t _ hk => lea_bnd (adv_sev (fun m _ hm => adv_var hr hm) hk).1 (fun m vs _ hm => lea_bnd (lea_need _ hm (by decide)) (fun q _ _ hq => lea_here _ hq)))
theorem adv_decl (hr : ∀ r k, k ≤ L.length → Adv L k (rec r k)) (hi : i ≤ L.length) {ws : List Byts8} (hw : ∀ x ∈ ws, x ≠ []) : Adv L i (declP L rec ws i) := by
  unfold declP
  split
  · rename_i e
    exact (adv_declR hr (con_lt e hw) _ _).mono (Nat.le_succ i)
  · exact adv_declR hr hi _ _
theorem adv_param (hi : i ≤ L.length) : Adv L i (paramP L i) :=
  adv_bnd (adv_take hi type_lt) (fun j t _ hj => lea_bnd (adv_take hj name_lt).1 (fun k u _ hk => lea_here _ hk))
theorem adv_func (hr : ∀ r k, k ≤ L.length → Adv L k (rec r k)) (hi : i ≤ L.length) : Adv L i (funcP L rec i) :=
  adv_bnd (adv_take hi type_lt) (fun j t _ hj => lea_bnd (adv_take hj name_lt).1 (fun k u _ hk => lea_bnd (adv_enc (fun m _ hm => adv_param hm) hk).1 (fun m ps _ hm => lea_bnd (hr 13 m hm).1 (fun q b _ hq => lea_here _ hq))))
theorem adv_boundR (hi : i ≤ L.length) (b : Bool) (pl : Int) : Adv L i (boundR L b pl i) :=
  adv_bnd (adv_take hi (fun e => tk_lt (.inr (by rw [of_decide_eq_true e]; decide)))) (fun j t _ hj => lea_here _ hj)
theorem adv_bound (hi : i ≤ L.length) : Adv L i (boundP L i) := by
  unfold boundP
  split
  · rename_i e
    exact (adv_boundR (text_lt e (by decide)) _ _).mono (Nat.le_succ i)
  · exact adv_boundR hi _ _
theorem lea_blockL (hr : ∀ r k, k ≤ L.length → Adv L k (rec r k)) : ∀ (n : Nat) (acc : List (List Nd)) {j : Nat}, j ≤ L.length → Lea L j (blockL L (rec 12) n acc j)
  | 0, acc, j, hj => ⟨Nat.le_refl _, hj⟩
  | n + 1, acc, j, hj => by
    rw [blockL]
    split
    · rename_i e
      exact (adv_one _ (text_lt e (by decide))).1
    · exact lea_bnd (hr 12 j hj).1 (fun k x _ hk => lea_blockL hr n _ hk)
theorem adv_block (hr : ∀ r k, k ≤ L.length → Adv L k (rec r k)) (hi : i ≤ L.length) : Adv L i (blockP L rec i) :=
  adv_bnd (adv_need _ [] hi (by decide)) (fun j _ _ hj => lea_bnd (lea_blockL hr _ _ hj) (fun k l _ hk => lea_here _ hk))
theorem adv_branch (hr : ∀ r k, k ≤ L.length → Adv L k (rec r k)) (hi : i ≤ L.length) : Adv L i (branchP L rec i) := by
  refine adv_bnd (adv_need _ _ hi (by decide)) (fun j _ _ hj => lea_bnd (hr 0 j hj).1 (fun k x _ hk => lea_bnd (lea_need _ hk (by decide)) (fun m _ _ hm => lea_bnd (hr 12 m hm).1 (fun q y _ hq => ?_))))
  split
  · rename_i e
    exact (lea_bnd (hr 12 (q + 1) (text_lt e (by decide))).1 (fun s z _ hs => lea_here _ hs)).mono (Nat.le_succ q)
  · exact lea_here _ hq
theorem adv_loop (hk : TokOk L) (hr : ∀ r k, k ≤ L.length → Adv L k (rec r k)) (hi : i ≤ L.length) : Adv L i (loopP L rec i) := by
  refine adv_bnd (adv_need _ _ hi (by decide)) (fun j _ _ hj => lea_bnd (adv_take hj name_lt).1 (fun k t ht hkl => ?_))
  have hne : t.text ≠ [] := by
    obtain ⟨rfl, h2⟩ := take_some ht
    exact (hk j).2 h2
  refine lea_bnd (lea_need _ hkl (by decide)) (fun m _ _ hm => lea_bnd (adv_bound hm).1 (fun q x _ hq => lea_bnd (lea_need _ hq ?_) (fun s _ _ hs => lea_bnd (adv_bound hs).1 (fun u y _ hu => lea_bnd (lea_need _ hu ?_) (fun v _ _ hv => lea_bnd (hr 12 v hv).1 (fun z b _ hz => lea_here _ hz))))))
  · intro x hx
    simp only [List.mem_cons, List.not_mem_nil, or_false] at hx
    rcases hx with rfl | rfl | rfl
    · decide
    · exact hne
    · decide
  · intro x hx
    simp only [List.mem_cons, List.not_mem_nil, or_false] at hx
    rcases hx with rfl | rfl | rfl | rfl
    · decide
    · exact hne
    · decide
    · decide
theorem adv_leave (hr : ∀ r k, k ≤ L.length → Adv L k (rec r k)) (hi : i ≤ L.length) : Adv L i (leaveP L rec i) := by
  refine adv_bnd (adv_need _ [] hi (by decide)) (fun j _ _ hj => ?_)
  split
  · exact lea_bnd (lea_need _ hj (by decide)) (fun m _ _ hm => lea_here _ hm)
  · exact lea_bnd (hr 0 j hj).1 (fun k x _ hk => lea_bnd (lea_need _ hk (by decide)) (fun m _ _ hm => lea_here _ hm))
theorem adv_stmt (hr : ∀ r k, k ≤ L.length → Adv L k (rec r k)) (hi : i ≤ L.length) : Adv L i (stmtP L rec i) := by
  unfold stmtP
  split
  · exact hr _ _ hi
  split
  · exact hr _ _ hi
  split
  · exact hr _ _ hi
  split
  · exact hr _ _ hi
  split
  · exact adv_bnd (adv_need _ _ hi (by decide)) (fun m _ _ hm => lea_here _ hm)
  split
  · exact adv_bnd (adv_need _ _ hi (by decide)) (fun m _ _ hm => lea_here _ hm)
  split
  · exact adv_decl hr hi (by decide)
  · exact adv_bnd (hr 0 i hi) (fun j x _ hj => lea_bnd (lea_need _ hj (by decide)) (fun m _ _ hm => lea_here _ hm))
theorem adv_expr (hr : ∀ r k, k ≤ L.length → Adv L k (rec r k)) (hi : i ≤ L.length) : Adv L i (exprP L rec i) := by
  refine adv_bnd (hr 1 i hi) (fun j x _ hj => ?_)
  split
  · rename_i e
    exact (adv_oper (fun k _ hk => hr 0 k hk) (con_lt ((Bool.and_eq_true _ _).mp e).2 (by decide))).1
  · exact lea_here _ hj
theorem adv_cond (hr : ∀ r k, k ≤ L.length → Adv L k (rec r k)) (hi : i ≤ L.length) : Adv L i (condP L rec i) := by
  refine adv_bnd (hr 2 i hi) (fun j x _ hj => ?_)
  split
  · rename_i e
    exact (lea_bnd (hr 0 (j + 1) (text_lt e (by decide))).1 (fun k y _ hk => lea_bnd (lea_need _ hk (by decide)) (fun m _ _ hm => lea_bnd (hr 1 m hm).1 (fun q z _ hq => lea_here _ hq)))).mono (Nat.le_succ j)
  · exact lea_here _ hj
theorem lea_rowL {side : Nat → Rp} (hr : ∀ k, k ≤ L.length → Adv L k (side k)) {ops : List Byts8} (ho : ∀ x ∈ ops, x ≠ []) : ∀ (n : Nat) (x : List Nd) {j : Nat}, j ≤ L.length → Lea L j (rowL L side ops n x j)
  | 0, x, j, hj => ⟨Nat.le_refl _, hj⟩
  | n + 1, x, j, hj => by
    rw [rowL]
    split
    · rename_i e
      exact lea_bnd (adv_oper (fun k _ hk => hr k hk) (con_lt e ho)).1 (fun k y _ hk => lea_rowL hr ho n _ hk)
    · exact lea_here _ hj
theorem ops_ne (k : Nat) : ∀ x ∈ opsW k, x ≠ [] := by
  unfold opsW
  split <;> decide
theorem adv_row (hr : ∀ r k, k ≤ L.length → Adv L k (rec r k)) (hi : i ≤ L.length) (k : Nat) : Adv L i (rowP L rec k i) :=
  adv_bnd (hr (3 + k) i hi) (fun j x _ hj => lea_rowL (fun m hm => hr (3 + k) m hm) (ops_ne k) _ _ hj)
theorem adv_unary (hr : ∀ r k, k ≤ L.length → Adv L k (rec r k)) (hi : i ≤ L.length) : Adv L i (unaryP L rec i) := by
  unfold unaryP
  split
  · rename_i e
    exact (lea_bnd (hr 8 (i + 1) (con_lt e (by decide))).1 (fun j x _ hj => lea_here _ hj)).adv (Nat.lt_succ_self i)
  · exact hr 9 i hi
theorem lea_postL : ∀ (n : Nat) (x : List Nd) {j : Nat}, j ≤ L.length → Lea L j (postL L n x j)
  | 0, x, j, hj => ⟨Nat.le_refl _, hj⟩
  | n + 1, x, j, hj => by
    rw [postL]
    split
    · rename_i e
      exact (lea_bnd (adv_take (text_lt e (by decide)) name_lt).1 (fun k t _ hk => lea_postL n _ hk)).mono (Nat.le_succ j)
    · exact lea_here _ hj
theorem adv_post (hr : ∀ r k, k ≤ L.length → Adv L k (rec r k)) (hi : i ≤ L.length) : Adv L i (postP L rec i) :=
  adv_bnd (hr 10 i hi) (fun j x _ hj => lea_postL _ _ hj)
theorem adv_call (hr : ∀ r k, k ≤ L.length → Adv L k (rec r k)) (hi : i ≤ L.length) : Adv L i (callP L rec i) :=
  adv_bnd (adv_take hi (fun e => by
    rcases (Bool.or_eq_true _ _).mp e with h | h
    · exact name_lt h
    · exact type_lt h)) (fun j t _ hj => lea_bnd (adv_enc (fun m _ hm => hr 0 m hm) hj).1 (fun k l _ hk => lea_here _ hk))
theorem adv_first (hr : ∀ r k, k ≤ L.length → Adv L k (rec r k)) (hi : i ≤ L.length) : Adv L i (firstP L rec i) := by
  unfold firstP
  split
  · rename_i e
    exact (lea_bnd (hr 0 (i + 1) (text_lt e (by decide))).1 (fun j x _ hj => lea_bnd (lea_need _ hj (by decide)) (fun k _ _ hk => lea_here _ hk))).adv (Nat.lt_succ_self i)
  split
  · rename_i e
    exact adv_one _ (tk_lt (.inr (by rw [e]; decide)))
  split
  · rename_i e
    exact adv_one _ (tk_lt (.inr (by rw [e]; decide)))
  split
  · rename_i e
    rcases e with e | e
    · exact adv_one _ (text_lt e (by decide))
    · exact adv_one _ (text_lt e (by decide))
  split
  · exact hr 11 i hi
  · exact adv_bnd (adv_take hi name_lt) (fun j t _ hj => lea_here _ hj)
theorem adv_rule (hk : TokOk L) (hr : ∀ r k, k ≤ L.length → Adv L k (rec r k)) (hi : i ≤ L.length) (r : Nat) : Adv L i (ruleP L rec r i) := by
  unfold ruleP
  split
  · exact adv_expr hr hi
  · exact adv_cond hr hi
  · exact adv_row hr hi 0
  · exact adv_row hr hi 1
  · exact adv_row hr hi 2
  · exact adv_row hr hi 3
  · exact adv_row hr hi 4
  · exact adv_row hr hi 5
  · exact adv_unary hr hi
  · exact adv_post hr hi
  · exact adv_first hr hi
  · exact adv_call hr hi
  · exact adv_stmt hr hi
  · exact adv_block hr hi
  · exact adv_branch hr hi
  · exact adv_loop hk hr hi
  · exact adv_leave hr hi
end
theorem adv_go {L : List Tok} (hk : TokOk L) : ∀ (f r i : Nat), i ≤ L.length → Adv L i (goP L f r i)
  | 0, r, i, hi => adv_no hi
  | f + 1, r, i, hi => adv_rule hk (fun r k h => adv_go hk f r k h) hi r
end Go.Proofs.YtjfhhhabcbkahaaGreat
