/-
  No rule makes more nodes than it takes tokens.
-/
import Derived.Test.YtjfhhhabcbkahaaGreatTK
namespace Go.Proofs.YtjfhhhabcbkahaaGreat
set_option linter.unusedVariables false
set_option linter.unusedSimpArgs false

theorem bnd_inv {A B : Type} {r : Nat × Option A} {f : Nat → A → Nat × Option B} {j : Nat} {y : B} (h : bnd r f = (j, some y)) : ∃ k a, r = (k, some a) ∧ f k a = (j, some y) := by
  obtain ⟨k, o⟩ := r
  cases o with
  | none => cases h
  | some a => exact ⟨k, a, rfl, h⟩
theorem take_inv {L : List Tok} {m : Bool} {i k : Nat} {t : Tok} (h : takeP L m i = (k, some t)) : k = i + 1 := by
  unfold takeP at h
  split at h
  · exact (Prod.mk.inj h).1.symm
  · cases h
theorem need_inv {L : List Tok} : ∀ {ts : List Byts8} {i k : Nat} {u : Unit}, needP L ts i = (k, some u) → k = i + ts.length
  | [], i, k, u, h => (Prod.mk.inj h).1.symm
  | t :: ts, i, k, u, h => by
    rw [needP] at h
    split at h
    · have := need_inv h
      simp only [List.length_cons]
      omega
    · cases h
theorem some_inv {A : Type} {i j : Nat} {x y : A} (h : ((i, some x) : Nat × Option A) = (j, some y)) : i = j ∧ x = y := ⟨(Prod.mk.inj h).1, Option.some.inj (Prod.mk.inj h).2⟩
theorem mkN_len (kind : Int) (ty text : Byts8) (num place : Int) (ks : List (List Nd)) : (mkN kind ty text num place ks).length = ks.flatten.length + 1 := by
  unfold mkN
  rw [List.length_cons, List.length_map]
/-- No more nodes than tokens. -/
def Few (rule : Nat → Rp) : Prop := ∀ i j x, rule i = (j, some x) → i + x.length ≤ j
section
variable {L : List Tok} {rec : Nat → Nat → Rp} {rule : Nat → Rp}
theorem few_sevL (h : Few rule) : ∀ (n : Nat) (acc : List (List Nd)) (i j : Nat) (l : List (List Nd)), sevL L rule n acc i = (j, some l) → i + l.flatten.length ≤ j + acc.flatten.length
  | 0, acc, i, j, l, e => by cases e
  | n + 1, acc, i, j, l, e => by
    rw [sevL] at e
    split at e
    · obtain ⟨k, x, e1, e2⟩ := bnd_inv e
      have h1 := h _ _ _ e1
      have h2 := few_sevL h n _ _ _ _ e2
      simp only [List.flatten_append, List.length_append, List.flatten_cons, List.flatten_nil, List.length_nil] at h2
      omega
    · obtain ⟨rfl, rfl⟩ := some_inv e
      omega
theorem few_sev (h : Few rule) {i j : Nat} {l : List (List Nd)} (e : sevP L rule i = (j, some l)) : i + l.flatten.length ≤ j := by
  obtain ⟨k, x, e1, e2⟩ := bnd_inv e
  have h1 := h _ _ _ e1
  have h2 := few_sevL h _ _ _ _ _ e2
  simp only [List.flatten_cons, List.flatten_nil, List.length_append, List.length_nil] at h2
  omega
theorem few_enc (h : Few rule) {i j : Nat} {l : List (List Nd)} (e : encP L rule i = (j, some l)) : i + l.flatten.length ≤ j := by
  obtain ⟨k, u, e1, e2⟩ := bnd_inv e
  have h1 := need_inv e1
  simp only [List.length_cons, List.length_nil] at h1
  split at e2
  · obtain ⟨rfl, rfl⟩ := some_inv e2
    simp
    omega
  · obtain ⟨m, l2, e3, e4⟩ := bnd_inv e2
    obtain ⟨q, u2, e5, e6⟩ := bnd_inv e4
    obtain ⟨rfl, rfl⟩ := some_inv e6
    have h3 := few_sev h e3
    have h5 := need_inv e5
    omega
theorem few_oper (h : Few rule) {kind : Int} {side : List Nd} {i j : Nat} {x : List Nd} (e : operP L kind side rule i = (j, some x)) : i + x.length ≤ j + side.length := by
  obtain ⟨k, y, e1, e2⟩ := bnd_inv e
  obtain ⟨rfl, rfl⟩ := some_inv e2
  have h1 := h _ _ _ e1
  rw [mkN_len]
  simp
  omega
theorem few_var (h : ∀ r, Few (rec r)) : Few (varP L rec) := fun i j x e => by
  obtain ⟨k, t, e1, e2⟩ := bnd_inv e
  have h1 := take_inv e1
  split at e2
  · obtain ⟨m, y, e3, e4⟩ := bnd_inv e2
    obtain ⟨rfl, rfl⟩ := some_inv e4
    have h3 := h _ _ _ _ e3
    rw [mkN_len]
    simp
    omega
  · obtain ⟨rfl, rfl⟩ := some_inv e2
    rw [mkN_len]
    simp
    omega
theorem few_declR (h : ∀ r, Few (rec r)) (pl : Int) (tx : Byts8) : Few (declR L rec pl tx) := fun i j x e => by
  obtain ⟨k, t, e1, e2⟩ := bnd_inv e
  obtain ⟨m, l, e3, e4⟩ := bnd_inv e2
  obtain ⟨q, u, e5, e6⟩ := bnd_inv e4
  obtain ⟨rfl, rfl⟩ := some_inv e6
  have h1 := take_inv e1
  have h3 := few_sev (few_var h) e3
  have h5 := need_inv e5
  simp only [List.length_cons, List.length_nil] at h5
  rw [mkN_len]
  omega
theorem few_decl (h : ∀ r, Few (rec r)) (ws : List Byts8) : Few (declP L rec ws) := fun i j x e => by
  unfold declP at e
  split at e
  · have := few_declR h _ _ _ _ _ e
    omega
  · exact few_declR h _ _ _ _ _ e
theorem few_param : Few (paramP L) := fun i j x e => by
  obtain ⟨k, t, e1, e2⟩ := bnd_inv e
  obtain ⟨m, u, e3, e4⟩ := bnd_inv e2
  obtain ⟨rfl, rfl⟩ := some_inv e4
  have h1 := take_inv e1
  have h3 := take_inv e3
  rw [mkN_len]
  simp
  omega
theorem few_func (h : ∀ r, Few (rec r)) : Few (funcP L rec) := fun i j x e => by
  obtain ⟨k, t, e1, e2⟩ := bnd_inv e
  obtain ⟨m, u, e3, e4⟩ := bnd_inv e2
  obtain ⟨q, ps, e5, e6⟩ := bnd_inv e4
  obtain ⟨s, b, e7, e8⟩ := bnd_inv e6
  obtain ⟨rfl, rfl⟩ := some_inv e8
  have h1 := take_inv e1
  have h3 := take_inv e3
  have h5 := few_enc few_param e5
  have h7 := h _ _ _ _ e7
  rw [mkN_len]
  simp only [List.flatten_append, List.flatten_cons, List.flatten_nil, List.length_append, List.length_nil]
  omega
theorem few_bound : Few (boundP L) := fun i j x e => by
  unfold boundP at e
  split at e
  all_goals
    obtain ⟨k, t, e1, e2⟩ := bnd_inv e
    obtain ⟨rfl, rfl⟩ := some_inv e2
    have h1 := take_inv e1
    rw [mkN_len]
    simp
    omega
theorem few_blockL (h : Few rule) : ∀ (n : Nat) (acc : List (List Nd)) (i j : Nat) (l : List (List Nd)), blockL L rule n acc i = (j, some l) → i + 1 + l.flatten.length ≤ j + acc.flatten.length
  | 0, acc, i, j, l, e => by cases e
  | n + 1, acc, i, j, l, e => by
    rw [blockL] at e
    split at e
    · obtain ⟨rfl, rfl⟩ := some_inv e
      omega
    · obtain ⟨k, x, e1, e2⟩ := bnd_inv e
      have h1 := h _ _ _ e1
      have h2 := few_blockL h n _ _ _ _ e2
      simp only [List.flatten_append, List.length_append, List.flatten_cons, List.flatten_nil, List.length_nil] at h2
      omega
theorem few_block (h : ∀ r, Few (rec r)) : Few (blockP L rec) := fun i j x e => by
  obtain ⟨k, u, e1, e2⟩ := bnd_inv e
  obtain ⟨m, l, e3, e4⟩ := bnd_inv e2
  obtain ⟨rfl, rfl⟩ := some_inv e4
  have h1 := need_inv e1
  have h3 := few_blockL (h 12) _ _ _ _ _ e3
  simp only [List.length_cons, List.length_nil, List.flatten_nil] at h1 h3
  rw [mkN_len]
  omega
theorem few_branch (h : ∀ r, Few (rec r)) : Few (branchP L rec) := fun i j x e => by
  obtain ⟨k, u, e1, e2⟩ := bnd_inv e
  obtain ⟨m, y, e3, e4⟩ := bnd_inv e2
  obtain ⟨q, u2, e5, e6⟩ := bnd_inv e4
  obtain ⟨s, z, e7, e8⟩ := bnd_inv e6
  have h1 := need_inv e1
  have h3 := h _ _ _ _ e3
  have h5 := need_inv e5
  have h7 := h _ _ _ _ e7
  simp only [List.length_cons, List.length_nil] at h1 h5
  split at e8
  · obtain ⟨v, b, e9, e10⟩ := bnd_inv e8
    obtain ⟨rfl, rfl⟩ := some_inv e10
    have h9 := h _ _ _ _ e9
    rw [mkN_len]
    simp
    omega
  · obtain ⟨rfl, rfl⟩ := some_inv e8
    rw [mkN_len]
    simp
    omega
theorem few_loop (h : ∀ r, Few (rec r)) : Few (loopP L rec) := fun i j x e => by
  obtain ⟨k1, u1, e1, e⟩ := bnd_inv e
  obtain ⟨k2, t, e2, e⟩ := bnd_inv e
  obtain ⟨k3, u3, e3, e⟩ := bnd_inv e
  obtain ⟨k4, x4, e4, e⟩ := bnd_inv e
  obtain ⟨k5, u5, e5, e⟩ := bnd_inv e
  obtain ⟨k6, x6, e6, e⟩ := bnd_inv e
  obtain ⟨k7, u7, e7, e⟩ := bnd_inv e
  obtain ⟨k8, x8, e8, e⟩ := bnd_inv e
  obtain ⟨rfl, rfl⟩ := some_inv e
  have h1 := need_inv e1
  have h2 := take_inv e2
  have h3 := need_inv e3
  have h4 := few_bound _ _ _ e4
  have h5 := need_inv e5
  have h6 := few_bound _ _ _ e6
  have h7 := need_inv e7
  have h8 := h _ _ _ _ e8
  simp only [List.length_cons, List.length_nil] at h1 h3 h5 h7
  rw [mkN_len]
  simp
  omega
theorem few_leave (h : ∀ r, Few (rec r)) : Few (leaveP L rec) := fun i j x e => by
  obtain ⟨k, u, e1, e⟩ := bnd_inv e
  have h1 := need_inv e1
  simp only [List.length_cons, List.length_nil] at h1
  split at e
  · obtain ⟨m, u2, e2, e⟩ := bnd_inv e
    obtain ⟨rfl, rfl⟩ := some_inv e
    have h2 := need_inv e2
    rw [mkN_len]
    simp
    omega
  · obtain ⟨m, y, e2, e⟩ := bnd_inv e
    obtain ⟨q, u3, e3, e⟩ := bnd_inv e
    obtain ⟨rfl, rfl⟩ := some_inv e
    have h2 := h _ _ _ _ e2
    have h3 := need_inv e3
    rw [mkN_len]
    simp
    omega
theorem few_stmt (h : ∀ r, Few (rec r)) : Few (stmtP L rec) := fun i j x e => by
  unfold stmtP at e
  split at e
  · exact h _ _ _ _ e
  split at e
  · exact h _ _ _ _ e
  split at e
  · exact h _ _ _ _ e
  split at e
  · exact h _ _ _ _ e
  split at e
  · obtain ⟨m, u2, e2, e⟩ := bnd_inv e
    obtain ⟨rfl, rfl⟩ := some_inv e
    have h2 := need_inv e2
    simp only [List.length_cons, List.length_nil] at h2
    rw [mkN_len]
    simp
    omega
  split at e
  · obtain ⟨m, u2, e2, e⟩ := bnd_inv e
    obtain ⟨rfl, rfl⟩ := some_inv e
    have h2 := need_inv e2
    simp only [List.length_cons, List.length_nil] at h2
    rw [mkN_len]
    simp
    omega
  split at e
  · exact few_decl h _ _ _ _ e
  · obtain ⟨m, y, e2, e⟩ := bnd_inv e
    obtain ⟨q, u3, e3, e⟩ := bnd_inv e
    obtain ⟨rfl, rfl⟩ := some_inv e
    have h2 := h _ _ _ _ e2
    have h3 := need_inv e3
    simp only [List.length_cons, List.length_nil] at h3
    rw [mkN_len]
    simp
    omega
theorem few_expr (h : ∀ r, Few (rec r)) : Few (exprP L rec) := fun i j x e => by
  obtain ⟨k, y, e1, e⟩ := bnd_inv e
  have h1 := h _ _ _ _ e1
  split at e
  · have h2 := few_oper (h 0) e
    omega
  · obtain ⟨rfl, rfl⟩ := some_inv e
    omega
theorem few_cond (h : ∀ r, Few (rec r)) : Few (condP L rec) := fun i j x e => by
  obtain ⟨k, y, e1, e⟩ := bnd_inv e
  have h1 := h _ _ _ _ e1
  split at e
  · obtain ⟨k2, y2, e2, e⟩ := bnd_inv e
    obtain ⟨k3, y3, e3, e⟩ := bnd_inv e
    obtain ⟨k4, y4, e4, e⟩ := bnd_inv e
    obtain ⟨rfl, rfl⟩ := some_inv e
    have h2 := h _ _ _ _ e2
    have h3 := need_inv e3
    have h4 := h _ _ _ _ e4
    rw [mkN_len]
    simp
    omega
  · obtain ⟨rfl, rfl⟩ := some_inv e
    omega
theorem few_rowL (h : Few rule) (ops : List Byts8) : ∀ (n : Nat) (y : List Nd) (i j : Nat) (x : List Nd), rowL L rule ops n y i = (j, some x) → i + x.length ≤ j + y.length
  | 0, y, i, j, x, e => by cases e
  | n + 1, y, i, j, x, e => by
    rw [rowL] at e
    split at e
    · obtain ⟨k, z, e1, e2⟩ := bnd_inv e
      have h1 := few_oper h e1
      have h2 := few_rowL h ops n _ _ _ _ e2
      omega
    · obtain ⟨rfl, rfl⟩ := some_inv e
      omega
theorem few_row (h : ∀ r, Few (rec r)) (k : Nat) : Few (rowP L rec k) := fun i j x e => by
  obtain ⟨m, y, e1, e⟩ := bnd_inv e
  have h1 := h _ _ _ _ e1
  have h2 := few_rowL (h _) _ _ _ _ _ _ e
  omega
theorem few_unary (h : ∀ r, Few (rec r)) : Few (unaryP L rec) := fun i j x e => by
  unfold unaryP at e
  split at e
  · obtain ⟨m, y, e1, e⟩ := bnd_inv e
    obtain ⟨rfl, rfl⟩ := some_inv e
    have h1 := h _ _ _ _ e1
    rw [mkN_len]
    simp
    omega
  · exact h _ _ _ _ e
theorem few_postL : ∀ (n : Nat) (y : List Nd) (i j : Nat) (x : List Nd), postL L n y i = (j, some x) → i + x.length ≤ j + y.length
  | 0, y, i, j, x, e => by cases e
  | n + 1, y, i, j, x, e => by
    rw [postL] at e
    split at e
    · obtain ⟨k, z, e1, e2⟩ := bnd_inv e
      have h1 := take_inv e1
      have h2 := few_postL n _ _ _ _ e2
      rw [mkN_len] at h2
      simp at h2
      omega
    · obtain ⟨rfl, rfl⟩ := some_inv e
      omega
theorem few_post (h : ∀ r, Few (rec r)) : Few (postP L rec) := fun i j x e => by
  obtain ⟨m, y, e1, e⟩ := bnd_inv e
  have h1 := h _ _ _ _ e1
  have h2 := few_postL _ _ _ _ _ e
  omega
theorem few_call (h : ∀ r, Few (rec r)) : Few (callP L rec) := fun i j x e => by
  obtain ⟨m, t, e1, e⟩ := bnd_inv e
  obtain ⟨q, l, e2, e⟩ := bnd_inv e
  obtain ⟨rfl, rfl⟩ := some_inv e
  have h1 := take_inv e1
  have h2 := few_enc (h 0) e2
  rw [mkN_len]
  omega
theorem few_first (h : ∀ r, Few (rec r)) : Few (firstP L rec) := fun i j x e => by
  unfold firstP at e
  split at e
  · obtain ⟨m, y, e1, e⟩ := bnd_inv e
    obtain ⟨q, u, e2, e⟩ := bnd_inv e
    obtain ⟨rfl, rfl⟩ := some_inv e
    have h1 := h _ _ _ _ e1
    have h2 := need_inv e2
    omega
  split at e
  · obtain ⟨rfl, rfl⟩ := some_inv e
    rw [mkN_len]
    simp
  split at e
  · obtain ⟨rfl, rfl⟩ := some_inv e
    rw [mkN_len]
    simp
  split at e
  · obtain ⟨rfl, rfl⟩ := some_inv e
    rw [mkN_len]
    simp
  split at e
  · exact h _ _ _ _ e
  · obtain ⟨m, t, e1, e⟩ := bnd_inv e
    obtain ⟨rfl, rfl⟩ := some_inv e
    have h1 := take_inv e1
    rw [mkN_len]
    simp
    omega
theorem few_rule (h : ∀ r, Few (rec r)) (r : Nat) : Few (ruleP L rec r) := fun i j x e => by
  unfold ruleP at e
  split at e
  · exact few_expr h _ _ _ e
  · exact few_cond h _ _ _ e
  · exact few_row h _ _ _ _ e
  · exact few_row h _ _ _ _ e
  · exact few_row h _ _ _ _ e
  · exact few_row h _ _ _ _ e
  · exact few_row h _ _ _ _ e
  · exact few_row h _ _ _ _ e
  · exact few_unary h _ _ _ e
  · exact few_post h _ _ _ e
  · exact few_first h _ _ _ e
  · exact few_call h _ _ _ e
  · exact few_stmt h _ _ _ e
  · exact few_block h _ _ _ e
  · exact few_branch h _ _ _ e
  · exact few_loop h _ _ _ e
  · exact few_leave h _ _ _ e
end
theorem few_go (L : List Tok) : ∀ (f r : Nat), Few (goP L f r)
  | 0, r => fun i j x e => by cases e
  | f + 1, r => fun i j x e => few_rule (fun r => few_go L f r) r i j x e
theorem few_shadL {L : List Tok} {rec : Nat → Nat → Rp} (h : ∀ r, Few (rec r)) : ∀ (n : Nat) (acc : List (List Nd)) (i j : Nat) (l : List (List Nd)), shadL L rec n acc i = (j, some l) → i + l.flatten.length ≤ j + acc.flatten.length
  | 0, acc, i, j, l, e => by cases e
  | n + 1, acc, i, j, l, e => by
    rw [shadL] at e
    split at e
    · obtain ⟨k, x, e1, e2⟩ := bnd_inv e
      have h1 : i + x.length ≤ k := by
        split at e1
        · exact few_func h _ _ _ e1
        · exact few_decl h _ _ _ _ e1
      have h2 := few_shadL h n _ _ _ _ e2
      simp only [List.flatten_append, List.length_append, List.flatten_cons, List.flatten_nil, List.length_nil] at h2
      omega
    · obtain ⟨rfl, rfl⟩ := some_inv e
      omega
theorem few_shad {L : List Tok} {j : Nat} {x : List Nd} (e : shadP L = (j, some x)) : x.length ≤ j + 1 := by
  obtain ⟨m, l, e1, e2⟩ := bnd_inv e
  obtain ⟨rfl, rfl⟩ := some_inv e2
  have h1 := few_shadL (fun r => few_go L _ r) _ _ _ _ _ e1
  simp only [List.flatten_nil, List.length_nil] at h1
  rw [mkN_len]
  omega
end Go.Proofs.YtjfhhhabcbkahaaGreat
