/- Several texts in one. -/
import Derived.Test.YtnmieoojjnipkaaGreatTK
import Derived.Test.YtnmieoojjnipkaaGreatTO4
import Derived.Test.YtnmieoojjnipkaaGreatTZb
import Derived.Test.YtnmieoojjnipkaaGreatTZd
import Derived.Test.YtnmieoojjnipkaaGreatXFJ
/-
  No rule makes more nodes than it takes tokens.
-/
namespace Go.Proofs.YtnmieoojjnipkaaGreat
set_option linter.unusedVariables false
set_option linter.unusedSimpArgs false

theorem bnd_inv {A B : Type} {r : Nat × Option A} {f : Nat → A → Nat × Option B} {j : Nat} {y : B} (h : bnd r f = (j, some y)) : ∃ k a, r = (k, some a) ∧ f k a = (j, some y) := by
  obtain ⟨k, o⟩ := r
  cases o with
  | none => cases h
  | some a => exact ⟨k, a, rfl, h⟩
theorem take_inv {L : List Tok} {m : Bool} {i k : Nat} {t : Tok} (h : takeP L m i = (k, some t)) : k = i + 1 := by
  unfold takeP at h
  split at h
  · exact (Prod.mk.inj h).1.symm
  · cases h
theorem need_inv {L : List Tok} : ∀ {ts : List Byts8} {i k : Nat} {u : Unit}, needP L ts i = (k, some u) → k = i + ts.length
  | [], i, k, u, h => (Prod.mk.inj h).1.symm
  | t :: ts, i, k, u, h => by
    rw [needP] at h
    split at h
    · have := need_inv h
      simp only [List.length_cons]
      omega
    · cases h
theorem some_inv {A : Type} {i j : Nat} {x y : A} (h : ((i, some x) : Nat × Option A) = (j, some y)) : i = j ∧ x = y := ⟨(Prod.mk.inj h).1, Option.some.inj (Prod.mk.inj h).2⟩
theorem mkN_len (kind : Int) (ty text : Byts8) (num place : Int) (ks : List (List Nd)) : (mkN kind ty text num place ks).length = ks.flatten.length + 1 := by
  unfold mkN
  rw [List.length_cons, List.length_map]
/-- No more nodes than tokens. -/
def Few (rule : Nat → Rp) : Prop := ∀ i j x, rule i = (j, some x) → i + x.length ≤ j
section
variable {L : List Tok} {rec : Nat → Nat → Rp} {rule : Nat → Rp}
theorem few_sevL (h : Few rule) : ∀ (n : Nat) (acc : List (List Nd)) (i j : Nat) (l : List (List Nd)), sevL L rule n acc i = (j, some l) → i + l.flatten.length ≤ j + acc.flatten.length
  | 0, acc, i, j, l, e => by cases e
  | n + 1, acc, i, j, l, e => by
    rw [sevL] at e
    split at e
    · obtain ⟨k, x, e1, e2⟩ := bnd_inv e
      have h1 := h _ _ _ e1
      have h2 := few_sevL h n _ _ _ _ e2
      simp only [List.flatten_append, List.length_append, List.flatten_cons, List.flatten_nil, List.length_nil] at h2
      omega
    · obtain ⟨rfl, rfl⟩ := some_inv e
      omega
theorem few_sev (h : Few rule) {i j : Nat} {l : List (List Nd)} (e : sevP L rule i = (j, some l)) : i + l.flatten.length ≤ j := by
  obtain ⟨k, x, e1, e2⟩ := bnd_inv e
  have h1 := h _ _ _ e1
  have h2 := few_sevL h _ _ _ _ _ e2
  simp only [List.flatten_cons, List.flatten_nil, List.length_append, List.length_nil] at h2
  omega
theorem few_enc (h : Few rule) {i j : Nat} {l : List (List Nd)} (e : encP L rule i = (j, some l)) : i + l.flatten.length ≤ j := by
  obtain ⟨k, u, e1, e2⟩ := bnd_inv e
  have h1 := need_inv e1
  simp only [List.length_cons, List.length_nil] at h1
  split at e2
  · obtain ⟨rfl, rfl⟩ := some_inv e2
    simp
    omega
  · obtain ⟨m, l2, e3, e4⟩ := bnd_inv e2
    obtain ⟨q, u2, e5, e6⟩ := bnd_inv e4
    obtain ⟨rfl, rfl⟩ := some_inv e6
    have h3 := few_sev h e3
    have h5 := need_inv e5
    omega
theorem few_oper (h : Few rule) {kind : Int} {side : List Nd} {i j : Nat} {x : List Nd} (e : operP L kind side rule i = (j, some x)) : i + x.length ≤ j + side.length := by
  obtain ⟨k, y, e1, e2⟩ := bnd_inv e
  obtain ⟨rfl, rfl⟩ := some_inv e2
  have h1 := h _ _ _ e1
  rw [mkN_len]
  simp
  omega
theorem few_var (h : ∀ r, Few (rec r)) : Few (varP L rec) := fun i j x e => by
  obtain ⟨k, t, e1, e2⟩ := bnd_inv e
  have h1 := take_inv e1
  split at e2
  · obtain ⟨m, y, e3, e4⟩ := bnd_inv e2
    obtain ⟨rfl, rfl⟩ := some_inv e4
    have h3 := h _ _ _ _ e3
    rw [mkN_len]
    simp
    omega
  · obtain ⟨rfl, rfl⟩ := some_inv e2
    rw [mkN_len]
    simp
    omega
theorem few_declR (h : ∀ r, Few (rec r)) (pl : Int) (tx : Byts8) : Few (declR L rec pl tx) := fun i j x e => by
  obtain ⟨k, t, e1, e2⟩ := bnd_inv e
  obtain ⟨m, l, e3, e4⟩ := bnd_inv e2
  obtain ⟨q, u, e5, e6⟩ := bnd_inv e4
  obtain ⟨rfl, rfl⟩ := some_inv e6
  have h1 := take_inv e1
  have h3 := few_sev (few_var h) e3
  have h5 := need_inv e5
  simp only [List.length_cons, List.length_nil] at h5
  rw [mkN_len]
  omega
theorem few_decl (h : ∀ r, Few (rec r)) (ws : List Byts8) : Few (declP L rec ws) := fun i j x e => by
  unfold declP at e
  split at e
  · have := few_declR h _ _ _ _ _ e
    omega
  · exact few_declR h _ _ _ _ _ e
theorem few_param : Few (paramP L) := fun i j x e => by
  obtain ⟨k, t, e1, e2⟩ := bnd_inv e
  obtain ⟨m, u, e3, e4⟩ := bnd_inv e2
  obtain ⟨rfl, rfl⟩ := some_inv e4
  have h1 := take_inv e1
  have h3 := take_inv e3
  rw [mkN_len]
  simp
  omega
theorem few_func (h : ∀ r, Few (rec r)) : Few (funcP L rec) := fun i j x e => by
  obtain ⟨k, t, e1, e2⟩ := bnd_inv e
  obtain ⟨m, u, e3, e4⟩ := bnd_inv e2
  obtain ⟨q, ps, e5, e6⟩ := bnd_inv e4
  obtain ⟨s, b, e7, e8⟩ := bnd_inv e6
  obtain ⟨rfl, rfl⟩ := some_inv e8
  have h1 := take_inv e1
  have h3 := take_inv e3
  have h5 := few_enc few_param e5
  have h7 := h _ _ _ _ e7
  rw [mkN_len]
  simp only [List.flatten_append, List.flatten_cons, List.flatten_nil, List.length_append, List.length_nil]
  omega
theorem few_bound : Few (boundP L) := fun i j x e => by
  unfold boundP at e
  split at e
  all_goals
    obtain ⟨k, t, e1, e2⟩ := bnd_inv e
    obtain ⟨rfl, rfl⟩ := some_inv e2
    have h1 := take_inv e1
    rw [mkN_len]
    simp
    omega
theorem few_blockL (h : Few rule) : ∀ (n : Nat) (acc : List (List Nd)) (i j : Nat) (l : List (List Nd)), blockL L rule n acc i = (j, some l) → i + 1 + l.flatten.length ≤ j + acc.flatten.length
  | 0, acc, i, j, l, e => by cases e
  | n + 1, acc, i, j, l, e => by
    rw [blockL] at e
    split at e
    · obtain ⟨rfl, rfl⟩ := some_inv e
      omega
    · obtain ⟨k, x, e1, e2⟩ := bnd_inv e
      have h1 := h _ _ _ e1
      have h2 := few_blockL h n _ _ _ _ e2
      simp only [List.flatten_append, List.length_append, List.flatten_cons, List.flatten_nil, List.length_nil] at h2
      omega
theorem few_block (h : ∀ r, Few (rec r)) : Few (blockP L rec) := fun i j x e => by
  obtain ⟨k, u, e1, e2⟩ := bnd_inv e
  obtain ⟨m, l, e3, e4⟩ := bnd_inv e2
  obtain ⟨rfl, rfl⟩ := some_inv e4
  have h1 := need_inv e1
  have h3 := few_blockL (h 12) _ _ _ _ _ e3
  simp only [List.length_cons, List.length_nil, List.flatten_nil] at h1 h3
  rw [mkN_len]
  omega
theorem few_branch (h : ∀ r, Few (rec r)) : Few (branchP L rec) := fun i j x e => by
  obtain ⟨k, u, e1, e2⟩ := bnd_inv e
  obtain ⟨m, y, e3, e4⟩ := bnd_inv e2
  obtain ⟨q, u2, e5, e6⟩ := bnd_inv e4
  obtain ⟨s, z, e7, e8⟩ := bnd_inv e6
  have h1 := need_inv e1
  have h3 := h _ _ _ _ e3
  have h5 := need_inv e5
  have h7 := h _ _ _ _ e7
  simp only [List.length_cons, List.length_nil] at h1 h5
  split at e8
  · obtain ⟨v, b, e9, e10⟩ := bnd_inv e8
    obtain ⟨rfl, rfl⟩ := some_inv e10
    have h9 := h _ _ _ _ e9
    rw [mkN_len]
    simp
    omega
  · obtain ⟨rfl, rfl⟩ := some_inv e8
    rw [mkN_len]
    simp
    omega
theorem few_loop (h : ∀ r, Few (rec r)) : Few (loopP L rec) := fun i j x e => by
  obtain ⟨k1, u1, e1, e⟩ := bnd_inv e
  obtain ⟨k2, t, e2, e⟩ := bnd_inv e
  obtain ⟨k3, u3, e3, e⟩ := bnd_inv e
  obtain ⟨k4, x4, e4, e⟩ := bnd_inv e
  obtain ⟨k5, u5, e5, e⟩ := bnd_inv e
  obtain ⟨k6, x6, e6, e⟩ := bnd_inv e
  obtain ⟨k7, u7, e7, e⟩ := bnd_inv e
  obtain ⟨k8, x8, e8, e⟩ := bnd_inv e
  obtain ⟨rfl, rfl⟩ := some_inv e
  have h1 := need_inv e1
  have h2 := take_inv e2
  have h3 := need_inv e3
  have h4 := few_bound _ _ _ e4
  have h5 := need_inv e5
  have h6 := few_bound _ _ _ e6
  have h7 := need_inv e7
  have h8 := h _ _ _ _ e8
  simp only [List.length_cons, List.length_nil] at h1 h3 h5 h7
  rw [mkN_len]
  simp
  omega
theorem few_leave (h : ∀ r, Few (rec r)) : Few (leaveP L rec) := fun i j x e => by
  obtain ⟨k, u, e1, e⟩ := bnd_inv e
  have h1 := need_inv e1
  simp only [List.length_cons, List.length_nil] at h1
  split at e
  · obtain ⟨m, u2, e2, e⟩ := bnd_inv e
    obtain ⟨rfl, rfl⟩ := some_inv e
    have h2 := need_inv e2
    rw [mkN_len]
    simp
    omega
  · obtain ⟨m, y, e2, e⟩ := bnd_inv e
    obtain ⟨q, u3, e3, e⟩ := bnd_inv e
    obtain ⟨rfl, rfl⟩ := some_inv e
    have h2 := h _ _ _ _ e2
    have h3 := need_inv e3
    rw [mkN_len]
    simp
    omega
theorem few_stmt (h : ∀ r, Few (rec r)) : Few (stmtP L rec) := fun i j x e => by
  unfold stmtP at e
  split at e
  · exact h _ _ _ _ e
  split at e
  · exact h _ _ _ _ e
  split at e
  · exact h _ _ _ _ e
  split at e
  · exact h _ _ _ _ e
  split at e
  · obtain ⟨m, u2, e2, e⟩ := bnd_inv e
    obtain ⟨rfl, rfl⟩ := some_inv e
    have h2 := need_inv e2
    simp only [List.length_cons, List.length_nil] at h2
    rw [mkN_len]
    simp
    omega
  split at e
  · obtain ⟨m, u2, e2, e⟩ := bnd_inv e
    obtain ⟨rfl, rfl⟩ := some_inv e
    have h2 := need_inv e2
    simp only [List.length_cons, List.length_nil] at h2
    rw [mkN_len]
    simp
    omega
  split at e
  · exact few_decl h _ _ _ _ e
  · obtain ⟨m, y, e2, e⟩ := bnd_inv e
    obtain ⟨q, u3, e3, e⟩ := bnd_inv e
    obtain ⟨rfl, rfl⟩ := some_inv e
    have h2 := h _ _ _ _ e2
    have h3 := need_inv e3
    simp only [List.length_cons, List.length_nil] at h3
    rw [mkN_len]
    simp
    omega
theorem few_expr (h : ∀ r, Few (rec r)) : Few (exprP L rec) := fun i j x e => by
  obtain ⟨k, y, e1, e⟩ := bnd_inv e
  have h1 := h _ _ _ _ e1
  split at e
  · have h2 := few_oper (h 0) e
    omega
  · obtain ⟨rfl, rfl⟩ := some_inv e
    omega
theorem few_cond (h : ∀ r, Few (rec r)) : Few (condP L rec) := fun i j x e => by
  obtain ⟨k, y, e1, e⟩ := bnd_inv e
  have h1 := h _ _ _ _ e1
  split at e
  · obtain ⟨k2, y2, e2, e⟩ := bnd_inv e
    obtain ⟨k3, y3, e3, e⟩ := bnd_inv e
    obtain ⟨k4, y4, e4, e⟩ := bnd_inv e
    obtain ⟨rfl, rfl⟩ := some_inv e
    have h2 := h _ _ _ _ e2
    have h3 := need_inv e3
    have h4 := h _ _ _ _ e4
    rw [mkN_len]
    simp
    omega
  · obtain ⟨rfl, rfl⟩ := some_inv e
    omega
theorem few_rowL (h : Few rule) (ops : List Byts8) : ∀ (n : Nat) (y : List Nd) (i j : Nat) (x : List Nd), rowL L rule ops n y i = (j, some x) → i + x.length ≤ j + y.length
  | 0, y, i, j, x, e => by cases e
  | n + 1, y, i, j, x, e => by
    rw [rowL] at e
    split at e
    · obtain ⟨k, z, e1, e2⟩ := bnd_inv e
      have h1 := few_oper h e1
      have h2 := few_rowL h ops n _ _ _ _ e2
      omega
    · obtain ⟨rfl, rfl⟩ := some_inv e
      omega
theorem few_row (h : ∀ r, Few (rec r)) (k : Nat) : Few (rowP L rec k) := fun i j x e => by
  obtain ⟨m, y, e1, e⟩ := bnd_inv e
  have h1 := h _ _ _ _ e1
  have h2 := few_rowL (h _) _ _ _ _ _ _ e
  omega
theorem few_unary (h : ∀ r, Few (rec r)) : Few (unaryP L rec) := fun i j x e => by
  unfold unaryP at e
  split at e
  · obtain ⟨m, y, e1, e⟩ := bnd_inv e
    obtain ⟨rfl, rfl⟩ := some_inv e
    have h1 := h _ _ _ _ e1
    rw [mkN_len]
    simp
    omega
  · exact h _ _ _ _ e
theorem few_postL : ∀ (n : Nat) (y : List Nd) (i j : Nat) (x : List Nd), postL L n y i = (j, some x) → i + x.length ≤ j + y.length
  | 0, y, i, j, x, e => by cases e
  | n + 1, y, i, j, x, e => by
    rw [postL] at e
    split at e
    · obtain ⟨k, z, e1, e2⟩ := bnd_inv e
      have h1 := take_inv e1
      have h2 := few_postL n _ _ _ _ e2
      rw [mkN_len] at h2
      simp at h2
      omega
    · obtain ⟨rfl, rfl⟩ := some_inv e
      omega
theorem few_post (h : ∀ r, Few (rec r)) : Few (postP L rec) := fun i j x e => by
  obtain ⟨m, y, e1, e⟩ := bnd_inv e
  have h1 := h _ _ _ _ e1
  have h2 := few_postL _ _ _ _ _ e
  omega
theorem few_call (h : ∀ r, Few (rec r)) : Few (callP L rec) := fun i j x e => by
  obtain ⟨m, t, e1, e⟩ := bnd_inv e
  obtain ⟨q, l, e2, e⟩ := bnd_inv e
  obtain ⟨rfl, rfl⟩ := some_inv e
  have h1 := take_inv e1
  have h2 := few_enc (h 0) e2
  rw [mkN_len]
  omega
theorem few_first (h : ∀ r, Few (rec r)) : Few (firstP L rec) := fun i j x e => by
  unfold firstP at e
  split at e
  · obtain ⟨m, y, e1, e⟩ := bnd_inv e
    obtain ⟨q, u, e2, e⟩ := bnd_inv e
    obtain ⟨rfl, rfl⟩ := some_inv e
    have h1 := h _ _ _ _ e1
    have h2 := need_inv e2
    omega
  split at e
  · obtain ⟨rfl, rfl⟩ := some_inv e
    rw [mkN_len]
    simp
  split at e
  · obtain ⟨rfl, rfl⟩ := some_inv e
    rw [mkN_len]
    simp
  split at e
  · obtain ⟨rfl, rfl⟩ := some_inv e
    rw [mkN_len]
    simp
  split at e
  · exact h _ _ _ _ e
  · obtain ⟨m, t, e1, e⟩ := bnd_inv e
    obtain ⟨rfl, rfl⟩ := some_inv e
    have h1 := take_inv e1
    rw [mkN_len]
    simp
    omega
theorem few_rule (h : ∀ r, Few (rec r)) (r : Nat) : Few (ruleP L rec r) := fun i j x e => by
  unfold ruleP at e
  split at e
  · exact few_expr h _ _ _ e
  · exact few_cond h _ _ _ e
  · exact few_row h _ _ _ _ e
  · exact few_row h _ _ _ _ e
  · exact few_row h _ _ _ _ e
  · exact few_row h _ _ _ _ e
  · exact few_row h _ _ _ _ e
  · exact few_row h _ _ _ _ e
  · exact few_unary h _ _ _ e
  · exact few_post h _ _ _ e
  · exact few_first h _ _ _ e
  · exact few_call h _ _ _ e
  · exact few_stmt h _ _ _ e
  · exact few_block h _ _ _ e
  · exact few_branch h _ _ _ e
  · exact few_loop h _ _ _ e
  · exact few_leave h _ _ _ e
end
theorem few_go (L : List Tok) : ∀ (f r : Nat), Few (goP L f r)
  | 0, r => fun i j x e => by cases e
  | f + 1, r => fun i j x e => few_rule (fun r => few_go L f r) r i j x e
theorem few_shadL {L : List Tok} {rec : Nat → Nat → Rp} (h : ∀ r, Few (rec r)) : ∀ (n : Nat) (acc : List (List Nd)) (i j : Nat) (l : List (List Nd)), shadL L rec n acc i = (j, some l) → i + l.flatten.length ≤ j + acc.flatten.length
  | 0, acc, i, j, l, e => by cases e
  | n + 1, acc, i, j, l, e => by
    rw [shadL] at e
    split at e
    · obtain ⟨k, x, e1, e2⟩ := bnd_inv e
      have h1 : i + x.length ≤ k := by
        split at e1
        · exact few_func h _ _ _ e1
        · exact few_decl h _ _ _ _ e1
      have h2 := few_shadL h n _ _ _ _ e2
      simp only [List.flatten_append, List.length_append, List.flatten_cons, List.flatten_nil, List.length_nil] at h2
      omega
    · obtain ⟨rfl, rfl⟩ := some_inv e
      omega
theorem few_shad {L : List Tok} {j : Nat} {x : List Nd} (e : shadP L = (j, some x)) : x.length ≤ j + 1 := by
  obtain ⟨m, l, e1, e2⟩ := bnd_inv e
  obtain ⟨rfl, rfl⟩ := some_inv e2
  have h1 := few_shadL (fun r => few_go L _ r) _ _ _ _ _ e1
  simp only [List.flatten_nil, List.length_nil] at h1
  rw [mkN_len]
  omega
end Go.Proofs.YtnmieoojjnipkaaGreat

/-
  order: the tree of a part, or the first node that lies too deep.
-/
namespace Go.Proofs.YtnmieoojjnipkaaGreat
open Go.RowKit
set_option linter.unusedVariables false
set_option linter.unusedSimpArgs false

/-- What order answers. -/
def OrdQ (w : World) (x : List Nd) (e : Ending) (w' : World) : Prop := Ext w w' ∧ (match badP 0 x with
  | none => ∃ ao m cap ns base, e = .returned (.tuple #[.agg #[.slice ao m cap], .agg #[.int .i64 0, .int .i64 0]]) ∧ w.heap.size ≤ base ∧ NR w' base (.slice ao m cap) ns ∧ ns.map Prod.snd = absN 0 x
  | some p => e = .returned (.tuple #[.agg #[.slice none 0 0], .agg #[.int .i64 3, .int .i64 p]]))
theorem OrdQ.no {w w' : World} {x : List Nd} {p : Int} (h : badP 0 x = some p) (hx : Ext w w') : OrdQ w x (.returned (.tuple #[.agg #[.slice none 0 0], .agg #[.int .i64 3, .int .i64 p]])) w' := by
  unfold OrdQ
  rw [h]
  exact ⟨hx, rfl⟩
theorem OrdQ.yes {w w' : World} {x : List Nd} {ao : Option Addr} {m cap : Nat} {ns : List Nt} {base : Nat} (h : badP 0 x = none) (hx : Ext w w') (hb : w.heap.size ≤ base) (hn : NR w' base (.slice ao m cap) ns) (he : ns.map Prod.snd = absN 0 x) : OrdQ w x (.returned (.tuple #[.agg #[.slice ao m cap], .agg #[.int .i64 0, .int .i64 0]])) w' := by
  unfold OrdQ
  rw [h]
  exact ⟨hx, ao, m, cap, ns, base, rfl, hb, hn, he⟩
set_option maxHeartbeats 4000000 in
set_option maxRecDepth 100000 in
theorem order_any {lo hi b : Nat} {x : List Nd} (w : World) (hp : PIn w lo hi b x) (hlen : x.length ≤ 100000000) :
    Calls Tryz.prog 23 #[.pointer (some ⟨b, 0, none⟩)] w (OrdQ w x) := by
  have hhi := hp.top
  have hmf : ∀ (fn : Fn) (first cap : Array Value) (w : World), (Instr.makeFunc fn first cap).run Tryz.prog w = .ok (.func fn first cap) w := fun _ _ _ _ => rfl
  have hsf : ∀ (fn : Fn) (first cap : Array Value) (a : Addr) (w : World), (store a (.func fn first cap)).run Tryz.prog w = stored Tryz.prog w a (.func fn first cap) .plain := fun _ _ _ a w => run_store Tryz.prog w a _ .plain rfl
  obtain ⟨w1, h1⟩ : ∃ y, y = w.alloc (.cells #[.slice none 0 0] 24) := ⟨_, rfl⟩
  obtain ⟨w2, h2⟩ : ∃ y, y = w1.alloc (.cells #[.int .i64 0, .int .i64 0] 31) := ⟨_, rfl⟩
  obtain ⟨w3, h3⟩ : ∃ y, y = w2.alloc (.cells #[.slice none 0 0] 22) := ⟨_, rfl⟩
  obtain ⟨w4, h4⟩ : ∃ y, y = w3.alloc (.cells #[.int .i64 0, .int .i64 0] 31) := ⟨_, rfl⟩
  obtain ⟨w5, h5⟩ : ∃ y, y = w4.alloc (.cells #[.func (.func 47) #[] #[.pointer (some ⟨w.heap.size + 1 + 1 + 1, 0, none⟩), .pointer (some ⟨w.heap.size + 1 + 1, 0, none⟩), .pointer (some ⟨w.heap.size + 1 + 1 + 1 + 1, 0, none⟩)]] 78) := ⟨_, rfl⟩
  have z1 : w1.heap.size = w.heap.size + 1 := by rw [h1]; simp
  have z2 : w2.heap.size = w.heap.size + 1 + 1 := by rw [h2]; simp [z1]
  have z3 : w3.heap.size = w.heap.size + 1 + 1 + 1 := by rw [h3]; simp [z2]
  have z4 : w4.heap.size = w.heap.size + 1 + 1 + 1 + 1 := by rw [h4]; simp [z3]
  have z5 : w5.heap.size = w.heap.size + 1 + 1 + 1 + 1 + 1 := by rw [h5]; simp [z4]
  have x1 : Ext w w1 := by rw [h1]; exact (Ext.refl _).alloc _
  have x2 : Ext w1 w2 := by rw [h2]; exact (Ext.refl _).alloc _
  have x3 : Ext w2 w3 := by rw [h3]; exact (Ext.refl _).alloc _
  have x4 : Ext w3 w4 := by rw [h4]; exact (Ext.refl _).alloc _
  have x5 : Ext w4 w5 := by rw [h5]; exact (Ext.refl _).alloc _
  have B0 : Blk w5 (w.heap.size) #[.slice none 0 0] 24 := (((((show Blk w1 (w.heap.size) _ _ by rw [h1]; exact Blk.new _ _ _).ext x2).ext x3).ext x4).ext x5)
  have B1 : Blk w5 (w.heap.size + 1) #[.int .i64 0, .int .i64 0] 31 := ((((show Blk w2 (w.heap.size + 1) _ _ by rw [h2]; exact BlkAt z1).ext x3).ext x4).ext x5)
  have B2 : Blk w5 (w.heap.size + 1 + 1) #[.slice none 0 0] 22 := (((show Blk w3 (w.heap.size + 1 + 1) _ _ by rw [h3]; exact BlkAt z2).ext x4).ext x5)
  have B3 : Blk w5 (w.heap.size + 1 + 1 + 1) #[.int .i64 0, .int .i64 0] 31 := ((show Blk w4 (w.heap.size + 1 + 1 + 1) _ _ by rw [h4]; exact BlkAt z3).ext x5)
  have B4 : Blk w5 (w.heap.size + 1 + 1 + 1 + 1) #[.func (.func 47) #[] #[.pointer (some ⟨w.heap.size + 1 + 1 + 1, 0, none⟩), .pointer (some ⟨w.heap.size + 1 + 1, 0, none⟩), .pointer (some ⟨w.heap.size + 1 + 1 + 1 + 1, 0, none⟩)]] 78 := (show Blk w5 (w.heap.size + 1 + 1 + 1 + 1) _ _ by rw [h5]; exact BlkAt z4)
  have X5 : Ext w w5 := (((x1.trans x2).trans x3).trans x4).trans x5
  have HE : Hid (w5 = ((((w.alloc (.cells #[.slice none 0 0] 24)).alloc (.cells #[.int .i64 0, .int .i64 0] 31)).alloc (.cells #[.slice none 0 0] 22)).alloc (.cells #[.int .i64 0, .int .i64 0] 31)).alloc (.cells #[.func (.func 47) #[] #[.pointer (some ⟨w.heap.size + 1 + 1 + 1, 0, none⟩), .pointer (some ⟨w.heap.size + 1 + 1, 0, none⟩), .pointer (some ⟨w.heap.size + 1 + 1 + 1 + 1, 0, none⟩)]] 78)) := by
    show w5 = _
    rw [h5, h4, h3, h2, h1]
  obtain ⟨r0, hr0⟩ : ∃ y, y = w.heap.size := ⟨_, rfl⟩
  obtain ⟨r1, hr1⟩ : ∃ y, y = w.heap.size + 1 := ⟨_, rfl⟩
  obtain ⟨nb, hnb⟩ : ∃ y, y = w.heap.size + 1 + 1 := ⟨_, rfl⟩
  obtain ⟨sa, hsa⟩ : ∃ y, y = w.heap.size + 1 + 1 + 1 := ⟨_, rfl⟩
  obtain ⟨fb, hfb⟩ : ∃ y, y = w.heap.size + 1 + 1 + 1 + 1 := ⟨_, rfl⟩
  have o0 : w.heap.size ≤ r0 := by omega
  have o1 : r0 < r1 := by omega
  have o2 : r1 < nb := by omega
  have o3 : nb < sa := by omega
  have o4 : sa < fb := by omega
  have o5 : fb < w5.heap.size := by omega
  have o6 : w.heap.size ≤ w5.heap.size := by omega
  rw [← hfb, ← hsa, ← hnb] at B4
  rw [← hsa] at B3
  rw [← hnb] at B2
  rw [← hr1] at B1
  rw [← hr0] at B0
  have hos : OS w5 hi w5.heap.size sa nb fb (.slice none 0 0) [] := ⟨B3, B2, B4, NR.nil _ _, by omega, o3, o4, o5, Nat.le_refl _⟩
  obtain ⟨n, hpt⟩ := (hp.ext X5).ex
  have HC := hide (put_any n w5 b x 0 none 0 0 [] hpt hos (by simpa using hlen) (by omega))
  have HB0 := hide B0; have HB1 := hide B1; have HX5 := hide X5; have HR0 := hide hr0; have HR1 := hide hr1; have HNB := hide hnb; have HSA := hide hsa; have HFB := hide hfb
  clear B0 B1 B2 B3 B4 X5 x1 x2 x3 x4 x5 z1 z2 z3 z4 z5 h1 h2 h3 h4 h5 hr0 hr1 hnb hsa hfb hos hpt hp
  obtain ⟨o, ho⟩ : ∃ o, badP 0 x = o := ⟨_, rfl⟩
  have HO := hide ho
  clear ho hlen hhi
  go_enter Tryz.func23, Tryz.ntmps23
  go_wp2_with fail
  rw [← unhide HE, ← unhide HFB, ← unhide HSA, ← unhide HNB, ← unhide HR1, ← unhide HR0]
  refine (unhide HC).mono ?_
  intro e w6 hq
  unfold OQ at hq
  rw [unhide HO] at hq
  cases o with
  | some p =>
    obtain ⟨hout, rfl, hs⟩ := hq
    have hB0 := (unhide HB0).out hout (fun e => by rcases e with e | e | e <;> omega)
    have hB1 := (unhide HB1).out hout (fun e => by rcases e with e | e | e <;> omega)
    have HX6 := hide (hout.ext0 (unhide HX5) (fun k e => by rcases e with e | e | e <;> omega))
    have c0 := hs.cell (i := 0) (v := .int .i64 3) rfl
    have c1 := hs.cell (i := 1) (v := .int .i64 p) rfl
    have ga := fun j => hB0.free j
    have gb := fun j => hB1.free j
    have HK0 := hide hB0; have HK1 := hide hB1
    clear hout hs hB0 hB1
    have q0 := (unhide HK0).cell (i := 0) (v := .slice none 0 0) rfl
    have q1 := (unhide HK1).cell (i := 0) (v := .int .i64 0) rfl
    have q2 := (unhide HK1).cell (i := 1) (v := .int .i64 0) rfl
    go_wp2_with fail
    have e0 : ¬ sa = r0 := by omega
    have e1 : ¬ sa = r1 := by omega
    have e2 : ¬ r1 = r0 := by omega
    have e3 : ¬ r0 = r1 := by omega
    go_region
    all_goals go_wp2
    have k0 := (((unhide HK0).set 0 (.slice none 0 0)).other 0 (.int .i64 3) (show r0 ≠ r1 by omega)).other 1 (.int .i64 p) (show r0 ≠ r1 by omega)
    have k1 := (((unhide HK1).other 0 (.slice none 0 0) (show r1 ≠ r0 by omega)).set 0 (.int .i64 3)).set 1 (.int .i64 p)
    have hfin : OrdQ w x (.returned (.tuple #[.agg #[.slice none 0 0], .agg #[.int .i64 3, .int .i64 p]])) (((w6.setCell ⟨r0, 0, none⟩ (.slice none 0 0)).setCell ⟨r1, 0, none⟩ (.int .i64 3)).setCell ⟨r1, 1, none⟩ (.int .i64 p)).drew :=
      OrdQ.no (unhide HO) (Ext.drew (setX (setX (setX (unhide HX6) o0) (by omega)) (by omega)))
    have s0 : ((((w6.setCell ⟨r0, 0, none⟩ (.slice none 0 0)).setCell ⟨r1, 0, none⟩ (.int .i64 3)).setCell ⟨r1, 1, none⟩ (.int .i64 p)).drew).cell? ⟨r0, 0, none⟩ = some (.slice none 0 0) := k0.cell (i := 0) (v := .slice none 0 0) rfl
    have s1 : ((((w6.setCell ⟨r0, 0, none⟩ (.slice none 0 0)).setCell ⟨r1, 0, none⟩ (.int .i64 3)).setCell ⟨r1, 1, none⟩ (.int .i64 p)).drew).cell? ⟨r1, 0, none⟩ = some (.int .i64 3) := k1.cell (i := 0) (v := .int .i64 3) rfl
    have s2 : ((((w6.setCell ⟨r0, 0, none⟩ (.slice none 0 0)).setCell ⟨r1, 0, none⟩ (.int .i64 3)).setCell ⟨r1, 1, none⟩ (.int .i64 p)).drew).cell? ⟨r1, 1, none⟩ = some (.int .i64 p) := k1.cell (i := 1) (v := .int .i64 p) rfl
    exact bodyPost_ret (v := .tuple #[.agg #[.slice none 0 0], .agg #[.int .i64 3, .int .i64 p]]) (by simp [results, Tryz.results23, go_sem, s0, s1, s2]) rfl hfin
  | none =>
    obtain ⟨hout, rfl, ao, m, cap, ns', hos, he⟩ := hq
    have HNS := hide he
    have hB0 := (unhide HB0).out hout (fun e => by rcases e with e | e | e <;> omega)
    have hB1 := (unhide HB1).out hout (fun e => by rcases e with e | e | e <;> omega)
    have HX6 := hide (hout.ext0 (unhide HX5) (fun k e => by rcases e with e | e | e <;> omega))
    have c0 := hos.var.cell (i := 0) (v := .slice ao m cap) rfl
    have q0 := hB0.cell (i := 0) (v := .slice none 0 0) rfl
    have q1 := hB1.cell (i := 0) (v := .int .i64 0) rfl
    have q2 := hB1.cell (i := 1) (v := .int .i64 0) rfl
    have ga := fun j => hB0.free j
    have gb := fun j => hB1.free j
    have HK0 := hide hB0; have HK1 := hide hB1; have HNR := hide hos.row
    clear hout hos hB0 hB1 he
    go_wp2
    have k0 := (((unhide HK0).set 0 (.slice ao m cap)).other 0 (.int .i64 0) (show r0 ≠ r1 by omega)).other 1 (.int .i64 0) (show r0 ≠ r1 by omega)
    have k1 := (((unhide HK1).other 0 (.slice ao m cap) (show r1 ≠ r0 by omega)).set 0 (.int .i64 0)).set 1 (.int .i64 0)
    have hfin : OrdQ w x (.returned (.tuple #[.agg #[.slice ao m cap], .agg #[.int .i64 0, .int .i64 0]])) (((w6.setCell ⟨r0, 0, none⟩ (.slice ao m cap)).setCell ⟨r1, 0, none⟩ (.int .i64 0)).setCell ⟨r1, 1, none⟩ (.int .i64 0)) :=
      OrdQ.yes (unhide HO) (setX (setX (setX (unhide HX6) o0) (by omega)) (by omega)) o6
        ((((unhide HNR).out (T := fun k => k = r0) (Out.of_grown (grownBy_set _ r0 0 _) (fun k e => by cases e; rfl)) (fun k e => by omega)).out (T := fun k => k = r1) (Out.of_grown (grownBy_set _ r1 0 _) (fun k e => by cases e; rfl)) (fun k e => by omega)).out (T := fun k => k = r1) (Out.of_grown (grownBy_set _ r1 1 _) (fun k e => by cases e; rfl)) (fun k e => by omega)) (by have := unhide HNS; simpa using this)
    have s0 := k0.cell (i := 0) (v := .slice ao m cap) rfl
    have s1 := k1.cell (i := 0) (v := .int .i64 0) rfl
    have s2 := k1.cell (i := 1) (v := .int .i64 0) rfl
    exact bodyPost_ret (v := .tuple #[.agg #[.slice ao m cap], .agg #[.int .i64 0, .int .i64 0]]) (by simp [results, Tryz.results23, go_sem, s0, s1, s2]) rfl hfin
end Go.Proofs.YtnmieoojjnipkaaGreat

/-
  Parse.
-/
namespace Go.Proofs.YtnmieoojjnipkaaGreat
open Go.RowKit
set_option linter.unusedVariables false
set_option linter.unusedSimpArgs false

theorem tell_i32 (k : Int) (t b : Byts8) (n : Nat) : I32 (tellP k t b n).1 := by
  have z : I32 0 := by unfold I32; omega
  unfold tellP
  split
  · exact z
  split
  · exact z
  unfold measP
  split
  · split <;> exact z
  split
  · split
    · exact rawI_i32 _
    · exact z
  split
  · unfold parseI
    split
    · exact z
    split
    · exact rawI_i32 _
    · exact z
  · exact z
theorem lexR_i32 : ∀ (f : Nat) (l : Byts8) (a ln : Int) (n : Nat), ∀ t ∈ (lexR f l a ln n).1, I32 t.num
  | 0, l, a, ln, n, t, h => by cases h
  | f + 1, l, a, ln, n, t, h => by
    rw [lexR] at h
    split at h
    · cases h
    split at h
    · exact lexR_i32 f _ _ _ _ t h
    split at h
    · cases h
    split at h
    · exact lexR_i32 f _ _ _ _ t h
    · rcases List.mem_cons.1 h with rfl | h
      · exact tell_i32 _ _ _ _
      · exact lexR_i32 f _ _ _ _ t h
theorem right_tok0 {t : Tok} (h : wrongP t = false) : I32 t.num ∧ t.text ≠ [] := by
  unfold wrongP sameK at h
  have hk : keys (lexP t.text).1 = keys [t] := by simpa using h
  have hl := congrArg List.length hk
  rw [keys_len, keys_len] at hl
  obtain ⟨u, hu⟩ := List.length_eq_one_iff.1 hl
  have hm : u ∈ (lexP t.text).1 := by rw [hu]; simp
  rw [hu] at hk
  have he : key u = key t := by simpa [keys] using hk
  refine ⟨?_, fun h0 => ?_⟩
  · have h1 : u.num = t.num := by
      unfold key at he
      simp only [Prod.mk.injEq] at he
      first
      | exact he.2.2
      | exact he.2.1
    rw [← h1]
    unfold lexP at hm
    split at hm
    · cases hm
    · exact lexR_i32 _ _ _ _ _ u hm
  · rw [h0] at hm
    cases hm
theorem tokOk_of {L : List Tok} (h : L.any wrongP = false) : TokOk L := fun k => by
  by_cases hk : k < L.length
  · have ht : tk L k = L[k] := by unfold tk; simp [hk]
    have := right_tok0 (t := L[k]) (by
      have h2 := List.any_eq_false.1 h L[k] (List.getElem_mem hk)
      simpa using h2)
    rw [ht]
    exact ⟨this.1, fun _ => this.2⟩
  · have ht : tk L k = noTok := by unfold tk; simp [Nat.le_of_not_lt hk]
    refine ⟨by rw [ht]; unfold I32 noTok; decide, fun e => ?_⟩
    unfold isNm at e
    rw [ht] at e
    simp [noTok] at e
theorem shad_le {L : List Tok} (hk : TokOk L) : (shadP L).1 ≤ L.length := by
  have hv : ∀ r k, k ≤ L.length → Adv L k (goP L (fuelP L) r k) := fun r k hk2 => adv_go hk _ r k hk2
  have hl : ∀ (n : Nat) (acc : List (List Nd)) (i : Nat), i ≤ L.length → Lea L i (shadL L (goP L (fuelP L)) n acc i) := by
    intro n
    induction n with
    | zero => intro acc i hi; exact ⟨Nat.le_refl _, hi⟩
    | succ n ih =>
      intro acc i hi
      rw [shadL]
      split
      · refine lea_bnd ?_ (fun j x _ hj => ih _ _ hj)
        split
        · exact (adv_func hv hi).1
        · exact (adv_decl hv hi (by decide)).1
      · exact lea_here _ hi
  have hl2 := lea_bnd (hl (L.length + 1) [] 0 (Nat.zero_le _)) (f := fun j l => (j, some (mkN 1 [] [] 0 0 l))) (fun j l _ hj => lea_here _ hj)
  exact hl2.2
/-- What Parse answers. -/
def parseP (L : List Tok) : List Nd × Int × Int := if checkE L ≠ 0 ∨ L.any nowhereP = true then ([], 2, 0) else (absN 0 (treeP L).1, (treeP L).2)
def ParQ (w : World) (R : List Nd × Int × Int) (e : Ending) (w' : World) : Prop := Ext w w' ∧ ∃ ao n cap ns base, e = .returned (.tuple #[.agg #[.slice ao n cap], .agg #[.int .i64 R.2.1, .int .i64 R.2.2]]) ∧ w.heap.size ≤ base ∧ NR w' base (.slice ao n cap) ns ∧ ns.map Prod.snd = R.1
theorem ParQ.non {w w' : World} {R : List Nd × Int × Int} {a b : Int} (h : R = ([], a, b)) (hx : Ext w w') : ParQ w R (.returned (.tuple #[.agg #[.slice none 0 0], .agg #[.int .i64 a, .int .i64 b]])) w' := by
  subst h
  exact ⟨hx, none, 0, 0, [], w.heap.size, rfl, Nat.le_refl _, NR.nil _ _, rfl⟩
theorem parse_fin {w w1 : World} {r0 r1 : Nat} {v a b : Value} {x0 y0 y1 : Value} (h0 : Blk w1 r0 #[x0] 24) (h1 : Blk w1 r1 #[y0, y1] 31) (hne : r0 < r1) :
    (((w1.setCell ⟨r0, 0, none⟩ v).setCell ⟨r1, 0, none⟩ a).setCell ⟨r1, 1, none⟩ b).cell? ⟨r0, 0, none⟩ = some v ∧ (((w1.setCell ⟨r0, 0, none⟩ v).setCell ⟨r1, 0, none⟩ a).setCell ⟨r1, 1, none⟩ b).cell? ⟨r1, 0, none⟩ = some a ∧ (((w1.setCell ⟨r0, 0, none⟩ v).setCell ⟨r1, 0, none⟩ a).setCell ⟨r1, 1, none⟩ b).cell? ⟨r1, 1, none⟩ = some b :=
  ⟨(((h0.set 0 v).other 0 a (by omega)).other 1 b (by omega)).cell (i := 0) rfl, (((h1.other 0 v (by omega)).set 0 a).set 1 b).cell (i := 0) rfl, (((h1.other 0 v (by omega)).set 0 a).set 1 b).cell (i := 1) rfl⟩
theorem NR.fin {w1 : World} {r0 r1 base : Nat} {u v a b : Value} {ns : List Nt} (h : NR w1 base u ns) (h0 : r0 < base) (h1 : r1 < base) : NR (((w1.setCell ⟨r0, 0, none⟩ v).setCell ⟨r1, 0, none⟩ a).setCell ⟨r1, 1, none⟩ b) base u ns :=
  ((h.out (T := fun k => k = r0) (Out.of_grown (grownBy_set _ r0 0 _) (fun k e => by cases e; rfl)) (fun k e => by omega)).out (T := fun k => k = r1) (Out.of_grown (grownBy_set _ r1 0 _) (fun k e => by cases e; rfl)) (fun k e => by omega)).out (T := fun k => k = r1) (Out.of_grown (grownBy_set _ r1 1 _) (fun k e => by cases e; rfl)) (fun k e => by omega)
set_option maxHeartbeats 4000000 in
set_option maxRecDepth 100000 in
theorem Parse_any (L : List Tok) (ta : Option Addr) (tc : Nat) (w : World) (m : Int) (hm : w.cell? ⟨0, 0, none⟩ = some (.int .i64 m)) (hT : TR w (.slice ta L.length tc) L) :
    Calls Tryz.prog 13 #[.slice ta L.length tc] w (ParQ w (parseP L)) := by
  obtain ⟨w1, h1⟩ : ∃ y, y = w.alloc (.cells #[.slice none 0 0] 24) := ⟨_, rfl⟩
  obtain ⟨w2, h2⟩ : ∃ y, y = w1.alloc (.cells #[.int .i64 0, .int .i64 0] 31) := ⟨_, rfl⟩
  have z1 : w1.heap.size = w.heap.size + 1 := by rw [h1]; simp
  have z2 : w2.heap.size = w.heap.size + 1 + 1 := by rw [h2]; simp [z1]
  have x1 : Ext w w1 := by rw [h1]; exact (Ext.refl _).alloc _
  have x2 : Ext w1 w2 := by rw [h2]; exact (Ext.refl _).alloc _
  have B0 : Blk w2 w.heap.size #[.slice none 0 0] 24 := (show Blk w1 w.heap.size _ _ by rw [h1]; exact Blk.new _ _ _).ext x2
  have B1 : Blk w2 (w.heap.size + 1) #[.int .i64 0, .int .i64 0] 31 := by rw [h2]; exact BlkAt z1
  have X2 : Ext w w2 := x1.trans x2
  have HE : Hid (w2 = (w.alloc (.cells #[.slice none 0 0] 24)).alloc (.cells #[.int .i64 0, .int .i64 0] 31)) := by
    show w2 = _
    rw [h2, h1]
  obtain ⟨r0, hr0⟩ : ∃ y, y = w.heap.size := ⟨_, rfl⟩
  obtain ⟨r1, hr1⟩ : ∃ y, y = w.heap.size + 1 := ⟨_, rfl⟩
  have o0 : w.heap.size ≤ r0 := by omega
  have o1 : r0 < r1 := by omega
  have o2 : r1 < w2.heap.size := by omega
  rw [← hr1] at B1
  rw [← hr0] at B0
  have HB0 := hide B0; have HB1 := hide B1; have HX2 := hide X2; have HR0 := hide hr0; have HR1 := hide hr1
  have HT := hide (hT.ext X2)
  have HC := hide (check_any L ta tc w2 m (keepM hm X2) (hT.ext X2))
  have HPP : Hid (parseP L = if checkE L ≠ 0 ∨ L.any nowhereP = true then ([], 2, 0) else (absN 0 (treeP L).1, (treeP L).2)) := rfl
  clear B0 B1 X2 x1 x2 z1 z2 h1 h2 hr0 hr1 hT hm
  obtain ⟨R, hR⟩ : ∃ R, R = parseP L := ⟨_, rfl⟩
  rw [← hR] at HPP ⊢
  clear hR
  go_enter Tryz.func13, Tryz.ntmps13
  go_wp2_with fail
  rw [← unhide HE, ← unhide HR1, ← unhide HR0]
  by_cases hc : checkE L = 0
  · rw [hc] at HC
    refine (unhide HC).mono ?_
    rintro e w3 ⟨rfl, hx3⟩
    have HX3 := hide ((unhide HX2).trans hx3)
    have HB03 := hide ((unhide HB0).ext hx3)
    have HB13 := hide ((unhide HB1).ext hx3)
    have o3 := Nat.lt_of_lt_of_le o2 hx3.size
    have HT3 := hide ((unhide HT).ext hx3)
    have HCN := hide (containsNo_any L ta tc w3 (unhide HT3))
    have HCK := hide hc
    clear hx3 hc HC HB0 HB1 HX2 HT
    by_cases hn : L.any nowhereP = true
    · rw [hn] at HCN
      have HR : Hid (R = ([], 2, 0)) := by
        show R = _
        rw [unhide HPP, if_pos (.inr hn)]
      clear hn HPP
      go_wp2_with fail
      refine (unhide HCN).mono ?_
      rintro e w4 ⟨rfl, hx4⟩
      have HB04 := hide ((unhide HB03).ext hx4)
      have HB14 := hide ((unhide HB13).ext hx4)
      have HX4 := hide ((unhide HX3).trans hx4)
      have q0 := (unhide HB04).cell (i := 0) (v := .slice none 0 0) rfl
      have q1 := (unhide HB14).cell (i := 0) (v := .int .i64 0) rfl
      have q2 := (unhide HB14).cell (i := 1) (v := .int .i64 0) rfl
      have ga := fun j => (unhide HB04).free j
      have gb := fun j => (unhide HB14).free j
      clear hx4
      go_wp2
      have hf := parse_fin (v := .slice none 0 0) (a := .int .i64 2) (b := .int .i64 0) (w := w) (unhide HB04) (unhide HB14) o1
      obtain ⟨s0, s1, s2⟩ := hf
      exact bodyPost_ret (v := .tuple #[.agg #[.slice none 0 0], .agg #[.int .i64 2, .int .i64 0]]) (by simp [results, Tryz.results13, go_sem, s0, s1, s2]) rfl (ParQ.non (unhide HR) (setX (setX (setX (unhide HX4) o0) (by omega)) (by omega)))
    · have hn2 : L.any nowhereP = false := by simpa using hn
      rw [hn2] at HCN
      have hck := unhide HCK
      have hsm : L.length ≤ 2048 ∧ L.any wrongP = false := by
        unfold checkE at hck
        split at hck
        · cases hck
        · rename_i h
          simp only [not_or] at h
          exact ⟨by omega, by simpa using h.2⟩
      have HR : Hid (R = (absN 0 (treeP L).1, (treeP L).2)) := by
        show R = _
        rw [unhide HPP, if_neg]
        intro h
        rcases h with h | h
        · exact h hck
        · exact hn h
      have hok := tokOk_of hsm.2
      have HSL := hide (shad_le hok)
      have HOK := hide hok
      have hL : L.length ≤ 2048 := hsm.1
      clear hn hn2 hck hsm hok HPP
      go_wp2_with fail
      refine (unhide HCN).mono ?_
      rintro e w4 ⟨rfl, hx4⟩
      have HB04 := hide ((unhide HB03).ext hx4)
      have HB14 := hide ((unhide HB13).ext hx4)
      have HX4 := hide ((unhide HX3).trans hx4)
      have HRD := hide (readP_any L ta tc w4 ((unhide HT3).ext hx4) (unhide HOK) (by omega))
      have o4 := Nat.lt_of_lt_of_le o3 hx4.size
      clear hx4 HB03 HB13 HX3 HT3 HCN
      go_wp2_with fail
      refine (unhide HRD).mono ?_
      intro e w5 hq
      obtain ⟨⟨j, o⟩, hS⟩ : ∃ S, shadP L = S := ⟨_, rfl⟩
      have hsl := unhide HSL
      rw [hS] at hsl
      unfold ReadQ at hq
      rw [hS] at hq
      obtain ⟨hx5, hq⟩ := hq
      have HB05 := hide ((unhide HB04).ext hx5)
      have HB15 := hide ((unhide HB14).ext hx5)
      have HX5 := hide ((unhide HX4).trans hx5)
      have o5 := Nat.lt_of_lt_of_le o4 hx5.size
      have HSZ := hide hx5.size
      clear hx5 HB04 HB14 HX4 HRD
      cases o with
      | none =>
        have e := hq
        simp only at e
        subst e
        have HR2 : Hid (R = ([], 220, hereP L j)) := by
          show R = _
          rw [unhide HR]
          unfold treeP
          rw [hS]
          rfl
        obtain ⟨w6, h6⟩ : ∃ y, y = w5.alloc (.cells #[.int .i64 220, .int .i64 (hereP L j)] 31) := ⟨_, rfl⟩
        obtain ⟨sp, hsp⟩ : ∃ y, y = w5.heap.size := ⟨_, rfl⟩
        have hxa : Ext w5 w6 := by rw [h6]; exact (Ext.refl w5).alloc _
        have hS6 : Blk w6 sp #[.int .i64 220, .int .i64 (hereP L j)] 31 := by rw [h6, hsp]; exact Blk.new _ _ _
        have HB06 := hide ((unhide HB05).ext hxa)
        have HB16 := hide ((unhide HB15).ext hxa)
        have HX6 := hide ((unhide HX5).trans hxa)
        have HE6 := hide h6
        have HSP := hide hsp
        have c0 := hS6.cell (i := 0) (v := .int .i64 220) rfl
        have c1 := hS6.cell (i := 1) (v := .int .i64 (hereP L j)) rfl
        have q0 := (unhide HB06).cell (i := 0) (v := .slice none 0 0) rfl
        have q1 := (unhide HB16).cell (i := 0) (v := .int .i64 0) rfl
        have q2 := (unhide HB16).cell (i := 1) (v := .int .i64 0) rfl
        have ga := fun j => (unhide HB06).free j
        have gb := fun j => (unhide HB16).free j
        have e0 : ¬ sp = r0 := by omega
        have e1 : ¬ sp = r1 := by omega
        have e2 : ¬ r1 = r0 := by omega
        have e3 : ¬ r0 = r1 := by omega
        clear hS hq HR h6 hsp hxa hS6
        go_wp2
        rw [← unhide HE6, ← unhide HSP]
        go_region
        all_goals go_wp2
        have hf := parse_fin (v := .slice none 0 0) (a := .int .i64 220) (b := .int .i64 (hereP L j)) (w := w) (unhide HB06) (unhide HB16) o1
        obtain ⟨s0, s1, s2⟩ := hf
        have hxe := (setX (i := 1) (v := .int .i64 (hereP L j)) (setX (i := 0) (v := .int .i64 220) (setX (i := 0) (v := .slice none 0 0) (unhide HX6) o0) (show w.heap.size ≤ r1 by omega)) (show w.heap.size ≤ r1 by omega)).drew
        exact bodyPost_ret (v := .tuple #[.agg #[.slice none 0 0], .agg #[.int .i64 220, .int .i64 (hereP L j)]]) (by simp [results, Tryz.results13, go_sem, s0, s1, s2]) rfl (ParQ.non (unhide HR2) hxe)
      | some x =>
        obtain ⟨b, rfl, hpi⟩ := hq
        have hlen := few_shad hS
        have HTB := hide (tree_bad L hS)
        have HPI := hide hpi
        clear hS
        obtain ⟨w6, h6⟩ : ∃ y, y = w5.alloc (.cells #[.int .i64 0, .int .i64 0] 31) := ⟨_, rfl⟩
        have hxa : Ext w5 w6 := by rw [h6]; exact (Ext.refl w5).alloc _
        have HB06 := hide ((unhide HB05).ext hxa)
        have HB16 := hide ((unhide HB15).ext hxa)
        have HX6 := hide ((unhide HX5).trans hxa)
        have HE6 := hide h6
        have o6 : r1 < w6.heap.size := Nat.lt_of_lt_of_le o5 hxa.size
        have hw6 : w.heap.size ≤ w6.heap.size := (unhide HX6).size
        have HORD := hide (order_any w6 (hpi.ext hxa) (by simp only at hsl; omega))
        clear h6 hxa hpi HB05 HB15 HX5
        go_wp2_with fail
        rw [← unhide HE6]
        refine (unhide HORD).mono ?_
        intro e w7 hq
        unfold OrdQ at hq
        obtain ⟨ob, hob⟩ : ∃ ob, badP 0 x = ob := ⟨_, rfl⟩
        have htb := unhide HTB
        rw [hob] at hq htb
        obtain ⟨hx7, hq⟩ := hq
        have HB07 := hide ((unhide HB06).ext hx7)
        have HB17 := hide ((unhide HB16).ext hx7)
        have HX7 := hide ((unhide HX6).trans hx7)
        have q0 := (unhide HB07).cell (i := 0) (v := .slice none 0 0) rfl
        have q1 := (unhide HB17).cell (i := 0) (v := .int .i64 0) rfl
        have q2 := (unhide HB17).cell (i := 1) (v := .int .i64 0) rfl
        have ga := fun j => (unhide HB07).free j
        have gb := fun j => (unhide HB17).free j
        clear hx7 hob HORD HB06 HB16 HX6
        cases ob with
        | some p =>
          simp only at hq htb
          subst hq
          have HR2 : Hid (R = ([], 3, p)) := by
            show R = _
            rw [unhide HR, htb]
            rfl
          clear htb
          go_wp2
          have hf := parse_fin (v := .slice none 0 0) (a := .int .i64 3) (b := .int .i64 p) (w := w) (unhide HB07) (unhide HB17) o1
          obtain ⟨s0, s1, s2⟩ := hf
          exact bodyPost_ret (v := .tuple #[.agg #[.slice none 0 0], .agg #[.int .i64 3, .int .i64 p]]) (by simp [results, Tryz.results13, go_sem, s0, s1, s2]) rfl (ParQ.non (unhide HR2) (setX (setX (setX (unhide HX7) o0) (by omega)) (by omega)))
        | none =>
          simp only at hq htb
          obtain ⟨ao, n, cap, ns, base, rfl, hbase, hnr, hns⟩ := hq
          have HR2 : Hid (R = (absN 0 x, 0, 0)) := by
            show R = _
            rw [unhide HR, htb]
          have HNR := hide hnr
          have HNS := hide hns
          clear htb hnr hns
          go_wp2
          have hf := parse_fin (v := .slice ao n cap) (a := .int .i64 0) (b := .int .i64 0) (w := w) (unhide HB07) (unhide HB17) o1
          obtain ⟨s0, s1, s2⟩ := hf
          have hfin : ParQ w R (.returned (.tuple #[.agg #[.slice ao n cap], .agg #[.int .i64 0, .int .i64 0]])) (((w7.setCell ⟨r0, 0, none⟩ (.slice ao n cap)).setCell ⟨r1, 0, none⟩ (.int .i64 0)).setCell ⟨r1, 1, none⟩ (.int .i64 0)) := by
            rw [unhide HR2]
            exact ⟨setX (setX (setX (unhide HX7) o0) (by omega)) (by omega), ao, n, cap, ns, base, rfl, by omega, (unhide HNR).fin (by omega) (by omega), unhide HNS⟩
          exact bodyPost_ret (v := .tuple #[.agg #[.slice ao n cap], .agg #[.int .i64 0, .int .i64 0]]) (by simp [results, Tryz.results13, go_sem, s0, s1, s2]) rfl hfin
  · have hc2 : checkE L = 2 := by
      unfold checkE at hc ⊢
      split at hc
      · rename_i h
        rw [if_pos h]
      · exact absurd rfl hc
    rw [hc2] at HC
    have HR : Hid (R = ([], 2, 0)) := by
      show R = _
      rw [unhide HPP, if_pos (.inl hc)]
    clear hc hc2 HPP
    refine (unhide HC).mono ?_
    rintro e w3 ⟨rfl, hx3⟩
    have HX3 := hide ((unhide HX2).trans hx3)
    have HB03 := hide ((unhide HB0).ext hx3)
    have HB13 := hide ((unhide HB1).ext hx3)
    have q0 := (unhide HB03).cell (i := 0) (v := .slice none 0 0) rfl
    have q1 := (unhide HB13).cell (i := 0) (v := .int .i64 0) rfl
    have q2 := (unhide HB13).cell (i := 1) (v := .int .i64 0) rfl
    have ga := fun j => (unhide HB03).free j
    have gb := fun j => (unhide HB13).free j
    clear hx3
    go_wp2
    have hf := parse_fin (v := .slice none 0 0) (a := .int .i64 2) (b := .int .i64 0) (w := w) (unhide HB03) (unhide HB13) o1
    obtain ⟨s0, s1, s2⟩ := hf
    exact bodyPost_ret (v := .tuple #[.agg #[.slice none 0 0], .agg #[.int .i64 2, .int .i64 0]]) (by simp [results, Tryz.results13, go_sem, s0, s1, s2]) rfl (ParQ.non (unhide HR) (setX (setX (setX (unhide HX3) o0) (by omega)) (by omega)))
end Go.Proofs.YtnmieoojjnipkaaGreat

/-
  The layer does something: the tree of one text.
-/
namespace Go.Proofs.YtnmieoojjnipkaaGreat
open Go.RowKit
set_option linter.unusedVariables false
set_option linter.unusedSimpArgs false

def wkT : Byts8 := [118, 111, 105, 100, 32, 109, 97, 105, 110, 40, 41, 123, 105, 110, 116, 32, 97, 61, 49, 45, 50, 45, 51, 59, 125]
def wkK : List Tok := [⟨1, [118, 111, 105, 100], 0, 0, 0⟩, ⟨1, [109, 97, 105, 110], 0, 5, 0⟩, ⟨4, [40], 0, 9, 0⟩, ⟨4, [41], 0, 10, 0⟩, ⟨4, [123], 0, 11, 0⟩, ⟨1, [105, 110, 116], 0, 12, 0⟩, ⟨1, [97], 0, 16, 0⟩, ⟨4, [61], 0, 17, 0⟩, ⟨2, [49], 65536, 18, 0⟩, ⟨4, [45], 0, 19, 0⟩, ⟨2, [50], 131072, 20, 0⟩, ⟨4, [45], 0, 21, 0⟩, ⟨2, [51], 196608, 22, 0⟩, ⟨4, [59], 0, 23, 0⟩, ⟨4, [125], 0, 24, 0⟩]
set_option maxRecDepth 100000 in
theorem wk_lex : lexP wkT = (wkK, 0, 0) := by kernel_rfl
set_option maxRecDepth 100000 in
theorem wk_spot : (parseP wkK).2 = (0, 0) := by kernel_rfl
set_option maxRecDepth 100000 in
theorem wk_kinds : (parseP wkK).1.map (fun n => n.kind) = [1, 4, 6, 2, 3, 15, 15, 20, 20, 20] := by kernel_rfl
set_option maxRecDepth 100000 in
theorem wk_bad : (parseP (wkK.take 3)).2.1 = 220 := by kernel_rfl
theorem TR.takeW {w : World} {ao : Option Addr} {n cap : Nat} {L : List Tok} (h : TR w (.slice ao n cap) L) (m : Nat) (hm : m ≤ L.length) : TR w (.slice ao m cap) (L.take m) := by
  obtain ⟨a, c, e, h1, h2, h3, h4⟩ := h
  cases e
  have hl : (L.take m).length = m := by rw [List.length_take]; omega
  refine ⟨_, _, by rw [hl], fun h0 => ?_, by omega, h3, fun i hi => ?_⟩
  · have := h1 h0
    first
    | (rw [hl]; omega)
    | omega
    | simp_all
  · rw [hl] at hi
    obtain ⟨b, off, e2, t⟩ := h4 i (by omega)
    exact ⟨b, off, e2, by rw [List.getElem_take]; exact t⟩
/-- What Parse answers of the whole. -/
def WkQ (w : World) (e : Ending) (w' : World) : Prop := Ext w w' ∧ ∃ b off cap, e = .returned (.tuple #[.agg #[.slice (some ⟨b, off, none⟩) 10 cap], .agg #[.int .i64 0, .int .i64 0]]) ∧ w'.cell? ⟨b, off + 18, none⟩ = some (.int .i64 2)
theorem wk_whole {w : World} {e : Ending} {w' : World} (h : ParQ w (parseP wkK) e w') : WkQ w e w' := by
  obtain ⟨hx, ao, n, cap, ns, base, rfl, hb, hnr, hns⟩ := h
  have hk : ns.map (fun p => p.2.kind) = [1, 4, 6, 2, 3, 15, 15, 20, 20, 20] := by
    rw [← wk_kinds, ← hns, List.map_map]
    rfl
  have hl : ns.length = 10 := by
    have := congrArg List.length hk
    simpa using this
  rw [wk_spot]
  refine ⟨hx, ?_⟩
  rcases hnr.own.2 with ⟨e1, h0⟩ | ⟨g, c2, cur, e1, h1⟩
  · exact absurd h0 (by omega)
  · have e1' := e1
    cases e1
    have hc := World.ownsRow.cells hnr.own (g := g) rfl (3 * 6 + 0) (.int .i64 2) (by
      rw [ncells_get _ 3 (by omega) 0 (by decide)]
      have h3 : (ns[3]'(by omega)).2.kind = 2 := by
        have := congrArg (fun l => l[3]?) hk
        simpa [hl] using this
      simp [ncell, h3])
    rw [Addr.add_lit] at hc
    refine ⟨g, 0, _, by rw [hl], ?_⟩
    simpa using hc
/-- What it answers of its begin. -/
theorem wk_part {w : World} {e : Ending} {w' : World} (h : ParQ w (parseP (wkK.take 3)) e w') : Ext w w' ∧ ∃ ao n cap b, e = .returned (.tuple #[.agg #[.slice ao n cap], .agg #[.int .i64 220, .int .i64 b]]) := by
  obtain ⟨hx, ao, n, cap, ns, base, rfl, hb, hnr, hns⟩ := h
  rw [wk_bad]
  exact ⟨hx, ao, n, cap, _, rfl⟩
set_option maxHeartbeats 4000000 in
set_option maxRecDepth 100000 in
theorem wakes12_any (w : World) (m : Int) (hm : w.cell? ⟨0, 0, none⟩ = some (.int .i64 m)) :
    Calls Tryz.prog 7 #[] w fun e w' => e = .returned (.bool true) ∧ Ext w w' := by
  have HL := lexT_any wkT w m hm
  rw [wk_lex] at HL
  have HLX := hide HL
  have HM := hide hm
  clear HL hm
  go_enter Tryz.func7, Tryz.ntmps7
  go_wp2_with fail
  refine (unhide HLX).mono ?_
  rintro e w1 ⟨ao, cap, rfl, hown, hx⟩
  have hcap : 15 ≤ cap := by
    obtain ⟨_, _, e0, _, hc, _⟩ := hown.tr
    cases e0
    exact hc
  have hT := hown.tr
  obtain ⟨w2, h2⟩ : ∃ y, y = w1.alloc (.cells #[.int .i64 0, .int .i64 0] 31) := ⟨_, rfl⟩
  have hx2 : Ext w w2 := hx.trans (by rw [h2]; exact (Ext.refl w1).alloc _)
  have hT2 : TR w2 (.slice ao 15 cap) wkK := hT.ext (by rw [h2]; exact (Ext.refl w1).alloc _)
  have HT2 := hide hT2
  have HX2 := hide hx2
  have HE2 := hide h2
  have HP := hide (Parse_any wkK ao cap w2 m (keepM (unhide HM) hx2) hT2)
  have hc3 : decide ((3 : Int) ≤ (cap : Int)) = true := by simp; omega
  clear hx hown hT h2 hx2 hT2
  simp only [show wkK.length = 15 from rfl] at HP ⊢
  go_wp2_with fail
  rw [← unhide HE2]
  refine (unhide HP).mono ?_
  intro e w3 hq
  obtain ⟨hx3, b, off, c3, rfl, hcell⟩ := wk_whole hq
  have HX3 := hide hx3
  have HC3 := hide hcell
  clear hq hx3 hcell
  obtain ⟨w4, h4⟩ : ∃ y, y = w3.alloc (.cells #[.slice (some ⟨b, off, none⟩) 10 c3] 24) := ⟨_, rfl⟩
  obtain ⟨w5, h5⟩ : ∃ y, y = w4.alloc (.cells #[.int .i64 0, .int .i64 0] 31) := ⟨_, rfl⟩
  have z4 : w4.heap.size = w3.heap.size + 1 := by rw [h4]; simp
  have x4 : Ext w3 w4 := by rw [h4]; exact (Ext.refl _).alloc _
  have x5 : Ext w4 w5 := by rw [h5]; exact (Ext.refl _).alloc _
  have B3 : Blk w5 w3.heap.size #[.slice (some ⟨b, off, none⟩) 10 c3] 24 := (show Blk w4 w3.heap.size _ _ by rw [h4]; exact Blk.new _ _ _).ext x5
  have B4 : Blk w5 (w3.heap.size + 1) #[.int .i64 0, .int .i64 0] 31 := by rw [h5]; exact BlkAt z4
  have x35 := x4.trans x5
  have HX5 := hide (((unhide HX2).trans (unhide HX3)).trans x35)
  have HT5 := hide ((((unhide HT2).ext (unhide HX3)).ext x35).takeW 3 (by decide))
  have hE5 : w5 = (w3.alloc (.cells #[.slice (some ⟨b, off, none⟩) 10 c3] 24)).alloc (.cells #[.int .i64 0, .int .i64 0] 31) := by rw [h5, h4]
  have HE5 := hide hE5
  have HC5 : Hid (w5.cell? ⟨b, off + 18, none⟩ = some (.int .i64 2)) := by
    show w5.cell? ⟨b, off + 18, none⟩ = some (.int .i64 2)
    rw [x35.cell (p := ⟨b, off + 18, none⟩) (World.block_lt_of_cell? w3 _ (unhide HC3))]
    exact unhide HC3
  have HP5 := hide (Parse_any (wkK.take 3) ao cap w5 m (keepM (unhide HM) (unhide HX5)) (unhide HT5))
  simp only [show (wkK.take 3).length = 3 from rfl] at HP5
  have HB3 := hide B3; have HB4 := hide B4
  clear h4 h5 z4 x4 x5 B3 B4 x35 hE5
  go_wp2_with fail
  rw [← unhide HE5]
  refine (unhide HP5).mono ?_
  intro e w6 hq
  obtain ⟨hx6, ao6, n6, cap6, p6, rfl⟩ := wk_part hq
  have hk : ∀ (a : Addr) u, w5.cell? a = some u → ∀ o1 o2, ((w6.alloc o1).alloc o2).cell? a = some u := fun a u hu o1 o2 => by
    rw [((hx6.alloc o1).alloc o2).cell (p := a) (World.block_lt_of_cell? w5 _ hu)]
    exact hu
  have d1 := hk _ _ ((unhide HB3).cell (i := 0) (v := .slice (some ⟨b, off, none⟩) 10 c3) rfl)
  have d2 := hk _ _ ((unhide HB4).cell (i := 0) (v := .int .i64 0) rfl)
  have d3 := hk _ _ ((unhide HB4).cell (i := 1) (v := .int .i64 0) rfl)
  have d4 := hk _ _ (unhide HC5)
  have HX6 := hide (((unhide HX5).trans hx6))
  clear hq hx6 hk
  go_wp2
  go_ret
  exact ⟨rfl, ((unhide HX6).alloc _).alloc _⟩
end Go.Proofs.YtnmieoojjnipkaaGreat
