/- Several texts in one. -/
import Derived.Test.YtnmieoojjnipkaaGreatTKcJ
import Derived.Test.YtnmieoojjnipkaaGreatRows
import Derived.Test.YtnmieoojjnipkaaGreatLem
import Derived.ProofKit
import Derived.OpenShut
import Derived.SizedLaws
import Derived.JoinedCond
import Derived.Deep.CondSized
import Derived.HandedShaped
import Derived.ChangeMaps5
/-
  What holds of each node made of such as it holds of holds of every tree that is read.
-/
namespace Go.Proofs.YtnmieoojjnipkaaGreat
set_option linter.unusedVariables false
set_option linter.unusedSimpArgs false

def AllG (G : List Nd → Prop) (rule : Nat → Rp) : Prop := ∀ i j x, rule i = (j, some x) → G x
def MkC (G : List Nd → Prop) : Prop := ∀ (kind : Int) (ty text : Byts8) (num place : Int) (ks : List (List Nd)), (∀ k ∈ ks, G k) → G (mkN kind ty text num place ks)
section
variable {G : List Nd → Prop}
variable {L : List Tok} {rec : Nat → Nat → Rp} {rule : Nat → Rp}
theorem all_sevL (h : AllG G rule) : ∀ (n : Nat) (acc : List (List Nd)) (i j : Nat) (l : List (List Nd)), (∀ k ∈ acc, G k) → sevL L rule n acc i = (j, some l) → ∀ k ∈ l, G k
  | 0, acc, i, j, l, ha, e => by cases e
  | n + 1, acc, i, j, l, ha, e => by
    rw [sevL] at e
    split at e
    · obtain ⟨k, x, e1, e2⟩ := bnd_inv e
      refine all_sevL h n _ _ _ _ ?_ e2
      intro q hq
      rcases List.mem_append.1 hq with hq | hq
      · exact ha q hq
      · rw [List.mem_singleton] at hq
        exact hq ▸ h _ _ _ e1
    · obtain ⟨rfl, rfl⟩ := some_inv e
      exact ha
theorem all_sev (h : AllG G rule) {i j : Nat} {l : List (List Nd)} (e : sevP L rule i = (j, some l)) : ∀ k ∈ l, G k := by
  obtain ⟨k, x, e1, e2⟩ := bnd_inv e
  refine all_sevL h _ _ _ _ _ ?_ e2
  intro q hq
  rw [List.mem_singleton] at hq
  exact hq ▸ h _ _ _ e1
theorem all_enc (h : AllG G rule) {i j : Nat} {l : List (List Nd)} (e : encP L rule i = (j, some l)) : ∀ k ∈ l, G k := by
  obtain ⟨k, u, e1, e2⟩ := bnd_inv e
  split at e2
  · obtain ⟨rfl, rfl⟩ := some_inv e2
    intro q hq
    cases hq
  · obtain ⟨m, l2, e3, e4⟩ := bnd_inv e2
    obtain ⟨q, u2, e5, e6⟩ := bnd_inv e4
    obtain ⟨rfl, rfl⟩ := some_inv e6
    exact all_sev h e3
theorem mk0 (mk : MkC G) (kind : Int) (ty text : Byts8) (num place : Int) : G (mkN kind ty text num place []) := mk _ _ _ _ _ _ (fun k hk => by cases hk)
theorem mk1 (mk : MkC G) (kind : Int) (ty text : Byts8) (num place : Int) {a : List Nd} (h : G a) : G (mkN kind ty text num place [a]) := mk _ _ _ _ _ _ (fun k hk => by rw [List.mem_singleton] at hk; exact hk ▸ h)
theorem mk2 (mk : MkC G) (kind : Int) (ty text : Byts8) (num place : Int) {a b : List Nd} (h : G a) (h2 : G b) : G (mkN kind ty text num place [a, b]) := mk _ _ _ _ _ _ (fun k hk => by
  simp only [List.mem_cons, List.not_mem_nil, or_false] at hk
  rcases hk with rfl | rfl <;> assumption)
theorem mk3 (mk : MkC G) (kind : Int) (ty text : Byts8) (num place : Int) {a b c : List Nd} (h : G a) (h2 : G b) (h3 : G c) : G (mkN kind ty text num place [a, b, c]) := mk _ _ _ _ _ _ (fun k hk => by
  simp only [List.mem_cons, List.not_mem_nil, or_false] at hk
  rcases hk with rfl | rfl | rfl <;> assumption)
theorem all_oper (mk : MkC G) (h : AllG G rule) {kind : Int} {side : List Nd} (hs : G side) {i j : Nat} {x : List Nd} (e : operP L kind side rule i = (j, some x)) : G x := by
  obtain ⟨k, y, e1, e2⟩ := bnd_inv e
  obtain ⟨rfl, rfl⟩ := some_inv e2
  exact mk2 mk _ _ _ _ _ hs (h _ _ _ e1)
theorem all_var (mk : MkC G) (h : ∀ r, AllG G (rec r)) : AllG G (varP L rec) := fun i j x e => by
  obtain ⟨k, t, e1, e2⟩ := bnd_inv e
  split at e2
  · obtain ⟨m, y, e3, e4⟩ := bnd_inv e2
    obtain ⟨rfl, rfl⟩ := some_inv e4
    exact mk1 mk _ _ _ _ _ (h _ _ _ _ e3)
  · obtain ⟨rfl, rfl⟩ := some_inv e2
    exact mk0 mk _ _ _ _ _
theorem all_declR (mk : MkC G) (h : ∀ r, AllG G (rec r)) (pl : Int) (tx : Byts8) : AllG G (declR L rec pl tx) := fun i j x e => by
  obtain ⟨k, t, e1, e2⟩ := bnd_inv e
  obtain ⟨m, l, e3, e4⟩ := bnd_inv e2
  obtain ⟨q, u, e5, e6⟩ := bnd_inv e4
  obtain ⟨rfl, rfl⟩ := some_inv e6
  exact mk _ _ _ _ _ _ (all_sev (all_var mk h) e3)
theorem all_decl (mk : MkC G) (h : ∀ r, AllG G (rec r)) (ws : List Byts8) : AllG G (declP L rec ws) := fun i j x e => by
  unfold declP at e
  split at e
  · exact all_declR mk h _ _ _ _ _ e
  · exact all_declR mk h _ _ _ _ _ e
theorem all_param (mk : MkC G) : AllG G (paramP L) := fun i j x e => by
  obtain ⟨k, t, e1, e2⟩ := bnd_inv e
  obtain ⟨m, u, e3, e4⟩ := bnd_inv e2
  obtain ⟨rfl, rfl⟩ := some_inv e4
  exact mk0 mk _ _ _ _ _
theorem all_func (mk : MkC G) (h : ∀ r, AllG G (rec r)) : AllG G (funcP L rec) := fun i j x e => by
  obtain ⟨k, t, e1, e2⟩ := bnd_inv e
  obtain ⟨m, u, e3, e4⟩ := bnd_inv e2
  obtain ⟨q, ps, e5, e6⟩ := bnd_inv e4
  obtain ⟨s, b, e7, e8⟩ := bnd_inv e6
  obtain ⟨rfl, rfl⟩ := some_inv e8
  refine mk _ _ _ _ _ _ (fun k hk => ?_)
  rcases List.mem_append.1 hk with hk | hk
  · exact all_enc (all_param mk) e5 k hk
  · rw [List.mem_singleton] at hk
    exact hk ▸ h _ _ _ _ e7
theorem all_bound (mk : MkC G) : AllG G (boundP L) := fun i j x e => by
  unfold boundP at e
  split at e
  all_goals
    obtain ⟨k, t, e1, e2⟩ := bnd_inv e
    obtain ⟨rfl, rfl⟩ := some_inv e2
    exact mk0 mk _ _ _ _ _
theorem all_blockL (h : AllG G rule) : ∀ (n : Nat) (acc : List (List Nd)) (i j : Nat) (l : List (List Nd)), (∀ k ∈ acc, G k) → blockL L rule n acc i = (j, some l) → ∀ k ∈ l, G k
  | 0, acc, i, j, l, ha, e => by cases e
  | n + 1, acc, i, j, l, ha, e => by
    rw [blockL] at e
    split at e
    · obtain ⟨rfl, rfl⟩ := some_inv e
      exact ha
    · obtain ⟨k, x, e1, e2⟩ := bnd_inv e
      refine all_blockL h n _ _ _ _ ?_ e2
      intro q hq
      rcases List.mem_append.1 hq with hq | hq
      · exact ha q hq
      · rw [List.mem_singleton] at hq
        exact hq ▸ h _ _ _ e1
theorem all_block (mk : MkC G) (h : ∀ r, AllG G (rec r)) : AllG G (blockP L rec) := fun i j x e => by
  obtain ⟨k, u, e1, e2⟩ := bnd_inv e
  obtain ⟨m, l, e3, e4⟩ := bnd_inv e2
  obtain ⟨rfl, rfl⟩ := some_inv e4
  exact mk _ _ _ _ _ _ (all_blockL (h 12) _ _ _ _ _ (fun k hk => by cases hk) e3)
theorem all_branch (mk : MkC G) (h : ∀ r, AllG G (rec r)) : AllG G (branchP L rec) := fun i j x e => by
  obtain ⟨k, u, e1, e2⟩ := bnd_inv e
  obtain ⟨m, y, e3, e4⟩ := bnd_inv e2
  obtain ⟨q, u2, e5, e6⟩ := bnd_inv e4
  obtain ⟨s, z, e7, e8⟩ := bnd_inv e6
  have h3 := h _ _ _ _ e3
  have h7 := h _ _ _ _ e7
  split at e8
  · obtain ⟨v, b, e9, e10⟩ := bnd_inv e8
    obtain ⟨rfl, rfl⟩ := some_inv e10
    exact mk3 mk _ _ _ _ _ h3 h7 (h _ _ _ _ e9)
  · obtain ⟨rfl, rfl⟩ := some_inv e8
    exact mk2 mk _ _ _ _ _ h3 h7
theorem all_loop (mk : MkC G) (h : ∀ r, AllG G (rec r)) : AllG G (loopP L rec) := fun i j x e => by
  obtain ⟨k1, u1, e1, e⟩ := bnd_inv e
  obtain ⟨k2, t, e2, e⟩ := bnd_inv e
  obtain ⟨k3, u3, e3, e⟩ := bnd_inv e
  obtain ⟨k4, x4, e4, e⟩ := bnd_inv e
  obtain ⟨k5, u5, e5, e⟩ := bnd_inv e
  obtain ⟨k6, x6, e6, e⟩ := bnd_inv e
  obtain ⟨k7, u7, e7, e⟩ := bnd_inv e
  obtain ⟨k8, x8, e8, e⟩ := bnd_inv e
  obtain ⟨rfl, rfl⟩ := some_inv e
  exact mk3 mk _ _ _ _ _ (all_bound mk _ _ _ e4) (all_bound mk _ _ _ e6) (h _ _ _ _ e8)
theorem all_leave (mk : MkC G) (h : ∀ r, AllG G (rec r)) : AllG G (leaveP L rec) := fun i j x e => by
  obtain ⟨k, u, e1, e⟩ := bnd_inv e
  split at e
  · obtain ⟨m, u2, e2, e⟩ := bnd_inv e
    obtain ⟨rfl, rfl⟩ := some_inv e
    exact mk0 mk _ _ _ _ _
  · obtain ⟨m, y, e2, e⟩ := bnd_inv e
    obtain ⟨q, u3, e3, e⟩ := bnd_inv e
    obtain ⟨rfl, rfl⟩ := some_inv e
    exact mk1 mk _ _ _ _ _ (h _ _ _ _ e2)
theorem all_stmt (mk : MkC G) (h : ∀ r, AllG G (rec r)) : AllG G (stmtP L rec) := fun i j x e => by
  unfold stmtP at e
  split at e
  · exact h _ _ _ _ e
  split at e
  · exact h _ _ _ _ e
  split at e
  · exact h _ _ _ _ e
  split at e
  · exact h _ _ _ _ e
  split at e
  · obtain ⟨m, u2, e2, e⟩ := bnd_inv e
    obtain ⟨rfl, rfl⟩ := some_inv e
    exact mk0 mk _ _ _ _ _
  split at e
  · obtain ⟨m, u2, e2, e⟩ := bnd_inv e
    obtain ⟨rfl, rfl⟩ := some_inv e
    exact mk0 mk _ _ _ _ _
  split at e
  · exact all_decl mk h _ _ _ _ e
  · obtain ⟨m, y, e2, e⟩ := bnd_inv e
    obtain ⟨q, u3, e3, e⟩ := bnd_inv e
    obtain ⟨rfl, rfl⟩ := some_inv e
    exact mk1 mk _ _ _ _ _ (h _ _ _ _ e2)
theorem all_expr (mk : MkC G) (h : ∀ r, AllG G (rec r)) : AllG G (exprP L rec) := fun i j x e => by
  obtain ⟨k, y, e1, e⟩ := bnd_inv e
  have h1 := h _ _ _ _ e1
  split at e
  · exact all_oper mk (h 0) h1 e
  · obtain ⟨rfl, rfl⟩ := some_inv e
    exact h1
theorem all_cond (mk : MkC G) (h : ∀ r, AllG G (rec r)) : AllG G (condP L rec) := fun i j x e => by
  obtain ⟨k, y, e1, e⟩ := bnd_inv e
  have h1 := h _ _ _ _ e1
  split at e
  · obtain ⟨k2, y2, e2, e⟩ := bnd_inv e
    obtain ⟨k3, y3, e3, e⟩ := bnd_inv e
    obtain ⟨k4, y4, e4, e⟩ := bnd_inv e
    obtain ⟨rfl, rfl⟩ := some_inv e
    exact mk3 mk _ _ _ _ _ h1 (h _ _ _ _ e2) (h _ _ _ _ e4)
  · obtain ⟨rfl, rfl⟩ := some_inv e
    exact h1
theorem all_rowL (mk : MkC G) (h : AllG G rule) (ops : List Byts8) : ∀ (n : Nat) (y : List Nd) (i j : Nat) (x : List Nd), G y → rowL L rule ops n y i = (j, some x) → G x
  | 0, y, i, j, x, hy, e => by cases e
  | n + 1, y, i, j, x, hy, e => by
    rw [rowL] at e
    split at e
    · obtain ⟨k, z, e1, e2⟩ := bnd_inv e
      exact all_rowL mk h ops n _ _ _ _ (all_oper mk h hy e1) e2
    · obtain ⟨rfl, rfl⟩ := some_inv e
      exact hy
theorem all_row (mk : MkC G) (h : ∀ r, AllG G (rec r)) (k : Nat) : AllG G (rowP L rec k) := fun i j x e => by
  obtain ⟨m, y, e1, e⟩ := bnd_inv e
  exact all_rowL mk (h _) _ _ _ _ _ _ (h _ _ _ _ e1) e
theorem all_unary (mk : MkC G) (h : ∀ r, AllG G (rec r)) : AllG G (unaryP L rec) := fun i j x e => by
  unfold unaryP at e
  split at e
  · obtain ⟨m, y, e1, e⟩ := bnd_inv e
    obtain ⟨rfl, rfl⟩ := some_inv e
    exact mk1 mk _ _ _ _ _ (h _ _ _ _ e1)
  · exact h _ _ _ _ e
theorem all_postL (mk : MkC G) : ∀ (n : Nat) (y : List Nd) (i j : Nat) (x : List Nd), G y → postL L n y i = (j, some x) → G x
  | 0, y, i, j, x, hy, e => by cases e
  | n + 1, y, i, j, x, hy, e => by
    rw [postL] at e
    split at e
    · obtain ⟨k, z, e1, e2⟩ := bnd_inv e
      exact all_postL mk n _ _ _ _ (mk1 mk _ _ _ _ _ hy) e2
    · obtain ⟨rfl, rfl⟩ := some_inv e
      exact hy
theorem all_post (mk : MkC G) (h : ∀ r, AllG G (rec r)) : AllG G (postP L rec) := fun i j x e => by
  obtain ⟨m, y, e1, e⟩ := bnd_inv e
  exact all_postL mk _ _ _ _ _ (h _ _ _ _ e1) e
theorem all_call (mk : MkC G) (h : ∀ r, AllG G (rec r)) : AllG G (callP L rec) := fun i j x e => by
  obtain ⟨m, t, e1, e⟩ := bnd_inv e
  obtain ⟨q, l, e2, e⟩ := bnd_inv e
  obtain ⟨rfl, rfl⟩ := some_inv e
  exact mk _ _ _ _ _ _ (all_enc (h 0) e2)
theorem all_first (mk : MkC G) (h : ∀ r, AllG G (rec r)) : AllG G (firstP L rec) := fun i j x e => by
  unfold firstP at e
  split at e
  · obtain ⟨m, y, e1, e⟩ := bnd_inv e
    obtain ⟨q, u, e2, e⟩ := bnd_inv e
    obtain ⟨rfl, rfl⟩ := some_inv e
    exact h _ _ _ _ e1
  split at e
  · obtain ⟨rfl, rfl⟩ := some_inv e
    exact mk0 mk _ _ _ _ _
  split at e
  · obtain ⟨rfl, rfl⟩ := some_inv e
    exact mk0 mk _ _ _ _ _
  split at e
  · obtain ⟨rfl, rfl⟩ := some_inv e
    exact mk0 mk _ _ _ _ _
  split at e
  · exact h _ _ _ _ e
  · obtain ⟨m, t, e1, e⟩ := bnd_inv e
    obtain ⟨rfl, rfl⟩ := some_inv e
    exact mk0 mk _ _ _ _ _
theorem all_rule (mk : MkC G) (h : ∀ r, AllG G (rec r)) (r : Nat) : AllG G (ruleP L rec r) := fun i j x e => by
  unfold ruleP at e
  split at e
  · exact all_expr mk h _ _ _ e
  · exact all_cond mk h _ _ _ e
  · exact all_row mk h _ _ _ _ e
  · exact all_row mk h _ _ _ _ e
  · exact all_row mk h _ _ _ _ e
  · exact all_row mk h _ _ _ _ e
  · exact all_row mk h _ _ _ _ e
  · exact all_row mk h _ _ _ _ e
  · exact all_unary mk h _ _ _ e
  · exact all_post mk h _ _ _ e
  · exact all_first mk h _ _ _ e
  · exact all_call mk h _ _ _ e
  · exact all_stmt mk h _ _ _ e
  · exact all_block mk h _ _ _ e
  · exact all_branch mk h _ _ _ e
  · exact all_loop mk h _ _ _ e
  · exact all_leave mk h _ _ _ e
theorem all_go (mk : MkC G) (L : List Tok) : ∀ (f r : Nat), AllG G (goP L f r)
  | 0, r => fun i j x e => by cases e
  | f + 1, r => fun i j x e => all_rule mk (fun r => all_go mk L f r) r i j x e
theorem all_shadL (mk : MkC G) (h : ∀ r, AllG G (rec r)) : ∀ (n : Nat) (acc : List (List Nd)) (i j : Nat) (l : List (List Nd)), (∀ k ∈ acc, G k) → shadL L rec n acc i = (j, some l) → ∀ k ∈ l, G k
  | 0, acc, i, j, l, ha, e => by cases e
  | n + 1, acc, i, j, l, ha, e => by
    rw [shadL] at e
    split at e
    · obtain ⟨k, x, e1, e2⟩ := bnd_inv e
      have h1 : G x := by
        split at e1
        · exact all_func mk h _ _ _ e1
        · exact all_decl mk h _ _ _ _ e1
      refine all_shadL mk h n _ _ _ _ ?_ e2
      intro q hq
      rcases List.mem_append.1 hq with hq | hq
      · exact ha q hq
      · rw [List.mem_singleton] at hq
        exact hq ▸ h1
    · obtain ⟨rfl, rfl⟩ := some_inv e
      exact ha
theorem all_shad (mk : MkC G) {j : Nat} {x : List Nd} (e : shadP L = (j, some x)) : G x := by
  obtain ⟨m, l, e1, e2⟩ := bnd_inv e
  obtain ⟨rfl, rfl⟩ := some_inv e2
  exact mk _ _ _ _ _ _ (all_shadL mk (fun r => all_go mk L _ r) _ _ _ _ _ (fun k hk => by cases hk) e1)
end

/-- Kids stand right behind their node, one behind the other. -/
def RiseK (ks : List Nat) : Prop := (∀ h : 0 < ks.length, ks[0] = 1) ∧ ∀ i (h : i + 1 < ks.length), ks[i] < ks[i + 1]
def kidN (x : List Nd) : Nat := (x.map (fun n => n.kids.length)).sum
def WellT (x : List Nd) : Prop := (∀ n ∈ x, RiseK n.kids) ∧ kidN x + 1 = x.length
theorem kidN_app (a b : List Nd) : kidN (a ++ b) = kidN a + kidN b := by simp [kidN]
theorem kidN_up (x : List Nd) : kidN (x.map upN) = kidN x := by
  unfold kidN
  rw [List.map_map]
  rfl
theorem kidN_flat : ∀ ks : List (List Nd), (∀ k ∈ ks, WellT k) → kidN ks.flatten + ks.length = ks.flatten.length
  | [], _ => rfl
  | a :: r, h => by
    have h1 := (h a (by simp)).2
    have h2 := kidN_flat r (fun k hk => h k (by simp [hk]))
    rw [List.flatten_cons, kidN_app, List.length_append, List.length_cons]
    omega
theorem offs_rise : ∀ (ks : List (List Nd)) (s : Nat), (∀ k ∈ ks, WellT k) → (∀ h : 0 < (offs s ks).length, (offs s ks)[0] = s) ∧ ∀ i (h : i + 1 < (offs s ks).length), (offs s ks)[i] < (offs s ks)[i + 1]
  | [], s, _ => ⟨fun h => by simp [offs] at h, fun i h => by simp [offs] at h⟩
  | a :: r, s, h => by
    have h1 := (h a (by simp)).2
    have ih := offs_rise r (s + a.length) (fun k hk => h k (by simp [hk]))
    refine ⟨fun _ => rfl, fun i hi => ?_⟩
    have e : offs s (a :: r) = s :: offs (s + a.length) r := rfl
    simp only [e] at hi ⊢
    cases i with
    | zero =>
      simp only [List.getElem_cons_zero, List.getElem_cons_succ]
      rw [ih.1 (by simpa using hi)]
      omega
    | succ i =>
      simp only [List.getElem_cons_succ]
      exact ih.2 i (by simpa using hi)
theorem well_mk (kind : Int) (ty text : Byts8) (num place : Int) (ks : List (List Nd)) (h : ∀ k ∈ ks, WellT k) : WellT (mkN kind ty text num place ks) := by
  unfold mkN
  refine ⟨fun n hn => ?_, ?_⟩
  · rcases List.mem_cons.1 hn with rfl | hn
    · exact offs_rise ks 1 h
    · obtain ⟨m, hm, rfl⟩ := List.mem_map.1 hn
      obtain ⟨k, hk, hm⟩ := List.mem_flatten.1 hm
      exact (h k hk).1 m hm
  · have h1 := kidN_flat ks h
    have h2 : kidN (⟨kind, ty, text, num, place, offs 1 ks, 0⟩ :: ks.flatten.map upN) = ks.length + kidN ks.flatten := by
      rw [← kidN_up ks.flatten]
      show (offs 1 ks).length + _ = _
      rw [offs_len]
      rfl
    rw [h2, List.length_cons, List.length_map]
    omega
theorem well_shad {L : List Tok} {j : Nat} {x : List Nd} (e : shadP L = (j, some x)) : WellT x := all_shad well_mk e
/-- The same by numbers. -/
theorem absN_get : ∀ (s : Nat) (x : List Nd) (i : Nat) (h : i < x.length), (absN s x)[i]'(by rw [absN_len]; exact h) = ⟨x[i].kind, x[i].ty, x[i].text, x[i].num, x[i].place, x[i].kids.map (s + i + ·), 0⟩
  | s, n :: r, 0, _ => rfl
  | s, n :: r, i + 1, h => by
    have ih := absN_get (s + 1) r i (by simpa using h)
    simp only [absN, List.getElem_cons_succ]
    rw [ih, show s + 1 + i = s + (i + 1) by omega]
theorem kidN_abs : ∀ (s : Nat) (x : List Nd), kidN (absN s x) = kidN x
  | _, [] => rfl
  | s, n :: r => by
    have ih := kidN_abs (s + 1) r
    unfold kidN at ih ⊢
    rw [absN, List.map_cons, List.map_cons, List.sum_cons, List.sum_cons, ih]
    simp
/-- What ParseOrder asks of the nodes. -/
theorem order_ok {L : List Tok} {x : List Nd} {a b : Int} (h : parseP L = (x, a, b)) (hne : x ≠ []) :
    (∀ i (hi : i < x.length), (∀ h : 0 < x[i].kids.length, x[i].kids[0] = i + 1) ∧ (∀ k (hk : k + 1 < x[i].kids.length), x[i].kids[k] < x[i].kids[k + 1]) ∧ ∀ k (hk : k < x[i].kids.length), i < x[i].kids[k]) ∧ kidN x + 1 = x.length := by
  unfold parseP at h
  split at h
  · exact absurd (Prod.mk.inj h).1.symm hne
  obtain ⟨hx, h2⟩ := Prod.mk.inj h
  subst hx
  have hw : ∃ y, treeP L = (y, 0, 0) ∧ WellT y := by
    unfold treeP at hne ⊢
    cases hs : shadP L with
    | mk j o =>
      rw [hs] at hne
      cases o with
      | none => exact absurd rfl hne
      | some y =>
        dsimp only at hne ⊢
        cases ht : tooDeep y with
        | some n => rw [ht] at hne; exact absurd rfl hne
        | none => exact ⟨y, rfl, well_shad hs⟩
  obtain ⟨y, hy, hw⟩ := hw
  rw [hy]
  dsimp only
  refine ⟨fun i hi => ?_, by rw [kidN_abs, absN_len]; exact hw.2⟩
  have hi2 : i < y.length := by rw [absN_len] at hi; exact hi
  have hr := hw.1 _ (List.getElem_mem hi2)
  have rise : ∀ k (hk : k < y[i].kids.length), 0 < y[i].kids[k] := by
    intro k
    induction k with
    | zero => intro hk; rw [hr.1 hk]; omega
    | succ k ih => intro hk; have h1 := ih (by omega); have h2 := hr.2 k hk; omega
  have key : ∀ ks : List Nat, ks = y[i].kids.map (0 + i + ·) → (∀ h : 0 < ks.length, ks[0] = i + 1) ∧ (∀ k (hk : k + 1 < ks.length), ks[k] < ks[k + 1]) ∧ ∀ k (hk : k < ks.length), i < ks[k] := by
    rintro ks rfl
    refine ⟨fun h0 => ?_, fun k hk => ?_, fun k hk => ?_⟩
    · simp only [List.getElem_map]
      rw [hr.1 (by simpa using h0)]
      omega
    · simp only [List.getElem_map]
      have := hr.2 k (by simpa using hk)
      omega
    · simp only [List.getElem_map]
      have := rise k (by simpa using hk)
      omega
  exact key _ (congrArg Nd.kids (absN_get 0 y i hi2))
end Go.Proofs.YtnmieoojjnipkaaGreat

/-
  The step from a walk to a given statement, for every law of this seat: what comes in is opened, and behind the call it reads as it did, since nothing that was there has turned.
-/
namespace Go.Proofs.YtnmieoojjnipkaaGreat
open Go.ChangeShapes Go.WideShapes Go.ChangeAt Go.RowKit

theorem own : ownKnob Tryz.prog.godebug = none := by kernel_rfl
theorem laidOut : laidOutB Tryz.prog = true := by kernel_rfl

section
variable {H : Type} {enc : TypeId × Value → H}

theorem trod_lt_all {P : Program} {W : World} {t : TypeId} {v : Value} {d : DataW H} {p : List MemPlace} (h : DataW.Trod enc P W 0 (fun _ => true) true t v d p) : ∀ x ∈ p, x.block < W.heap.size := by
  obtain ⟨m, hm⟩ := h
  exact DataW.trod_lt m _ _ _ hm

/-- Behind a call that turns nothing that was there all arguments read as they did. -/
theorem same_all {P : Program} (hl : laidOutB P = true) {W W' : World} (hb : Below W.heap.size W W') : ∀ (ts : List TypeId) (vs : List Value) (ds : List (DataW H)) (ps : List MemPlace),
    (ts.all fun t => P.readableRec t && decide (t < P.types.size)) = true → DataW.TrodAll enc P W 0 (fun _ => true) true ts vs ds ps → DataW.TrodAll enc P W' 0 (fun b => decide (b < W.heap.size)) true ts vs ds ps := by
  intro ts
  induction ts with
  | nil =>
    intro vs ds ps _ h
    obtain ⟨rfl, rfl, rfl⟩ := trodAll_nil h
    exact trodAll_mk0
  | cons t ts ih =>
    intro vs ds ps ht h
    obtain ⟨v, vs', d, ds', p, q, rfl, rfl, rfl, h1, h2⟩ := trodAll_cons h
    simp only [List.all_cons, Bool.and_eq_true, decide_eq_true_eq] at ht
    exact trodAll_cons_mk (Below.trod hl ht.1.1 ht.1.2 h1 hb (trod_lt_all h1)) (ih vs' ds' q ht.2 h2)

/-- 'true, and the input reads as it did', out of a walk that turns nothing that was there. -/
theorem post_true {P : Program} (hl : laidOutB P = true) {s : ChangeSpec} {fn : Func} {T : TypeId} {W W' : World} {args : Array Value} {ds gs : List (DataW H)} {before : List MemPlace} (hres : fn.resultTypes = #[T]) (hT : P.underlying T = some .bool) (hvars : s.vars = [])
    (hread : (fn.params.toList.all fun t => P.readableRec t && decide (t < P.types.size)) = true)
    (hW : DataW.Whole enc P fn.params.toList s.vars false W args.toList ds gs before) (hfn : (s.fn H ds).results = [.lit (.bool true)] ∧ (s.fn H ds).args = ds ∧ (s.fn H ds).vars = [])
    (hb : Below W.heap.size W W') : s.post enc P fn false true false false W args (.bool true) W' := by
  have hW0 := hW
  obtain ⟨p, q, hA, hV, rfl, _, _⟩ := hW
  rw [hvars] at hV
  obtain ⟨rfl, rfl⟩ := trodVars_none hV
  obtain ⟨h1, h2, h3⟩ := hfn
  refine ⟨ds, [], _, [], p, [], hW0, ?_, ?_, ?_, hb.frame _, fun h => by cases h⟩
  · rw [List.append_nil, h1, hres]
    exact trodAll_mk1 (shut_bool hT _)
  · rw [List.append_nil, h2]
    exact same_all hl hb _ _ _ _ hread hA
  · rw [List.append_nil, h3, hvars]
    exact rfl

/-- A slice of integers that came in: its numbers, that each fits its kind, how many bytes they take. -/
theorem open_row {P : Program} {W : World} {base : Nat} {t e : TypeId} {k : IntKind} {v : Value} {d : DataW H} {p : List MemPlace} {ts : List TypeId} {ds : List (DataW H)} {j : Nat} (ht : P.underlying t = some (.slice e)) (he : P.underlying e = some (.int k)) (hc : P.cellsOf e = 1)
    (hv : Value.okWide P W .any base t v) (h : DataW.Trod enc P W 0 (fun _ => true) true t v d p) (hsz : (DataW.weightsEach P ts ds).all (· ≤ reachBytes) = true) (hj : ts[j]? = some t) (hd : ds[j]? = some d) :
    ∃ xs : List Int, Row k W v xs ∧ (∀ x ∈ xs, (Lit.int k x).wf = true) ∧ xs.length * P.bytesOf e ≤ 140737488351232 := by
  obtain ⟨a, len, cap, rfl⟩ := okWide_slice ht hv
  obtain ⟨fuel, hf⟩ := h
  rcases open_ints ht he hc hf with ⟨hcs, _⟩ | ⟨x, l, c, zs, hcs, _, hl, hm, hz, hx, hcell, hwz⟩
  · simp [Value.cells] at hcs
    obtain ⟨rfl, rfl, rfl⟩ := hcs
    exact ⟨[], Row.nil _ _, by simp, by simp⟩
  · simp [Value.cells] at hcs
    obtain ⟨rfl, rfl, rfl⟩ := hcs
    simp only [if_true] at hz
    have hlen : (zs.take len).length = len := by simp; omega
    refine ⟨zs.take len, ?_, fun n hn => hwz n (List.mem_of_mem_take hn), ?_⟩
    · by_cases h0 : len = 0
      · subst h0
        exact .inl ⟨by simp, some x, cap, rfl, (fun h => by cases h), hm⟩
      · obtain ⟨b, off, spot⟩ := x
        have hc0 := hcell 0 (by omega)
        have hspot : spot = none := by simpa [Addr.add] using World.cell?_spot hc0
        subst hspot
        refine .inr ⟨?_, b, off, cap, by rw [hlen], by rw [hlen]; exact hl, hm, fun i hi => ?_⟩
        · intro h
          rw [h] at hlen
          exact h0 (by simpa using hlen.symm)
        · rw [hlen] at hi
          have hci := hcell i (by omega)
          rw [Addr.add_lit] at hci
          rw [hci]
          have e2 : (zs.take len).getD i 0 = zs.getD i 0 := by simp [List.getD, hi]
          rw [e2]
    · have hw := sized_slice hsz hj (by rw [hd, (Prod.mk.inj hx).1]) ht
      simp only [lits, List.length_map, reachBytes] at hw
      rw [hlen] at hw ⊢
      rw [Nat.add_mul] at hw
      omega

/-- What a law's proof owes: whatever it is handed, the call returns true and turns nothing that was there. -/
def Owes (H : Type) (enc : TypeId × Value → H) (P : Program) (f : FuncId) (fn : Func) (s : ChangeSpec) (W : World) (base : Nat) (args : Array Value) (ds : List (DataW H)) (p : List MemPlace) : Prop :=
  (∀ (j : Nat) t v, fn.params[j]? = some t → args[j]? = some v → Value.okWide P W .any base t v) →
  DataW.TrodAll enc P W 0 (fun _ => true) true fn.params.toList args.toList ds p →
  (DataW.weightsEach P fn.params.toList ds).all (· ≤ reachBytes) = true →
  ((s.fn H ds).results = [.lit (.bool true)] ∧ (s.fn H ds).args = ds ∧ (s.fn H ds).vars = []) ∧
  Calls P f args W fun e W' => e = .returned (.bool true) ∧ Ext W W'

theorem lift_law {C : Checked} {os : Os} {f : FuncId} {fn : Func} {s : ChangeSpec} {T : TypeId} (hown : ownKnob C.prog.godebug = none) (hlaid : laidOutB C.prog = true) (started : os.Started) (noInit : C.prog.inits.idxOf? f = none) (hfn : C.prog.funcs[f]? = some fn)
    (hres : fn.resultTypes = #[T]) (hT : C.prog.underlying T = some .bool) (hvars : s.vars = [])
    (hread : (fn.params.toList.all fun t => C.prog.readableRec t && decide (t < C.prog.types.size)) = true)
    (witness : ∃ (w : World) (tape : Tape) (i : Input), w.os = os ∧ (w.forCall tape i).Shaped C.prog ∧ i.vars = [] ∧ Input.okWide C.prog (w.forCall tape i) .any w.heap.size f i ∧
      s.pre6 enc C.prog fn [] false (w.forCall tape i).memory i.args ∧ ({} : Assume).holds C.prog (lone (Frame.enter C.prog f i.args .normal) [] (w.forCall tape i)))
    (owes : ∀ W base args ds p, Owes H enc C.prog f fn s W base args ds p) :
    ReturnsInHanded {} C os f .any (s.pre6 enc C.prog fn [] false) (s.post enc C.prog fn false true false false) := by
  refine returnsInHanded_of_change_sized (C := C) hown started noInit hfn witness ?_
  intro W base args ds gs before hval hW _ hsz _
  have hW0 := hW
  obtain ⟨p, q, hA, hV, rfl, _, _⟩ := hW
  rw [hvars] at hV
  obtain ⟨rfl, rfl⟩ := trodVars_none hV
  have e : s.plain.varTypes C.prog = [] := by simp [ChangeSpec.plain, DataSpec.varTypes, hvars]
  rw [e, List.append_nil, List.append_nil] at hsz
  obtain ⟨hf, hc⟩ := owes W base args ds p hval hA hsz
  refine hc.mono fun e W' ⟨he, hb⟩ => ⟨_, he, ?_⟩
  exact post_true hlaid (T := T) hres hT hvars hread hW0 hf hb
end
end Go.Proofs.YtnmieoojjnipkaaGreat

/-
  The step from a walk to a given statement, where the world's shape is wanted: a variable of the library's own holds a number.
-/
namespace Go.Proofs.YtnmieoojjnipkaaGreat
open Go.ChangeShapes Go.WideShapes Go.ChangeAt Go.RowKit
section
variable {H : Type} {enc : TypeId × Value → H}
/-- What a law's proof owes: whatever it is handed, the call returns true and turns nothing that was there; the world is shaped. -/
def OwesH (H : Type) (enc : TypeId × Value → H) (P : Program) (f : FuncId) (fn : Func) (s : ChangeSpec) (W : World) (base : Nat) (args : Array Value) (ds : List (DataW H)) (p : List MemPlace) : Prop :=
  (∀ (j : Nat) t v, fn.params[j]? = some t → args[j]? = some v → Value.okWide P W .any base t v) →
  DataW.TrodAll enc P W 0 (fun _ => true) true fn.params.toList args.toList ds p →
  (DataW.weightsEach P fn.params.toList ds).all (· ≤ reachBytes) = true →
  W.ShapedOpen P →
  ((s.fn H ds).results = [.lit (.bool true)] ∧ (s.fn H ds).args = ds ∧ (s.fn H ds).vars = []) ∧
  Calls P f args W fun e W' => e = .returned (.bool true) ∧ Ext W W'

theorem lift_law_shaped {C : Checked} {os : Os} {f : FuncId} {fn : Func} {s : ChangeSpec} {T : TypeId} (hown : ownKnob C.prog.godebug = none) (hlaid : laidOutB C.prog = true) (started : os.Started) (noInit : C.prog.inits.idxOf? f = none) (hfn : C.prog.funcs[f]? = some fn)
    (hres : fn.resultTypes = #[T]) (hT : C.prog.underlying T = some .bool) (hvars : s.vars = [])
    (hread : (fn.params.toList.all fun t => C.prog.readableRec t && decide (t < C.prog.types.size)) = true)
    (witness : ∃ (w : World) (tape : Tape) (i : Input), w.os = os ∧ (w.forCall tape i).Shaped C.prog ∧ i.vars = [] ∧ Input.okWide C.prog (w.forCall tape i) .any w.heap.size f i ∧
      s.pre6 enc C.prog fn [] false (w.forCall tape i).memory i.args ∧ ({} : Assume).holds C.prog (lone (Frame.enter C.prog f i.args .normal) [] (w.forCall tape i)))
    (owes : ∀ W base args ds p, OwesH H enc C.prog f fn s W base args ds p) :
    ReturnsInHanded {} C os f .any (s.pre6 enc C.prog fn [] false) (s.post enc C.prog fn false true false false) := by
  refine returnsInHanded_of_change_shaped (C := C) hown started noInit hfn witness ?_
  intro W base args ds gs before hval hW _ hsz hsh _
  have hW0 := hW
  obtain ⟨p, q, hA, hV, rfl, _, _⟩ := hW
  rw [hvars] at hV
  obtain ⟨rfl, rfl⟩ := trodVars_none hV
  have e : s.plain.varTypes C.prog = [] := by simp [ChangeSpec.plain, DataSpec.varTypes, hvars]
  rw [e, List.append_nil, List.append_nil] at hsz
  obtain ⟨hf, hc⟩ := owes W base args ds p hval hA hsz hsh
  refine hc.mono fun e W' ⟨he, hb⟩ => ⟨_, he, ?_⟩
  exact post_true hlaid (T := T) hres hT hvars hread hW0 hf hb
end
end Go.Proofs.YtnmieoojjnipkaaGreat

/-
  ParseOrder: each node of a tree that is read stands right behind what stands ahead of it, and is the kid of just one; for every text.
-/
namespace Go.Proofs.YtnmieoojjnipkaaGreat
open Go.ChangeShapes Go.WideShapes Go.ChangeAt Go.RowKit
open Go.ChangeMaps (open_string)
set_option linter.unusedSimpArgs false
set_option linter.unusedVariables false

theorem ext_cellP {w w1 : World} {b i : Nat} {x : Value} (h : Ext w w1) (hb : w.heap.size ≤ b) : Ext w (w1.setCell ⟨b, i, none⟩ x) := below_grown h (grownBy_set w1 b i x) h.size hb
theorem NR.cellsOf {w : World} {base : Nat} {v : Value} {ns : List Nt} (h : NR w base v ns) (i : Nat) (hi : i < ns.length) : ∃ g cap, v = .slice (some ⟨g, 0, none⟩) ns.length cap ∧
    w.cell? ⟨g, i * 6, none⟩ = some (.int .i64 ns[i].2.kind) ∧ w.cell? ⟨g, i * 6 + 1, none⟩ = some (.string ⟨ns[i].2.ty.toArray⟩) ∧ w.cell? ⟨g, i * 6 + 2, none⟩ = some (.string ⟨ns[i].2.text.toArray⟩) ∧ w.cell? ⟨g, i * 6 + 3, none⟩ = some (.int .i32 ns[i].2.num) ∧ w.cell? ⟨g, i * 6 + 4, none⟩ = some ns[i].1 ∧ w.cell? ⟨g, i * 6 + 5, none⟩ = some (.int .i64 ns[i].2.place) := by
  have h0 := h.own
  rcases h0.2 with ⟨e, h0⟩ | ⟨g, cap, cur, e, hb, hg, hnc, hcm, hcs, htake⟩
  · omega
  · refine ⟨g, cap, e, ?_⟩
    have hc := World.ownsRow.cells h0 (g := g) (by rw [e]; rfl)
    have hj : ∀ j u, j < 6 → (ncell ns[i])[j]? = some u → w.cell? ⟨g, i * 6 + j, none⟩ = some u := fun j u h5 hu => by
      have := hc (i * 6 + j) u (by rw [ncells_get ns i hi j h5]; exact hu)
      rw [Addr.add_lit, Nat.zero_add] at this
      exact this
    exact ⟨hj 0 _ (by omega) rfl, hj 1 _ (by omega) rfl, hj 2 _ (by omega) rfl, hj 3 _ (by omega) rfl, hj 4 _ (by omega) rfl, hj 5 _ (by omega) rfl⟩
theorem NR.kidsOf {w : World} {base : Nat} {v : Value} {ns : List Nt} (h : NR w base v ns) (i : Nat) (hi : i < ns.length) : ∃ ko kc, ns[i].1 = .slice ko ns[i].2.kids.length kc ∧ ∀ k (hk : k < ns[i].2.kids.length), ∃ g, ko = some ⟨g, 0, none⟩ ∧ w.cell? ⟨g, k, none⟩ = some (.int .i64 ((ns[i].2.kids[k] : Nat) : Int)) := by
  have h0 := h.kid _ (List.getElem_mem hi)
  rcases h0.2 with ⟨e, h1⟩ | ⟨g, cap, cur, e, hb, hg, hnc, hcm, hcs, htake⟩
  · exact ⟨none, 0, by rw [h1]; exact e, fun k hk => by omega⟩
  · refine ⟨_, cap, e, fun k hk => ⟨g, rfl, ?_⟩⟩
    have hc := World.ownsRow.cells h0 (g := g) (by rw [e]; rfl)
    have := hc k (.int .i64 ((ns[i].2.kids[k] : Nat) : Int)) (by unfold kvals; rw [List.getElem?_map, List.getElem?_eq_getElem hk]; rfl)
    rw [Addr.add_lit, Nat.zero_add] at this
    exact this
theorem kidN_take (x : List Nd) (i : Nat) (hi : i < x.length) : kidN (x.take (i + 1)) = kidN (x.take i) + x[i].kids.length := by
  rw [List.take_succ_eq_append_getElem hi, kidN_app]
  simp [kidN]
def OrdK (k : Nat) (K : List Nat) : Prop := (∀ h : 0 < K.length, K[0] = k + 1) ∧ (∀ j (hj : j + 1 < K.length), K[j] < K[j + 1]) ∧ ∀ j (hj : j < K.length), k < K[j]
theorem parse_none {L : List Tok} {x : List Nd} {a b : Int} (h : parseP L = (x, a, b)) (ha : a ≠ 0) : x = [] := by
  unfold parseP at h
  split at h
  · exact (Prod.mk.inj h).1.symm
  · have hx := (Prod.mk.inj h).1
    have h2 := (Prod.mk.inj h).2
    rw [← hx]
    unfold treeP at h2 ⊢
    split at h2
    · rfl
    · split at h2
      · rfl
      · exact absurd (Prod.mk.inj h2).1.symm ha
theorem parse_zero {L : List Tok} {x : List Nd} {b : Int} (h : parseP L = (x, 0, b)) : x ≠ [] := by
  unfold parseP at h
  split at h
  · cases (Prod.mk.inj h).2
  · have hx := (Prod.mk.inj h).1
    have h2 := (Prod.mk.inj h).2
    rw [← hx]
    intro h0
    have hl := congrArg List.length h0
    rw [absN_len] at hl
    unfold treeP at h2 hl
    cases hs : shadP L with
    | mk j o =>
      rw [hs] at h2 hl
      cases o with
      | none => cases (Prod.mk.inj h2).1
      | some y =>
        dsimp only at h2 hl
        cases ht : tooDeep y with
        | some n => rw [ht] at h2; cases (Prod.mk.inj h2).1
        | none =>
          rw [ht] at hl
          have := (well_shad hs).2
          simp at hl
          subst hl
          simp at this
set_option maxHeartbeats 4000000 in
set_option maxRecDepth 100000 in
theorem parseOrder_any (s0 : ByteArray) (W : World) (m : Int) (hm : W.cell? ⟨0, 0, none⟩ = some (.int .i64 m)) :
    Calls Tryz.prog 4 #[.string s0] W fun e w' => e = .returned (.bool true) ∧ Ext W w' := by
  have HM := hide hm
  clear hm
  have hmn : (min (s0.size : Int) 2000).toNat = min s0.size 2000 := by omega
  go_enter Tryz.func4, Tryz.ntmps4
  go_wp2_with fail
  refine (wakes12_any W m (unhide HM)).mono ?_
  rintro e w1 ⟨rfl, hx1⟩
  have HM1 := hide (keepM (unhide HM) hx1)
  have X1 := hide hx1
  clear HM hx1
  go_wp2_with fail
  refine (lex_any _ w1 m (unhide HM1)).mono ?_
  rintro e w3 ⟨ao, cap, rfl, hO, hx3⟩
  revert hO
  generalize (lexP _) = R
  intro hO
  obtain ⟨L, r1, r2⟩ := R
  simp only at hO ⊢
  clear hmn
  have hx4 := hx3.alloc (.cells #[.int .i64 r1, .int .i64 r2] 31)
  have HM4 := hide (keepM (unhide HM1) hx4)
  have X4 := hide ((unhide X1).trans hx4)
  have HT4 := hide ((TO.tr hO).ext ((Ext.refl w3).alloc (.cells #[.int .i64 r1, .int .i64 r2] 31)))
  have B4 := hide (Blk.new w3 #[.int .i64 r1, .int .i64 r2] 31)
  have hs3 : W.heap.size ≤ w3.heap.size := ((unhide X1).trans hx3).size
  have hz4 : w3.heap.size < (w3.alloc (.cells #[.int .i64 r1, .int .i64 r2] 31)).heap.size := by simp
  clear hO hx3 hx4 HM1 X1
  go_upto_region 4 with fail
  generalize w3.alloc (.cells #[.int .i64 r1, .int .i64 r2] 31) = w4 at *
  generalize w3.heap.size = b4 at *
  have c0 : w4.cell? ⟨b4, 0, none⟩ = some (.int .i64 r1) := (unhide B4).cell rfl
  by_cases he : r1 = 0
  · subst he
    go_wp2_with fail
    refine (Parse_any L ao cap w4 m (unhide HM4) (unhide HT4)).mono ?_
    rintro e w5 ⟨hx5, ao5, n5, cap5, ns, base, rfl, hb5, hN5, hns⟩
    obtain ⟨R, hR⟩ : ∃ R, parseP L = R := ⟨_, rfl⟩
    rw [hR] at hns ⊢
    obtain ⟨x, p1, p2⟩ := R
    simp only at hns ⊢
    have hlen : ns.length = x.length := by rw [← hns, List.length_map]
    have hn5 : n5 = x.length := by
      obtain ⟨ao', cap', e⟩ := hN5.shape
      rw [← hlen]
      exact (Value.slice.inj e).2.1
    subst hn5
    have HNS := hide hns
    have HLN := hide hlen
    have HR := hide hR
    obtain ⟨w6, h6⟩ : ∃ y, y = w5.alloc (.cells #[.slice ao5 x.length cap5] 24) := ⟨_, rfl⟩
    have x6 : Ext w5 w6 := by rw [h6]; exact (Ext.refl _).alloc _
    have hB6 : Blk w6 w5.heap.size #[.slice ao5 x.length cap5] 24 := by rw [h6]; exact Blk.new _ _ _
    have hb45 : b4 < w5.heap.size := Nat.lt_of_lt_of_le hz4 hx5.size
    have hN6 := hN5.ext x6
    have hS6 := ((unhide B4).ext hx5).ext x6
    have hX6 : Ext W w6 := ((unhide X4).trans hx5).trans x6
    have d0 : w6.cell? ⟨b4, 0, none⟩ = some (.int .i64 0) := hS6.cell rfl
    have d1 : w6.cell? ⟨b4, 1, none⟩ = some (.int .i64 r2) := hS6.cell rfl
    have f0 := hS6.free 0
    have f1 := hS6.free 1
    obtain ⟨w7, h7⟩ : ∃ y, y = (w6.setCell ⟨b4, 0, none⟩ (.int .i64 p1)).setCell ⟨b4, 1, none⟩ (.int .i64 p2) := ⟨_, rfl⟩
    have hX7 : Ext W w7 := by rw [h7]; exact ext_cellP (ext_cellP hX6 hs3) hs3
    have hS7 : Blk w7 b4 #[.int .i64 p1, .int .i64 p2] 31 := by rw [h7]; exact (hS6.set 0 _).set 1 _
    have hB7 : Blk w7 w5.heap.size #[.slice ao5 x.length cap5] 24 := by rw [h7]; exact (hB6.other 0 _ (by omega)).other 1 _ (by omega)
    have hN7 : NR w7 base (.slice ao5 x.length cap5) ns := by
      rw [h7]
      exact (hN6.out (T := fun k => k = b4) (Out.of_grown (grownBy_set _ b4 0 _) (fun k e => by cases e; rfl)) (fun k e => by omega)).out (T := fun k => k = b4) (Out.of_grown (grownBy_set _ b4 1 _) (fun k e => by cases e; rfl)) (fun k e => by omega)
    have X7 := hide hX7
    have S7 := hide hS7
    have B7 := hide hB7
    have N7 := hide hN7
    have H7 := hide h7
    have H6 := hide h6
    clear hns hlen hR h6 x6 hB6 hN6 hN5 hx5 hS6 hX6 h7 hX7 hS7 hB7 hN7 hb5 B4 X4 HT4 HM4 c0 hz4 hs3
    go_upto_region 7 with (rw [← unhide H6])
    rw [← unhide H7]
    have e0 : w7.cell? ⟨b4, 0, none⟩ = some (.int .i64 p1) := (unhide S7).cell rfl
    have t0 : w7.cell? ⟨w5.heap.size, 0, none⟩ = some (.slice ao5 x.length cap5) := (unhide B7).cell rfl
    clear d0 d1 f0 f1 H7 H6 hb45
    generalize w5.heap.size = b5 at *
    by_cases hp : p1 = 0
    · subst hp
      have hne := parse_zero (unhide HR)
      have hok := order_ok (unhide HR) hne
      have HOK : Hid (∀ i (hi : i < x.length), OrdK i x[i].kids) := hok.1
      have hsum := hok.2
      have hcapN : x.length ≤ 9223372036854775807 := by
        have h9 := (unhide N7).own
        rcases h9.2 with ⟨_, h0⟩ | ⟨g, cap, cur, e, hb, hg, hnc, hcm, hcs, htake⟩
        · have := unhide HLN; omega
        · have := unhide HLN; unfold maxLen at hcm; omega
      clear hok hne HR
      go_wp2
      go_loopw [6, 7, 41] (fun nx op i wr => ∃ k : Nat, k ≤ x.length ∧ nx = .int .i64 ((1 + kidN (x.take k) : Nat) : Int) ∧ op = .slice none 0 0 ∧ i = .int .i64 (k : Int) ∧ Hid (Ext w7 wr)) (fun _ _ i _ => x.length - (intOf i).toNat)
      case atStart => exact ⟨0, by omega, rfl, rfl, rfl, Ext.refl _⟩
      case round =>
        obtain ⟨k, hk, rfl, rfl, rfl, hxr⟩ := hrel
        clear e0 t0
        by_cases hlt : k < x.length
        · have hlt2 : (k : Int) < (x.length : Int) := by omega
          have hkn : k < ns.length := by rw [unhide HLN]; exact hlt
          obtain ⟨g, cap', e, c0, c1, c2, c3, c4, c5⟩ := ((unhide N7).ext (unhide hxr)).cellsOf k hkn
          obtain ⟨ko, kc, ek, hkc⟩ := ((unhide N7).ext (unhide hxr)).kidsOf k hkn
          have e1 := (Value.slice.inj e).1
          subst e1
          clear e
          rw [ek] at c4
          have hxk : x[k] = ns[k].2 := by
            have h9 := unhide HNS
            have h8 : (ns.map Prod.snd)[k]? = x[k]? := by rw [h9]
            rw [List.getElem?_map, List.getElem?_eq_getElem hkn, List.getElem?_eq_getElem hlt] at h8
            exact (Option.some.inj h8).symm
          have hko := unhide HOK k hlt
          have hst := kidN_take x k hlt
          have hmono : kidN (x.take (k + 1)) ≤ kidN x := by
            have h9 := kidN_app (x.take (k + 1)) (x.drop (k + 1))
            rw [List.take_append_drop] at h9
            omega
          rw [hxk] at hko hst
          clear ek hxk
          obtain ⟨nd, hnd⟩ : ∃ nd, nd = ns[k].2 := ⟨_, rfl⟩
          rw [← hnd] at c0 c1 c2 c3 c4 c5 hko hst
          have hkc' : ∀ j (hj : j < nd.kids.length), ∃ g, ko = some ⟨g, 0, none⟩ ∧ wr.cell? ⟨g, j, none⟩ = some (.int .i64 ((nd.kids[j] : Nat) : Int)) := by subst hnd; exact hkc
          clear hkc
          obtain ⟨K, hK⟩ : ∃ K, K = nd.kids := ⟨_, rfl⟩
          rw [← hK] at c4 hko hst
          have hkc : ∀ j (hj : j < K.length), ∃ g, ko = some ⟨g, 0, none⟩ ∧ wr.cell? ⟨g, j, none⟩ = some (.int .i64 ((K[j] : Nat) : Int)) := by subst hK; exact hkc'
          have HKO := hide hko
          have HKC := hide hkc
          obtain ⟨a, ha⟩ : ∃ a, a = 1 + kidN (x.take k) := ⟨_, rfl⟩
          have hab : a + K.length ≤ x.length ∧ 1 + kidN (x.take (k + 1)) = a + K.length := by omega
          rw [← ha]
          have HAB := hide hab.2
          have hab1 := hab.1
          clear hnd hK hko hkc hkc' ha hab hst hmono
          have HB8 := hide (Blk.new wr #[.int .i64 nd.kind, .string ⟨nd.ty.toArray⟩, .string ⟨nd.text.toArray⟩, .int .i32 nd.num, .slice ko K.length kc, .int .i64 nd.place] 39)
          have HX8 := hide ((unhide hxr).alloc (.cells #[.int .i64 nd.kind, .string ⟨nd.ty.toArray⟩, .string ⟨nd.text.toArray⟩, .int .i32 nd.num, .slice ko K.length kc, .int .i64 nd.place] 39))
          have HKC8 : Hid (∀ j (hj : j < K.length), ∃ g, ko = some ⟨g, 0, none⟩ ∧ (wr.alloc (.cells #[.int .i64 nd.kind, .string ⟨nd.ty.toArray⟩, .string ⟨nd.text.toArray⟩, .int .i32 nd.num, .slice ko K.length kc, .int .i64 nd.place] 39)).cell? ⟨g, j, none⟩ = some (.int .i64 ((K[j] : Nat) : Int))) := by
            intro j hj
            obtain ⟨g', e', h'⟩ := unhide HKC j hj
            refine ⟨g', e', ?_⟩
            rw [((Ext.refl wr).alloc _).cell (p := ⟨g', j, none⟩) (World.block_lt_of_cell? wr _ h')]
            exact h'
          go_upto_region 14 with fail
          generalize wr.alloc (.cells #[.int .i64 nd.kind, .string ⟨nd.ty.toArray⟩, .string ⟨nd.text.toArray⟩, .int .i32 nd.num, .slice ko K.length kc, .int .i64 nd.place] 39) = w8 at HB8 HX8 HKC8 ⊢
          generalize wr.heap.size = b9 at *
          clear c0 c1 c2 c3 c4 c5 HKC hxr
          have k4 : w8.cell? ⟨b9, 4, none⟩ = some (.slice ko K.length kc) := (unhide HB8).cell rfl
          go_loop [7] (fun op => op = .slice none 0 0) (fun _ => 0)
          case atStart => exact rfl
          case round =>
            obtain rfl := hrel
            go_wp2
            go_loop [67] (fun i => ∃ j : Nat, j ≤ K.length ∧ i = .int .i64 (j : Int)) (fun i => K.length - (intOf i).toNat)
            case atStart => exact ⟨0, by omega, rfl⟩
            case round =>
              obtain ⟨j, hj, rfl⟩ := hrel
              by_cases hjl : j < K.length
              · have hjl2 : (j : Int) < (K.length : Int) := by omega
                obtain ⟨kg, rfl, ck⟩ := unhide HKC8 j hjl
                have h2 := (unhide HKO).2.2 j hjl
                obtain ⟨y, hy⟩ : ∃ y, y = K[j] := ⟨_, rfl⟩
                rw [← hy] at ck h2
                have n1 : ¬ (y : Int) ≤ (k : Int) := by omega
                by_cases hj0 : j = 0
                · have hy1 : y = k + 1 := by
                    subst hj0
                    rw [hy]
                    exact (unhide HKO).1 hjl
                  have n2 : ¬ (0 : Int) < (j : Int) := by omega
                  have n3 : ((j : Int) == 0) = true := by simp [hj0]
                  have n4 : ((y : Int) != (k : Int) + 1) = false := by simp; omega
                  have n5 : IntKind.i64.wrap ((k : Int) + 1) = (k : Int) + 1 := by simp [IntKind.wrap, IntKind.bits, IntKind.signed]; omega
                  clear hy hj0 hy1
                  go_wp2
                  refine ⟨⟨j + 1, by omega, by go_num⟩, ?_⟩
                  simp [intOf]
                  omega
                · obtain ⟨i, hi⟩ : ∃ i, j = i + 1 := ⟨j - 1, by omega⟩
                  have h3 := (unhide HKO).2.1 i (by omega)
                  obtain ⟨kg2, e2, ck2⟩ := unhide HKC8 i (by omega)
                  have e3 : kg2 = kg := by cases e2; rfl
                  subst e3
                  obtain ⟨z, hz⟩ : ∃ z, z = K[i]'(by omega) := ⟨_, rfl⟩
                  rw [← hz] at ck2 h3
                  have hzy : z < y := by
                    have h4 : y = K[i + 1]'(by omega) := by subst hi; exact hy
                    rw [h4]
                    exact h3
                  have n2 : (0 : Int) < (j : Int) := by omega
                  have n3 : ((j : Int) == 0) = false := by rw [beq_eq_false_iff_ne]; omega
                  have n4 : ¬ (y : Int) ≤ (z : Int) := by omega
                  have n5 : (j : Int) - 1 = (i : Int) := by omega
                  have n6 : (i : Int) < (K.length : Int) := by omega
                  have HI := hide hi
                  clear hy hj0 hz h3 e2 hi
                  go_wp2
                  refine ⟨⟨j + 1, by omega, by go_num⟩, ?_⟩
                  simp [intOf]
                  omega
              · obtain rfl : j = K.length := by omega
                have n1 : IntKind.i64.wrap ((a : Int) + (K.length : Int)) = (a : Int) + (K.length : Int) := by simp [IntKind.wrap, IntKind.bits, IntKind.signed]; omega
                go_wp2
                go_roundw
                case rel => exact ⟨k + 1, by omega, by rw [unhide HAB]; go_num, rfl, by go_num, HX8⟩
                case measure => simp [intOf]; omega
        · obtain rfl : k = x.length := by omega
          have t0 : wr.cell? ⟨b5, 0, none⟩ = some (.slice ao5 x.length cap5) := ((unhide B7).ext (unhide hxr)).cell rfl
          have HX9 := hide ((unhide X7).trans (unhide hxr))
          have hfin : 1 + kidN (x.take x.length) = x.length := by rw [List.take_length]; omega
          rw [hfin]
          go_wp2
          go_ret
          exact ⟨by simp, unhide HX9⟩
    · have hx0 : x = [] := parse_none (unhide HR) hp
      subst hx0
      have hq : (p1 != 0) = true := by simpa using hp
      go_wp2
      go_ret
      exact ⟨rfl, unhide X7⟩
  · have hq : (r1 != 0) = true := by simpa using he
    go_wp2
    go_ret
    exact ⟨rfl, unhide X4⟩

set_option maxRecDepth 100000 in
theorem parseOrder_owes (H : Type) (enc : TypeId × Value → H) (W : World) (base : Nat) (args : Array Value) (ds : List (DataW H)) (p : List MemPlace) : OwesH H enc Tryz.prog 4 Tryz.f4 Rows.parseOrderSpec W base args ds p := by
  intro hval hA hsz hsh
  rw [Tryz.params4] at hA hval hsz
  obtain ⟨v0, vs0, d0, ds0, p0, q0, hargs, rfl, rfl, h0, r0⟩ := trodAll_cons hA
  obtain ⟨rfl, rfl, rfl⟩ := trodAll_nil r0
  obtain rfl : args = #[v0] := by cases args; simp_all
  obtain ⟨s, rfl, rfl, rfl, ws⟩ := open_string Tryz.underlying9 (hval 0 9 v0 rfl rfl) h0
  obtain ⟨m, hm⟩ := Tryz.laysM143.s1_3 W hsh
  exact ⟨⟨rfl, rfl, rfl⟩, parseOrder_any s W m hm⟩

set_option maxRecDepth 100000 in
theorem parseOrder_lifted (os : Os) (started : os.Started) (H : Type) (enc : TypeId × Value → H) :
    ReturnsInHanded {} Tryz.checked os 4 .any (Rows.parseOrderSpec.pre6 enc Tryz.prog Tryz.f4 [] false) (Rows.parseOrderSpec.post enc Tryz.prog Tryz.f4 false true false false) :=
  lift_law_shaped (C := Tryz.checked) own laidOut started (by kernel_rfl) Tryz.func4 (T := 4) rfl Tryz.underlying4 rfl (by kernel_rfl)
    (ChangeSpec.witness6 (enc := enc) (C := Tryz.checked) false ⟨#[], #[.string ⟨#[]⟩], []⟩ 8 (by kernel_rfl) (by kernel_rfl) (by kernel_rfl) (by kernel_rfl)) (parseOrder_owes H enc)

theorem parseOrder_holds : Rows.ParseOrderSaid :=
  OpenClaim.holds_of_wide 4 Tryz.f4 rfl rfl rfl rfl rfl rfl rfl ⟨rfl, rfl, rfl, rfl, rfl⟩ rfl rfl rfl rfl rfl (by kernel_rfl) Tryz.func4 (by kernel_rfl)
    (of_decide_eq_true (by kernel_rfl)) (by unfold Func.isWrapper; rw [if_neg (of_decide_eq_false (by kernel_rfl))]; exact ⟨rfl, rfl⟩)
    (fun os started H enc _ => parseOrder_lifted os started H enc)
#print axioms parseOrder_holds
end Go.Proofs.YtnmieoojjnipkaaGreat
