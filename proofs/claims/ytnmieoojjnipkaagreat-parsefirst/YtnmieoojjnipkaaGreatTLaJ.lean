/- Several texts in one. -/
import Derived.Test.YtnmieoojjnipkaaGreatTKb
import Derived.Test.YtnmieoojjnipkaaGreatTKcJ
import Derived.Test.YtnmieoojjnipkaaGreatXFJ
/-
  What a rule reads of a beginning of the tokens: the same, or it stands at the beginning's end, and that of all tokens there or further on.
-/
namespace Go.Proofs.YtnmieoojjnipkaaGreat
set_option linter.unusedVariables false
set_option linter.unusedSimpArgs false

def Loc {A : Type} (m : Nat) (r r' : Nat × Option A) : Prop := r' = r ∨ (r'.1 = m ∧ m ≤ r.1)
def Res {A : Type} (L : List Tok) (m i : Nat) (r r' : Nat × Option A) : Prop := (i ≤ L.length → Lea L i r) ∧ (i ≤ m → Lea (L.take m) i r' ∧ Loc m r r')
def Avr {A : Type} (L : List Tok) (m i : Nat) (r r' : Nat × Option A) : Prop := (i ≤ L.length → Adv L i r) ∧ (i ≤ m → Adv (L.take m) i r' ∧ Loc m r r')
def Avp {A : Type} (L : List Tok) (m i : Nat) (r r' : Nat × Option A) : Prop := (i < L.length → Adv L i r) ∧ (i < m → Adv (L.take m) i r' ∧ Loc m r r')
section
variable {A B : Type} {L : List Tok} {m i : Nat} {r r' : Nat × Option A} {x x' y y' : Nat × Option A}
theorem Avr.res (h : Avr L m i r r') : Res L m i r r' := ⟨fun hi => (h.1 hi).1, fun hi => ⟨(h.2 hi).1.1, (h.2 hi).2⟩⟩
theorem Avr.p (h : Avr L m i r r') : Avp L m i r r' := ⟨fun hi => h.1 (Nat.le_of_lt hi), fun hi => h.2 (Nat.le_of_lt hi)⟩
theorem avp_of (h : Res L m (i + 1) r r') : Avp L m i r r' := ⟨fun hi => (h.1 hi).adv (Nat.lt_succ_self _), fun hi => ⟨(h.2 hi).1.adv (Nat.lt_succ_self _), (h.2 hi).2⟩⟩
theorem len_take (hm : m ≤ L.length) : (L.take m).length = m := by rw [List.length_take]; omega
theorem tk_take {k : Nat} (h : k < m) : tk (L.take m) k = tk L k := by
  unfold tk
  rw [List.getD_eq_getElem?_getD, List.getD_eq_getElem?_getD, List.getElem?_take_of_lt h]
theorem tk_end {k : Nat} (h : m ≤ k) : tk (L.take m) k = noTok := by
  unfold tk
  rw [List.getD_eq_getElem?_getD, List.getElem?_eq_none (by rw [List.length_take]; omega)]
  rfl
theorem tk_out {k : Nat} (h : L.length ≤ k) : tk L k = noTok := by
  unfold tk
  rw [List.getD_eq_getElem?_getD, List.getElem?_eq_none h]
  rfl
theorem loc_at_end (hm : m ≤ L.length) (h1 : Lea L m r) (h2 : Lea (L.take m) m r') : Loc m r r' := by
  have := h2.2
  rw [len_take hm] at this
  exact .inr ⟨Nat.le_antisymm this h2.1, h1.1⟩
theorem loc_bnd {f f' : Nat → A → Nat × Option B} (hm : m ≤ L.length) (hi : i ≤ m) (h : Res L m i r r') (F : Nat → A → Prop) (hF : ∀ j a, r = (j, some a) → F j a) (hF' : ∀ j a, r' = (j, some a) → F j a) (hf : ∀ j a, F j a → Res L m j (f j a) (f' j a)) : Loc m (bnd r f) (bnd r' f') := by
  have hl := h.1 (by omega)
  obtain ⟨hl', hc⟩ := h.2 hi
  have hlm := hl'.2
  rw [len_take hm] at hlm
  rcases hc with hc | ⟨h1, h2⟩
  · subst hc
    obtain ⟨j, o⟩ := r'
    cases o with
    | none => exact .inl rfl
    | some a => exact ((hf j a (hF' j a rfl)).2 hlm).2
  · refine .inr ⟨?_, ?_⟩
    · obtain ⟨j, o⟩ := r'
      simp only at h1
      subst h1
      cases o with
      | none => rfl
      | some a =>
        have h3 := ((hf j a (hF' j a rfl)).2 (Nat.le_refl _)).1
        have h4 := h3.2
        rw [len_take hm] at h4
        exact Nat.le_antisymm h4 h3.1
    · obtain ⟨k, o⟩ := r
      cases o with
      | none => exact h2
      | some a => exact Nat.le_trans h2 ((hf k a (hF k a rfl)).1 hl.2).1
theorem res_bnd {f f' : Nat → A → Nat × Option B} (hm : m ≤ L.length) (h : Res L m i r r') (F : Nat → A → Prop) (hF : i ≤ L.length → ∀ j a, r = (j, some a) → F j a) (hF' : i ≤ m → ∀ j a, r' = (j, some a) → F j a) (hf : ∀ j a, F j a → Res L m j (f j a) (f' j a)) : Res L m i (bnd r f) (bnd r' f') :=
  ⟨fun hi => lea_bnd (h.1 hi) (fun j a e hj => (hf j a (hF hi j a e)).1 hj),
   fun hi => ⟨lea_bnd (h.2 hi).1 (fun j a e hj => ((hf j a (hF' hi j a e)).2 (by rw [len_take hm] at hj; exact hj)).1), loc_bnd hm hi h F (hF (by omega)) (hF' hi) hf⟩⟩
theorem avr_bnd {f f' : Nat → A → Nat × Option B} (hm : m ≤ L.length) (h : Avr L m i r r') (hf : ∀ j a, i < j → Res L m j (f j a) (f' j a)) : Avr L m i (bnd r f) (bnd r' f') := by
  have hF : i ≤ L.length → ∀ j a, r = (j, some a) → i < j := fun hi j a e => by have := (h.1 hi).2; rw [e] at this; exact this rfl
  have hF' : i ≤ m → ∀ j a, r' = (j, some a) → i < j := fun hi j a e => by have := (h.2 hi).1.2; rw [e] at this; exact this rfl
  exact ⟨fun hi => adv_bnd (h.1 hi) (fun j a e hj => (hf j a (hF hi j a e)).1 hj),
    fun hi => ⟨adv_bnd (h.2 hi).1 (fun j a e hj => ((hf j a (hF' hi j a e)).2 (by rw [len_take hm] at hj; exact hj)).1), loc_bnd hm hi h.res (fun j a => i < j) (hF (by omega)) (hF' hi) hf⟩⟩
theorem res_bndA {f f' : Nat → A → Nat × Option B} (hm : m ≤ L.length) (h : Avr L m i r r') (hf : ∀ j a, i < j → Res L m j (f j a) (f' j a)) : Res L m i (bnd r f) (bnd r' f') := (avr_bnd hm h hf).res
theorem res_here {a b : Option A} (h : i ≤ m → b = a) (hm : m ≤ L.length) : Res L m i (i, a) (i, b) := ⟨fun hi => lea_here _ hi, fun hi => ⟨lea_here _ (by rw [len_take hm]; exact hi), .inl (by rw [h hi])⟩⟩
theorem avr_no (hm : m ≤ L.length) : Avr L m i ((i, none) : Nat × Option A) (i, none) := ⟨fun hi => adv_no hi, fun hi => ⟨adv_no (by rw [len_take hm]; exact hi), .inl rfl⟩⟩
theorem res_if (hm : m ≤ L.length) (p : Tok → Prop) [DecidablePred p] (hp : ¬ p noTok) (hx : Avp L m i x x') (hy : Res L m i y y') : Res L m i (if p (tk L i) then x else y) (if p (tk (L.take m) i) then x' else y') := by
  have h1 : p (tk L i) → i < L.length := fun h => Nat.lt_of_not_le fun hl => hp (tk_out hl ▸ h)
  have h2 : p (tk (L.take m) i) → i < m := fun h => Nat.lt_of_not_le fun hl => hp (tk_end hl ▸ h)
  have l1 : i ≤ L.length → Lea L i (if p (tk L i) then x else y) := fun hi => by
    split
    · rename_i h; exact (hx.1 (h1 h)).1
    · exact hy.1 hi
  have l2 : i ≤ m → Lea (L.take m) i (if p (tk (L.take m) i) then x' else y') := fun hi => by
    split
    · rename_i h; exact (hx.2 (h2 h)).1.1
    · exact (hy.2 hi).1
  refine ⟨l1, fun hi => ⟨l2 hi, ?_⟩⟩
  by_cases hlt : i < m
  · rw [tk_take hlt]
    split
    · exact (hx.2 hlt).2
    · exact (hy.2 hi).2
  · obtain rfl : i = m := by omega
    exact loc_at_end hm (l1 hm) (l2 hi)
theorem avr_if (hm : m ≤ L.length) (p : Tok → Prop) [DecidablePred p] (hp : ¬ p noTok) (hx : Avp L m i x x') (hy : Avr L m i y y') : Avr L m i (if p (tk L i) then x else y) (if p (tk (L.take m) i) then x' else y') := by
  have h1 : p (tk L i) → i < L.length := fun h => Nat.lt_of_not_le fun hl => hp (tk_out hl ▸ h)
  have h2 : p (tk (L.take m) i) → i < m := fun h => Nat.lt_of_not_le fun hl => hp (tk_end hl ▸ h)
  refine ⟨fun hi => ?_, fun hi => ⟨?_, ((res_if hm p hp hx hy.res).2 hi).2⟩⟩
  · split
    · rename_i h; exact hx.1 (h1 h)
    · exact hy.1 hi
  · split
    · rename_i h; exact (hx.2 (h2 h)).1
    · exact (hy.2 hi).1
theorem avr_take (hm : m ≤ L.length) (may : Tok → Bool) (hn : may noTok = false) : Avr L m i (takeP L (may (tk L i)) i) (takeP (L.take m) (may (tk (L.take m) i)) i) := by
  unfold takeP
  refine avr_if hm (fun t => may t = true) (by rw [hn]; decide) (avp_of (res_here (fun h => ?_) hm)) (avr_no hm)
  rw [tk_take (by omega)]
theorem avr_takeG {f f' : Nat → Tok → Nat × Option B} (hm : m ≤ L.length) (may : Tok → Bool) (hn : may noTok = false) (P : Tok → Prop) (hP : may (tk L i) = true → P (tk L i)) (hP' : may (tk (L.take m) i) = true → P (tk (L.take m) i)) (hf : ∀ t, P t → Res L m (i + 1) (f (i + 1) t) (f' (i + 1) t)) : Avr L m i (bnd (takeP L (may (tk L i)) i) f) (bnd (takeP (L.take m) (may (tk (L.take m) i)) i) f') := by
  have ht : ∀ (M : List Tok) j a, (may (tk M i) = true → P (tk M i)) → takeP M (may (tk M i)) i = (j, some a) → j = i + 1 ∧ P a := fun M j a hq e => by
    obtain ⟨h1, h2⟩ := take_some e
    exact ⟨take_inv e, h1 ▸ hq h2⟩
  have h := avr_take (i := i) hm may hn
  have hf2 : ∀ j a, (j = i + 1 ∧ P a) → Res L m j (f j a) (f' j a) := fun j a hja => by
    obtain ⟨rfl, h2⟩ := hja
    exact hf a h2
  exact ⟨fun hi => adv_bnd (h.1 hi) (fun j a e hj => (hf2 j a (ht _ j a hP e)).1 hj),
    fun hi => ⟨adv_bnd (h.2 hi).1 (fun j a e hj => ((hf2 j a (ht _ j a hP' e)).2 (by rw [len_take hm] at hj; exact hj)).1), loc_bnd hm hi h.res (fun j a => j = i + 1 ∧ P a) (fun j a e => ht _ j a hP e) (fun j a e => ht _ j a hP' e) hf2⟩⟩
theorem avr_takeB {f f' : Nat → Tok → Nat × Option B} (hm : m ≤ L.length) (may : Tok → Bool) (hn : may noTok = false) (hf : ∀ t, may t = true → Res L m (i + 1) (f (i + 1) t) (f' (i + 1) t)) : Avr L m i (bnd (takeP L (may (tk L i)) i) f) (bnd (takeP (L.take m) (may (tk (L.take m) i)) i) f') :=
  avr_takeG hm may hn (fun t => may t = true) (fun h => h) (fun h => h) hf
theorem res_need (hm : m ≤ L.length) : ∀ (ts : List Byts8) (i : Nat), (∀ t ∈ ts, t ≠ []) → Res L m i (needP L ts i) (needP (L.take m) ts i)
  | [], i, _ => res_here (fun _ => rfl) hm
  | t :: ts, i, ht => by
    rw [needP, needP]
    exact res_if hm (fun x => x.text = t) (fun h => ht t (by simp) h.symm) (avp_of (res_need hm ts (i + 1) (fun x hx => ht x (by simp [hx])))) (res_here (fun _ => rfl) hm)
theorem avr_need (hm : m ≤ L.length) (t : Byts8) (ts : List Byts8) (ht : ∀ x ∈ t :: ts, x ≠ []) : Avr L m i (needP L (t :: ts) i) (needP (L.take m) (t :: ts) i) := by
  rw [needP, needP]
  exact avr_if hm (fun x => x.text = t) (fun h => ht t (by simp) h.symm) (avp_of (res_need hm ts (i + 1) (fun x hx => ht x (by simp [hx])))) (avr_no hm)
end

section
variable {L : List Tok} {m i : Nat} {rec rec' : Nat → Nat → Rp} {rule rule' : Nat → Rp}
theorem loc_sevL (hm : m ≤ L.length) (hr : ∀ k, Avr L m k (rule k) (rule' k)) : ∀ (n n' : Nat) (acc : List (List Nd)) (i : Nat), L.length - i < n → m - i < n' → Res L m i (sevL L rule n acc i) (sevL (L.take m) rule' n' acc i)
  | 0, _, acc, i, h, _ => absurd h (by omega)
  | _, 0, acc, i, _, h => absurd h (by omega)
  | n + 1, n' + 1, acc, i, h, h' => by
    have hl : i ≤ L.length → Lea L i (sevL L rule (n + 1) acc i) := fun hi => lea_sevL (i := 0) (fun k _ hk => (hr k).1 hk) _ _ (by omega) hi
    have hl' : i ≤ m → Lea (L.take m) i (sevL (L.take m) rule' (n' + 1) acc i) := fun hi => lea_sevL (i := 0) (fun k _ hk => ((hr k).2 (by rw [len_take hm] at hk; exact hk)).1) _ _ (by omega) (by rw [len_take hm]; exact hi)
    refine ⟨hl, fun hi => ⟨hl' hi, ?_⟩⟩
    by_cases hlt : i < m
    · rw [sevL, sevL, tk_take hlt]
      split
      · exact loc_bnd hm (by omega) (hr (i + 1)).res (fun j _ => i + 1 ≤ j) (fun j a e => by have := ((hr (i + 1)).1 (by omega)).1.1; rw [e] at this; exact this) (fun j a e => by have := ((hr (i + 1)).2 (by omega)).1.1.1; rw [e] at this; exact this)
          (fun j a hj => loc_sevL hm hr n n' _ j (by omega) (by omega))
      · exact .inl rfl
    · obtain rfl : i = m := by omega
      exact loc_at_end hm (hl hm) (hl' hi)
theorem loc_sev (hm : m ≤ L.length) (hr : ∀ k, Avr L m k (rule k) (rule' k)) (i : Nat) : Avr L m i (sevP L rule i) (sevP (L.take m) rule' i) := by
  unfold sevP
  exact avr_bnd hm (hr i) (fun j x _ => loc_sevL hm hr _ _ _ j (by omega) (by rw [len_take hm]; omega))
theorem loc_enc (hm : m ≤ L.length) (hr : ∀ k, Avr L m k (rule k) (rule' k)) (i : Nat) : Avr L m i (encP L rule i) (encP (L.take m) rule' i) := by
  unfold encP
  refine avr_bnd hm (avr_need hm _ [] (by decide)) (fun j _ _ => ?_)
  refine res_if hm (fun t => t.text = [41]) (by decide) (avp_of (res_here (fun _ => rfl) hm)) ?_
  refine res_bndA hm (loc_sev hm hr j) (fun k l _ => ?_)
  exact res_bndA hm (avr_need hm _ [] (by decide)) (fun q _ _ => res_here (fun _ => rfl) hm)
theorem loc_oper (hm : m ≤ L.length) (hr : ∀ k, Avr L m k (rule k) (rule' k)) (kind : Int) (side : List Nd) (i : Nat) : Avp L m i (operP L kind side rule i) (operP (L.take m) kind side rule' i) := by
  unfold operP
  refine avp_of (res_bndA hm (hr (i + 1)) (fun j y hj => res_here (fun h => ?_) hm))
  rw [tk_take (by omega)]
theorem loc_expr (hm : m ≤ L.length) (R : ∀ r k, Avr L m k (rec r k) (rec' r k)) (i : Nat) : Avr L m i (exprP L rec i) (exprP (L.take m) rec' i) := by
  unfold exprP
  refine avr_bnd hm (R 1 i) (fun j x _ => ?_)
  refine res_if hm (fun t => (isPl x && asgW.contains t.text) = true) ?_ (loc_oper hm (R 0) _ _ j) (res_here (fun _ => rfl) hm)
  rw [show asgW.contains noTok.text = false by decide, Bool.and_false]
  decide
theorem loc_cond (hm : m ≤ L.length) (R : ∀ r k, Avr L m k (rec r k) (rec' r k)) (i : Nat) : Avr L m i (condP L rec i) (condP (L.take m) rec' i) := by
  unfold condP
  refine avr_bnd hm (R 2 i) (fun j x _ => ?_)
  refine res_if hm (fun t => t.text = [63]) (by decide) (avp_of ?_) (res_here (fun _ => rfl) hm)
  refine res_bndA hm (R 0 (j + 1)) (fun k y hk => ?_)
  refine res_bndA hm (avr_need hm _ [] (by decide)) (fun q _ hq => ?_)
  refine res_bndA hm (R 1 q) (fun s z hs => res_here (fun h => ?_) hm)
  rw [tk_take (by omega)]
theorem loc_rowL (hm : m ≤ L.length) (hr : ∀ k, Avr L m k (rule k) (rule' k)) (ops : List Byts8) (ho : ∀ x ∈ ops, x ≠ []) : ∀ (n n' : Nat) (x : List Nd) (i : Nat), L.length - i < n → m - i < n' → Res L m i (rowL L rule ops n x i) (rowL (L.take m) rule' ops n' x i)
  | 0, _, acc, i, h, _ => absurd h (by omega)
  | _, 0, acc, i, _, h => absurd h (by omega)
  | n + 1, n' + 1, x, i, h, h' => by
    have hl : i ≤ L.length → Lea L i (rowL L rule ops (n + 1) x i) := fun hi => lea_rowL (fun k hk => (hr k).1 hk) ho _ _ hi
    have hl' : i ≤ m → Lea (L.take m) i (rowL (L.take m) rule' ops (n' + 1) x i) := fun hi => lea_rowL (fun k hk => ((hr k).2 (by rw [len_take hm] at hk; exact hk)).1) ho _ _ (by rw [len_take hm]; exact hi)
    refine ⟨hl, fun hi => ⟨hl' hi, ?_⟩⟩
    by_cases hlt : i < m
    · rw [rowL, rowL, tk_take hlt]
      split
      · have ho2 := loc_oper hm hr 15 x i
        have hres : Res L m i (operP L 15 x rule i) (operP (L.take m) 15 x rule' i) := ⟨fun _ => (ho2.1 (by omega)).1, fun _ => ⟨(ho2.2 hlt).1.1, (ho2.2 hlt).2⟩⟩
        exact loc_bnd hm (by omega) hres (fun j _ => i < j) (fun j a e => by have := (ho2.1 (by omega)).2; rw [e] at this; exact this rfl) (fun j a e => by have := (ho2.2 hlt).1.2; rw [e] at this; exact this rfl)
          (fun j a hj => loc_rowL hm hr ops ho n n' _ j (by omega) (by omega))
      · exact .inl rfl
    · obtain rfl : i = m := by omega
      exact loc_at_end hm (hl hm) (hl' hi)
theorem loc_row (hm : m ≤ L.length) (R : ∀ r k, Avr L m k (rec r k) (rec' r k)) (k i : Nat) : Avr L m i (rowP L rec k i) (rowP (L.take m) rec' k i) := by
  unfold rowP
  exact avr_bnd hm (R _ i) (fun j x _ => loc_rowL hm (R _) _ (ops_ne k) _ _ _ j (by omega) (by rw [len_take hm]; omega))
theorem loc_unary (hm : m ≤ L.length) (R : ∀ r k, Avr L m k (rec r k) (rec' r k)) (i : Nat) : Avr L m i (unaryP L rec i) (unaryP (L.take m) rec' i) := by
  unfold unaryP
  refine avr_if hm (fun t => turnW.contains t.text = true) (by decide) (avp_of ?_) (R 9 i)
  refine res_bndA hm (R 8 (i + 1)) (fun j x hj => res_here (fun h => ?_) hm)
  rw [tk_take (by omega)]
theorem loc_postL (hm : m ≤ L.length) : ∀ (n n' : Nat) (x : List Nd) (i : Nat), L.length - i < n → m - i < n' → Res L m i (postL L n x i) (postL (L.take m) n' x i)
  | 0, _, acc, i, h, _ => absurd h (by omega)
  | _, 0, acc, i, _, h => absurd h (by omega)
  | n + 1, n' + 1, x, i, h, h' => by
    have hl : i ≤ L.length → Lea L i (postL L (n + 1) x i) := fun hi => lea_postL _ _ hi
    have hl' : i ≤ m → Lea (L.take m) i (postL (L.take m) (n' + 1) x i) := fun hi => lea_postL _ _ (by rw [len_take hm]; exact hi)
    refine ⟨hl, fun hi => ⟨hl' hi, ?_⟩⟩
    by_cases hlt : i < m
    · rw [postL, postL, tk_take hlt]
      split
      · have hA := avr_takeB (B := List Nd) (i := i + 1) (f := fun j t => postL L n (mkN 18 [] t.text 0 (tk L (i + 1)).place [x]) j) (f' := fun j t => postL (L.take m) n' (mkN 18 [] t.text 0 (tk (L.take m) (i + 1)).place [x]) j) hm (fun t => decide (t.kind = 1) && !isResW t.text) (by decide) (fun t _ => ?_)
        · exact (hA.2 (by omega)).2
        · by_cases h2 : i + 1 < m
          · rw [tk_take h2]
            exact loc_postL hm n n' _ _ (by omega) (by omega)
          · have q1 : i + 1 + 1 ≤ L.length → Lea L (i + 1 + 1) (postL L n (mkN 18 [] t.text 0 (tk L (i + 1)).place [x]) (i + 1 + 1)) := fun hi => lea_postL _ _ hi
            exact ⟨q1, fun hi => absurd hi (by omega)⟩
      · exact .inl rfl
    · obtain rfl : i = m := by omega
      exact loc_at_end hm (hl hm) (hl' hi)
theorem loc_post (hm : m ≤ L.length) (R : ∀ r k, Avr L m k (rec r k) (rec' r k)) (i : Nat) : Avr L m i (postP L rec i) (postP (L.take m) rec' i) := by
  unfold postP
  exact avr_bnd hm (R 10 i) (fun j x _ => loc_postL hm _ _ _ j (by omega) (by rw [len_take hm]; omega))
theorem loc_call (hm : m ≤ L.length) (R : ∀ r k, Avr L m k (rec r k) (rec' r k)) (i : Nat) : Avr L m i (callP L rec i) (callP (L.take m) rec' i) := by
  unfold callP
  refine avr_takeB hm (fun t => (decide (t.kind = 1) && !isResW t.text) || isTypeW t.text) (by decide) (fun t _ => ?_)
  refine res_bndA hm (loc_enc hm (R 0) (i + 1)) (fun j l hj => res_here (fun h => ?_) hm)
  rw [tk_take (by omega)]
theorem loc_var (hm : m ≤ L.length) (R : ∀ r k, Avr L m k (rec r k) (rec' r k)) (i : Nat) : Avr L m i (varP L rec i) (varP (L.take m) rec' i) := by
  unfold varP
  refine avr_takeB hm (fun t => decide (t.kind = 1) && !isResW t.text) (by decide) (fun t _ => ?_)
  refine res_if hm (fun t => t.text = [61]) (by decide) (avp_of ?_) (res_here (fun h => ?_) hm)
  · refine res_bndA hm (R 0 _) (fun j x hj => res_here (fun h => ?_) hm)
    rw [tk_take (by omega)]
  · rw [tk_take (by omega)]
theorem loc_declR (hm : m ≤ L.length) (R : ∀ r k, Avr L m k (rec r k) (rec' r k)) (pl : Int) (tx : Byts8) (i : Nat) : Avr L m i (declR L rec pl tx i) (declR (L.take m) rec' pl tx i) := by
  unfold declR
  refine avr_takeB hm (fun t => isTypeW t.text) (by decide) (fun t _ => ?_)
  refine res_bndA hm (loc_sev hm (loc_var hm R) (i + 1)) (fun j l hj => ?_)
  exact res_bndA hm (avr_need hm _ [] (by decide)) (fun q _ _ => res_here (fun _ => rfl) hm)
theorem loc_decl (hm : m ≤ L.length) (R : ∀ r k, Avr L m k (rec r k) (rec' r k)) (ws : List Byts8) (hw : ∀ x ∈ ws, x ≠ []) (i : Nat) : Avr L m i (declP L rec ws i) (declP (L.take m) rec' ws i) := by
  have hw2 : ws.contains noTok.text = false := by
    rw [Bool.eq_false_iff]
    intro h
    exact hw [] (by simpa [noTok] using h) rfl
  by_cases hlt : i < m
  · unfold declP
    rw [tk_take hlt]
    split
    · have h9 := avp_of (loc_declR hm R (tk L i).place (tk L i).text (i + 1)).res
      exact ⟨fun _ => h9.1 (by omega), fun _ => h9.2 hlt⟩
    · exact loc_declR hm R (tk L i).place [] i
  · have hA : i ≤ L.length → Adv L i (declP L rec ws i) := fun hi => adv_decl (fun r k hk => (R r k).1 hk) hi hw
    refine ⟨hA, fun hi => ?_⟩
    obtain rfl : i = m := by omega
    have hA' : Adv (L.take i) i (declP (L.take i) rec' ws i) := adv_decl (fun r k hk => ((R r k).2 (by rw [len_take hm] at hk; exact hk)).1) (by rw [len_take hm]; exact hi) hw
    exact ⟨hA', loc_at_end hm (hA hm).1 hA'.1⟩
theorem loc_param (hm : m ≤ L.length) (i : Nat) : Avr L m i (paramP L i) (paramP (L.take m) i) := by
  unfold paramP
  refine avr_takeB hm (fun t => isTypeW t.text) (by decide) (fun t _ => ?_)
  refine (avr_takeB hm (fun t => decide (t.kind = 1) && !isResW t.text) (by decide) (fun u _ => res_here (fun h => ?_) hm)).res
  rw [tk_take (by omega)]
theorem loc_func (hm : m ≤ L.length) (R : ∀ r k, Avr L m k (rec r k) (rec' r k)) (i : Nat) : Avr L m i (funcP L rec i) (funcP (L.take m) rec' i) := by
  unfold funcP
  refine avr_takeB hm (fun t => isTypeW t.text) (by decide) (fun t _ => ?_)
  refine (avr_takeB hm (fun t => decide (t.kind = 1) && !isResW t.text) (by decide) (fun u _ => ?_)).res
  refine res_bndA hm (loc_enc hm (loc_param hm) _) (fun j l hj => ?_)
  refine res_bndA hm (R 13 j) (fun q b hq => res_here (fun h => ?_) hm)
  rw [tk_take (by omega)]
theorem loc_boundR (hm : m ≤ L.length) (b : Bool) (pl : Int) (i : Nat) : Avr L m i (boundR L b pl i) (boundR (L.take m) b pl i) := by
  unfold boundR
  exact avr_takeB hm (fun t => decide (t.kind = 2)) (by decide) (fun t _ => res_here (fun h => rfl) hm)
theorem loc_bound (hm : m ≤ L.length) (i : Nat) : Avr L m i (boundP L i) (boundP (L.take m) i) := by
  by_cases hlt : i < m
  · unfold boundP
    rw [tk_take hlt]
    split
    · have h9 := avp_of (loc_boundR hm true (tk L i).place (i + 1)).res
      exact ⟨fun _ => h9.1 (by omega), fun _ => h9.2 hlt⟩
    · exact loc_boundR hm false (tk L i).place i
  · have hA : i ≤ L.length → Adv L i (boundP L i) := fun hi => adv_bound hi
    refine ⟨hA, fun hi => ?_⟩
    obtain rfl : i = m := by omega
    have hA' : Adv (L.take i) i (boundP (L.take i) i) := adv_bound (by rw [len_take hm]; exact hi)
    exact ⟨hA', loc_at_end hm (hA hm).1 hA'.1⟩
theorem loc_blockL (hm : m ≤ L.length) (R : ∀ r k, Avr L m k (rec r k) (rec' r k)) : ∀ (n n' : Nat) (acc : List (List Nd)) (i : Nat), L.length - i < n → m - i < n' → Res L m i (blockL L (rec 12) n acc i) (blockL (L.take m) (rec' 12) n' acc i)
  | 0, _, acc, i, h, _ => absurd h (by omega)
  | _, 0, acc, i, _, h => absurd h (by omega)
  | n + 1, n' + 1, acc, i, h, h' => by
    have hl : i ≤ L.length → Lea L i (blockL L (rec 12) (n + 1) acc i) := fun hi => lea_blockL (fun r k hk => (R r k).1 hk) _ _ hi
    have hl' : i ≤ m → Lea (L.take m) i (blockL (L.take m) (rec' 12) (n' + 1) acc i) := fun hi => lea_blockL (fun r k hk => ((R r k).2 (by rw [len_take hm] at hk; exact hk)).1) _ _ (by rw [len_take hm]; exact hi)
    refine ⟨hl, fun hi => ⟨hl' hi, ?_⟩⟩
    by_cases hlt : i < m
    · rw [blockL, blockL, tk_take hlt]
      split
      · exact .inl rfl
      · exact ((avr_bnd hm (R 12 i) (f := fun j x => if i < j then blockL L (rec 12) n (acc ++ [x]) j else (j, none)) (f' := fun j x => if i < j then blockL (L.take m) (rec' 12) n' (acc ++ [x]) j else (j, none)) (fun j x hj => by
          simp only [hj, if_true]
          exact loc_blockL hm R n n' _ j (by omega) (by omega))).2 (by omega)).2 |> fun h9 => by
            have e1 : bnd (rec 12 i) (fun j x => if i < j then blockL L (rec 12) n (acc ++ [x]) j else (j, none)) = bnd (rec 12 i) (fun j x => blockL L (rec 12) n (acc ++ [x]) j) := by
              have h8 := ((R 12 i).1 (by omega)).2
              cases hq : rec 12 i with
              | mk j o =>
                cases o with
                | none => rfl
                | some a => rw [hq] at h8; exact if_pos (h8 rfl)
            have e2 : bnd (rec' 12 i) (fun j x => if i < j then blockL (L.take m) (rec' 12) n' (acc ++ [x]) j else (j, none)) = bnd (rec' 12 i) (fun j x => blockL (L.take m) (rec' 12) n' (acc ++ [x]) j) := by
              have h8 := ((R 12 i).2 (by omega)).1.2
              cases hq : rec' 12 i with
              | mk j o =>
                cases o with
                | none => rfl
                | some a => rw [hq] at h8; exact if_pos (h8 rfl)
            rw [e1, e2] at h9
            exact h9
    · obtain rfl : i = m := by omega
      exact loc_at_end hm (hl hm) (hl' hi)
theorem loc_block (hm : m ≤ L.length) (R : ∀ r k, Avr L m k (rec r k) (rec' r k)) (i : Nat) : Avr L m i (blockP L rec i) (blockP (L.take m) rec' i) := by
  unfold blockP
  refine avr_bnd hm (avr_need hm _ [] (by decide)) (fun j _ hj => ?_)
  refine res_bnd hm (loc_blockL hm R _ _ _ j (by omega) (by rw [len_take hm]; omega)) (fun k _ => i < k) (fun hi k a e => ?_) (fun hi k a e => ?_) (fun k l hk => res_here (fun h => ?_) hm)
  · have h9 := (lea_blockL (L := L) (fun r k hk => (R r k).1 hk) (L.length + 1) [] hi).1
    rw [e] at h9
    exact Nat.lt_of_lt_of_le hj h9
  · have h9 := (lea_blockL (L := L.take m) (fun r k hk => ((R r k).2 (by rw [len_take hm] at hk; exact hk)).1) ((L.take m).length + 1) [] (show j ≤ _ by rw [len_take hm]; exact hi)).1
    rw [e] at h9
    exact Nat.lt_of_lt_of_le hj h9
  · rw [tk_take (by omega)]
theorem loc_branch (hm : m ≤ L.length) (R : ∀ r k, Avr L m k (rec r k) (rec' r k)) (i : Nat) : Avr L m i (branchP L rec i) (branchP (L.take m) rec' i) := by
  unfold branchP
  refine avr_bnd hm (avr_need hm _ _ (by decide)) (fun j _ hj => ?_)
  refine res_bndA hm (R 0 j) (fun k x hk => ?_)
  refine res_bndA hm (avr_need hm _ [] (by decide)) (fun q _ hq => ?_)
  refine res_bndA hm (R 12 q) (fun s y hs => ?_)
  refine res_if hm (fun t => t.text = [101, 108, 115, 101]) (by decide) (avp_of ?_) (res_here (fun h => ?_) hm)
  · refine res_bndA hm (R 12 (s + 1)) (fun u z hu => res_here (fun h => ?_) hm)
    rw [tk_take (by omega)]
  · rw [tk_take (by omega)]
theorem loc_leave (hm : m ≤ L.length) (R : ∀ r k, Avr L m k (rec r k) (rec' r k)) (i : Nat) : Avr L m i (leaveP L rec i) (leaveP (L.take m) rec' i) := by
  unfold leaveP
  refine avr_bnd hm (avr_need hm _ _ (by decide)) (fun j _ hj => ?_)
  refine res_if hm (fun t => t.text = [59]) (by decide) ?_ ?_
  · refine (avr_bnd hm (avr_need hm _ [] (by decide)) (fun k _ hk => res_here (fun h => ?_) hm)).p
    rw [tk_take (by omega)]
  · refine res_bndA hm (R 0 j) (fun k x hk => ?_)
    refine res_bndA hm (avr_need hm _ [] (by decide)) (fun q _ hq => res_here (fun h => ?_) hm)
    rw [tk_take (by omega)]
theorem loc_loop (hm : m ≤ L.length) (R : ∀ r k, Avr L m k (rec r k) (rec' r k)) (hk : TokOk L) (i : Nat) : Avr L m i (loopP L rec i) (loopP (L.take m) rec' i) := by
  unfold loopP
  refine avr_bnd hm (avr_need hm _ _ (by decide)) (fun j _ hj => ?_)
  refine (avr_takeG hm (fun t => decide (t.kind = 1) && !isResW t.text) (by decide) (fun t => t.text ≠ []) (fun h => (hk j).2 h) (fun h => ?_) (fun t ht => ?_)).res
  · have hjm : j < m := by
      have h9 := name_lt (L := L.take m) h
      rw [len_take hm] at h9
      exact h9
    rw [tk_take hjm] at h ⊢
    exact (hk j).2 h
  have h3 : ∀ x ∈ [[59], t.text, [60]], x ≠ [] := by
    intro x hx
    simp only [List.mem_cons, List.not_mem_nil, or_false] at hx
    rcases hx with rfl | rfl | rfl
    · decide
    · exact ht
    · decide
  have h4 : ∀ x ∈ [[59], t.text, [43, 43], [41]], x ≠ [] := by
    intro x hx
    simp only [List.mem_cons, List.not_mem_nil, or_false] at hx
    rcases hx with rfl | rfl | rfl | rfl
    · decide
    · exact ht
    · decide
    · decide
  refine res_bndA hm (avr_need hm _ [] (by decide)) (fun q _ hq => ?_)
  refine res_bndA hm (loc_bound hm q) (fun s x hs => ?_)
  refine res_bndA hm (avr_need hm _ _ h3) (fun u _ hu => ?_)
  refine res_bndA hm (loc_bound hm u) (fun v y hv => ?_)
  refine res_bndA hm (avr_need hm _ _ h4) (fun z _ hz => ?_)
  refine res_bndA hm (R 12 z) (fun a b ha => res_here (fun h => ?_) hm)
  rw [tk_take (by omega)]
theorem loc_first (hm : m ≤ L.length) (R : ∀ r k, Avr L m k (rec r k) (rec' r k)) (h11 : isNm L i = true → i + 1 ≤ (rec 11 i).1) (h11' : isNm L i = false → isTypeW (tk L i).text = false → rec 11 i = (i, none)) : Avr L m i (firstP L rec i) (firstP (L.take m) rec' i) := by
  unfold firstP
  refine avr_if hm (fun t => t.text = [40]) (by decide) (avp_of ?_) ?_
  · refine res_bndA hm (R 0 (i + 1)) (fun j x hj => ?_)
    exact res_bndA hm (avr_need hm _ [] (by decide)) (fun q _ hq => res_here (fun _ => rfl) hm)
  refine avr_if hm (fun t => t.kind = 2) (by decide) (avp_of (res_here (fun h => by rw [tk_take (by omega)]) hm)) ?_
  refine avr_if hm (fun t => t.kind = 3) (by decide) (avp_of (res_here (fun h => by rw [tk_take (by omega)]) hm)) ?_
  refine avr_if hm (fun t => t.text = [116, 114, 117, 101] ∨ t.text = [102, 97, 108, 115, 101]) (by decide) (avp_of (res_here (fun h => by rw [tk_take (by omega)]) hm)) ?_
  have hN : Avr L m i (bnd (takeP L (isNm L i) i) fun j t => (j, some (mkN 19 [] t.text 0 (tk L i).place []))) (bnd (takeP (L.take m) (isNm (L.take m) i) i) fun j t => (j, some (mkN 19 [] t.text 0 (tk (L.take m) i).place []))) :=
    avr_takeB hm (fun t => decide (t.kind = 1) && !isResW t.text) (by decide) (fun t _ => res_here (fun h => by rw [tk_take (by omega)]) hm)
  have l1 : i ≤ L.length → Adv L i (if isTypeW (tk L i).text = true ∨ (tk L (i + 1)).text = [40] then rec 11 i else bnd (takeP L (isNm L i) i) fun j t => (j, some (mkN 19 [] t.text 0 (tk L i).place []))) := fun hi => by
    split
    · exact (R 11 i).1 hi
    · exact hN.1 hi
  have l2 : i ≤ m → Adv (L.take m) i (if isTypeW (tk (L.take m) i).text = true ∨ (tk (L.take m) (i + 1)).text = [40] then rec' 11 i else bnd (takeP (L.take m) (isNm (L.take m) i) i) fun j t => (j, some (mkN 19 [] t.text 0 (tk (L.take m) i).place []))) := fun hi => by
    split
    · exact ((R 11 i).2 hi).1
    · exact (hN.2 hi).1
  refine ⟨l1, fun hi => ⟨l2 hi, ?_⟩⟩
  by_cases hlt : i < m
  · by_cases h2 : i + 1 < m
    · rw [tk_take h2, show isTypeW (tk (L.take m) i).text = isTypeW (tk L i).text by rw [tk_take hlt]]
      split
      · exact ((R 11 i).2 hi).2
      · exact (hN.2 hi).2
    · have e1 : (tk (L.take m) (i + 1)).text = [] := by rw [tk_end (by omega)]; rfl
      rw [show isTypeW (tk (L.take m) i).text = isTypeW (tk L i).text by rw [tk_take hlt], e1]
      cases ht : isTypeW (tk L i).text with
      | true =>
        rw [if_pos (.inl rfl), if_pos (.inl rfl)]
        exact ((R 11 i).2 hi).2
      | false =>
        rw [if_neg (show ¬ (false = true ∨ ([] : Byts8) = [40]) by decide)]
        by_cases h4 : (tk L (i + 1)).text = [40]
        · rw [if_pos (.inr h4)]
          have hnm : isNm (L.take m) i = isNm L i := by unfold isNm; rw [tk_take hlt]
          cases hn : isNm L i with
          | true =>
            rw [hnm, hn]
            have := h11 hn
            exact .inr ⟨by show i + 1 = m; omega, by omega⟩
          | false =>
            rw [hnm, hn, h11' hn ht]
            exact .inl rfl
        · rw [if_neg (by simp [h4])]
          exact (hN.2 hi).2
  · obtain rfl : i = m := by omega
    exact loc_at_end hm (l1 hm).1 (l2 hi).1
theorem loc_stmt (hm : m ≤ L.length) (R : ∀ r k, Avr L m k (rec r k) (rec' r k)) (h0 : isTypeW (tk L i).text = true → (tk L (i + 1)).text = [40] → i + 1 ≤ (rec 0 i).1) : Avr L m i (stmtP L rec i) (stmtP (L.take m) rec' i) := by
  unfold stmtP
  refine avr_if hm (fun t => t.text = [123]) (by decide) (R 13 i).p ?_
  refine avr_if hm (fun t => t.text = [105, 102]) (by decide) (R 14 i).p ?_
  refine avr_if hm (fun t => t.text = [102, 111, 114]) (by decide) (R 15 i).p ?_
  refine avr_if hm (fun t => t.text = [114, 101, 116, 117, 114, 110]) (by decide) (R 16 i).p ?_
  refine avr_if hm (fun t => t.text = [100, 105, 115, 99, 97, 114, 100]) (by decide) ?_ ?_
  · exact (avr_bnd hm (avr_need hm _ _ (by decide)) (fun j _ hj => res_here (fun h => by rw [tk_take (by omega)]) hm)).p
  refine avr_if hm (fun t => t.text = [59]) (by decide) ?_ ?_
  · exact (avr_bnd hm (avr_need hm _ _ (by decide)) (fun j _ hj => res_here (fun h => by rw [tk_take (by omega)]) hm)).p
  have hD := loc_decl hm R localW (by decide) i
  have hX : Avr L m i (bnd (rec 0 i) fun j x => bnd (needP L [[59]] j) fun k _ => (k, some (mkN 11 [] [] 0 (tk L i).place [x]))) (bnd (rec' 0 i) fun j x => bnd (needP (L.take m) [[59]] j) fun k _ => (k, some (mkN 11 [] [] 0 (tk (L.take m) i).place [x]))) :=
    avr_bnd hm (R 0 i) (fun j x hj => res_bndA hm (avr_need hm _ [] (by decide)) (fun q _ hq => res_here (fun h => by rw [tk_take (by omega)]) hm))
  have l1 : i ≤ L.length → Adv L i (if (tk L i).text = [99, 111, 110, 115, 116] ∨ isTypeW (tk L i).text = true ∧ (tk L (i + 1)).text ≠ [40] then declP L rec localW i else bnd (rec 0 i) fun j x => bnd (needP L [[59]] j) fun k _ => (k, some (mkN 11 [] [] 0 (tk L i).place [x]))) := fun hi => by
    split
    · exact hD.1 hi
    · exact hX.1 hi
  have l2 : i ≤ m → Adv (L.take m) i (if (tk (L.take m) i).text = [99, 111, 110, 115, 116] ∨ isTypeW (tk (L.take m) i).text = true ∧ (tk (L.take m) (i + 1)).text ≠ [40] then declP (L.take m) rec' localW i else bnd (rec' 0 i) fun j x => bnd (needP (L.take m) [[59]] j) fun k _ => (k, some (mkN 11 [] [] 0 (tk (L.take m) i).place [x]))) := fun hi => by
    split
    · exact (hD.2 hi).1
    · exact (hX.2 hi).1
  refine ⟨l1, fun hi => ⟨l2 hi, ?_⟩⟩
  by_cases hlt : i < m
  · by_cases h2 : i + 1 < m
    · have e1 := tk_take (L := L) hlt
      rw [tk_take h2]
      simp only [e1] at hD hX ⊢
      split
      · exact (hD.2 hi).2
      · exact (hX.2 hi).2
    · have e1 : (tk (L.take m) (i + 1)).text = [] := by rw [tk_end (by omega)]; rfl
      have e2 := tk_take (L := L) hlt
      simp only [e2] at hX ⊢
      rw [e1]
      by_cases hc : (tk L i).text = [99, 111, 110, 115, 116]
      · rw [if_pos (.inl hc), if_pos (.inl hc)]
        exact (hD.2 hi).2
      · cases ht : isTypeW (tk L i).text with
        | true =>
          rw [if_pos (show (tk L i).text = [99, 111, 110, 115, 116] ∨ true = true ∧ ([] : Byts8) ≠ [40] from .inr ⟨rfl, by decide⟩)]
          by_cases h4 : (tk L (i + 1)).text = [40]
          · rw [if_neg (show ¬ ((tk L i).text = [99, 111, 110, 115, 116] ∨ true = true ∧ (tk L (i + 1)).text ≠ [40]) by simp [hc, h4])]
            have hz := h0 ht h4
            have hw : localW.contains (tk (L.take m) i).text = false := by
              rw [e2, Bool.eq_false_iff]
              intro h
              exact hc (by simpa [localW] using h)
            have hg : m ≤ (declP (L.take m) rec' localW i).1 := by
              unfold declP
              rw [hw, if_neg (by decide)]
              unfold declR
              rw [e2, ht]
              have h9 := (lea_bnd (L := L.take m) (i := i + 1) (r := (i + 1, some (tk (L.take m) i))) (f := fun k t => bnd (sevP (L.take m) (varP (L.take m) rec') k) fun m_1 vs => bnd (needP (L.take m) [[59]] m_1) fun q _ => (q, some (mkN 2 t.text [] 0 (tk L i).place vs))) ⟨Nat.le_refl _, by rw [len_take hm]; exact hlt⟩ (fun j a e hj => ?_)).1
              · exact Nat.le_trans (by omega) h9
              · have hAM : ∀ r k, k ≤ (L.take m).length → Adv (L.take m) k (rec' r k) := fun r k hk => ((R r k).2 (by rw [len_take hm] at hk; exact hk)).1
                exact lea_bnd (adv_sev (fun k _ hk => adv_var hAM hk) hj).1 (fun q l _ hq => lea_bnd (lea_need _ hq (by decide)) (fun s _ _ hs => lea_here _ hs))
            have hb := (hD.2 hi).1.1.2
            rw [len_take hm] at hb
            refine .inr ⟨Nat.le_antisymm hb hg, ?_⟩
            have hR := (R 0 i).1 (by omega)
            have h7 : (rec 0 i).1 ≤ (bnd (rec 0 i) fun j x => bnd (needP L [[59]] j) fun k _ => (k, some (mkN 11 [] [] 0 (tk L i).place [x]))).1 := by
              have h6 := (lea_bnd (L := L) (i := (rec 0 i).1) (r := rec 0 i) (f := fun j x => bnd (needP L [[59]] j) fun k _ => (k, some (mkN 11 [] [] 0 (tk L i).place [x]))) ⟨Nat.le_refl _, hR.1.2⟩ (fun j a e hj => lea_bnd (lea_need _ hj (by decide)) (fun s _ _ hs => lea_here _ hs))).1
              exact h6
            exact Nat.le_trans (by omega) h7
          · rw [if_pos (show (tk L i).text = [99, 111, 110, 115, 116] ∨ true = true ∧ (tk L (i + 1)).text ≠ [40] from .inr ⟨rfl, h4⟩)]
            exact (hD.2 hi).2
        | false =>
          rw [if_neg (by simp [hc]), if_neg (by simp [hc])]
          exact (hX.2 hi).2
  · obtain rfl : i = m := by omega
    exact loc_at_end hm (l1 hm).1 (l2 hi).1
/-- What is asked of the rules at the very place: that a call takes its name, and begins there. -/
def Ask (L : List Tok) (rec : Nat → Nat → Rp) (r i : Nat) : Prop := (r = 10 → (isNm L i = true → i + 1 ≤ (rec 11 i).1) ∧ (isNm L i = false → isTypeW (tk L i).text = false → rec 11 i = (i, none))) ∧ (r = 12 → isTypeW (tk L i).text = true → (tk L (i + 1)).text = [40] → i + 1 ≤ (rec 0 i).1)
theorem loc_rule (hm : m ≤ L.length) (R : ∀ r k, Avr L m k (rec r k) (rec' r k)) (hk : TokOk L) (r : Nat) (hq : Ask L rec r i) : Avr L m i (ruleP L rec r i) (ruleP (L.take m) rec' r i) := by
  unfold ruleP
  split
  · exact loc_expr hm R i
  · exact loc_cond hm R i
  · exact loc_row hm R _ i
  · exact loc_row hm R _ i
  · exact loc_row hm R _ i
  · exact loc_row hm R _ i
  · exact loc_row hm R _ i
  · exact loc_row hm R _ i
  · exact loc_unary hm R i
  · exact loc_post hm R i
  · exact loc_first hm R (hq.1 rfl).1 (hq.1 rfl).2
  · exact loc_call hm R i
  · exact loc_stmt hm R (hq.2 rfl)
  · exact loc_block hm R i
  · exact loc_branch hm R i
  · exact loc_loop hm R hk i
  · exact loc_leave hm R i
end
end Go.Proofs.YtnmieoojjnipkaaGreat

/-
  Rules that agree at what lies behind, and at lower rules: the same comes of them; so more fuel than enough changes nothing.
-/
namespace Go.Proofs.YtnmieoojjnipkaaGreat
set_option linter.unusedVariables false
set_option linter.unusedSimpArgs false

theorem bnd_cg {A B : Type} {r : Nat × Option A} {f g : Nat → A → Nat × Option B} (h : ∀ j a, r = (j, some a) → f j a = g j a) : bnd r f = bnd r g := by
  obtain ⟨j, o⟩ := r
  cases o with
  | none => rfl
  | some a => exact h j a rfl
theorem ite_cg {A : Type} {c : Prop} [Decidable c] {x y z w : A} (h1 : c → x = y) (h2 : ¬ c → z = w) : (if c then x else z) = (if c then y else w) := by
  by_cases h : c
  · rw [if_pos h, if_pos h, h1 h]
  · rw [if_neg h, if_neg h, h2 h]
theorem adv_pos {A : Type} {L : List Tok} {i j : Nat} {a : A} {r : Nat × Option A} (h : Adv L i r) (e : r = (j, some a)) : i < j ∧ j ≤ L.length := by
  subst e
  exact ⟨h.2 rfl, h.1.2⟩
section
variable {L : List Tok} {i : Nat} {rec rec2 : Nat → Nat → Rp} {rule rule2 : Nat → Rp}
theorem cg_sevL (hr : ∀ k, i ≤ k → k ≤ L.length → Adv L k (rule k)) (E : ∀ k, i ≤ k → k ≤ L.length → rule k = rule2 k) : ∀ (n : Nat) (acc : List (List Nd)) (j : Nat), i ≤ j → j ≤ L.length → sevL L rule n acc j = sevL L rule2 n acc j
  | 0, _, _, _, _ => rfl
  | n + 1, acc, j, h1, h2 => by
    rw [sevL, sevL]
    refine ite_cg (fun hc => ?_) (fun _ => rfl)
    have hl := text_lt hc (by decide)
    rw [← E (j + 1) (by omega) hl]
    refine bnd_cg (fun k x e => ?_)
    have := adv_pos (hr (j + 1) (by omega) hl) e
    exact cg_sevL hr E n _ k (by omega) this.2
theorem cg_sev (hr : ∀ k, i ≤ k → k ≤ L.length → Adv L k (rule k)) (E : ∀ k, i ≤ k → k ≤ L.length → rule k = rule2 k) (hi : i ≤ L.length) : sevP L rule i = sevP L rule2 i := by
  unfold sevP
  rw [← E i (Nat.le_refl _) hi]
  refine bnd_cg (fun j x e => ?_)
  have := adv_pos (hr i (Nat.le_refl _) hi) e
  exact cg_sevL hr E _ _ j (by omega) this.2
theorem cg_enc (hr : ∀ k, i < k → k ≤ L.length → Adv L k (rule k)) (E : ∀ k, i < k → k ≤ L.length → rule k = rule2 k) (hi : i ≤ L.length) : encP L rule i = encP L rule2 i := by
  unfold encP
  refine bnd_cg (fun j u e => ?_)
  have hp := adv_pos (adv_need _ [] hi (by decide)) e
  refine ite_cg (fun _ => rfl) (fun _ => ?_)
  rw [cg_sev (i := j) (fun k h1 h2 => hr k (by omega) h2) (fun k h1 h2 => E k (by omega) h2) hp.2]
theorem cg_oper (E : ∀ k, i < k → k ≤ L.length → rule k = rule2 k) (hi : i < L.length) (kind : Int) (side : List Nd) : operP L kind side rule i = operP L kind side rule2 i := by
  unfold operP
  rw [E (i + 1) (by omega) hi]
theorem cg_expr (hA : ∀ r k, k ≤ L.length → Adv L k (rec r k)) (E : ∀ r k, i < k → k ≤ L.length → rec r k = rec2 r k) (hi : i ≤ L.length) (E0 : rec 1 i = rec2 1 i) : exprP L rec i = exprP L rec2 i := by
  unfold exprP
  rw [← E0]
  refine bnd_cg (fun j x e => ?_)
  have hp := adv_pos (hA 1 i hi) e
  refine ite_cg (fun hc => ?_) (fun _ => rfl)
  rw [Bool.and_eq_true] at hc
  exact cg_oper (fun k h1 h2 => E 0 k (by omega) h2) (con_lt hc.2 (by decide)) _ _
theorem cg_cond (hA : ∀ r k, k ≤ L.length → Adv L k (rec r k)) (E : ∀ r k, i < k → k ≤ L.length → rec r k = rec2 r k) (hi : i ≤ L.length) (E0 : rec 2 i = rec2 2 i) : condP L rec i = condP L rec2 i := by
  unfold condP
  rw [← E0]
  refine bnd_cg (fun j x e => ?_)
  have hp := adv_pos (hA 2 i hi) e
  refine ite_cg (fun hc => ?_) (fun _ => rfl)
  have hl := text_lt hc (by decide)
  rw [← E 0 (j + 1) (by omega) hl]
  refine bnd_cg (fun k y e2 => ?_)
  have hp2 := adv_pos (hA 0 (j + 1) hl) e2
  refine bnd_cg (fun q u e3 => ?_)
  have hp3 := adv_pos (adv_need _ [] hp2.2 (by decide)) e3
  rw [E 1 q (by omega) hp3.2]
theorem cg_rowL (hr : ∀ k, i < k → k ≤ L.length → Adv L k (rule k)) (E : ∀ k, i < k → k ≤ L.length → rule k = rule2 k) (ops : List Byts8) (ho : ∀ x ∈ ops, x ≠ []) : ∀ (n : Nat) (x : List Nd) (j : Nat), i < j → j ≤ L.length → rowL L rule ops n x j = rowL L rule2 ops n x j
  | 0, _, _, _, _ => rfl
  | n + 1, x, j, h1, h2 => by
    rw [rowL, rowL]
    refine ite_cg (fun hc => ?_) (fun _ => rfl)
    have hl := con_lt hc ho
    rw [← cg_oper (rule := rule) (rule2 := rule2) (fun k h1 h2 => E k (by omega) h2) hl 15 x]
    refine bnd_cg (fun k y e => ?_)
    have hp := adv_pos (adv_oper (fun k h1 h2 => hr k (by omega) h2) hl) e
    exact cg_rowL hr E ops ho n _ k (by omega) hp.2
theorem cg_row (hA : ∀ r k, k ≤ L.length → Adv L k (rec r k)) (E : ∀ r k, i < k → k ≤ L.length → rec r k = rec2 r k) (hi : i ≤ L.length) (k : Nat) (E0 : rec (3 + k) i = rec2 (3 + k) i) : rowP L rec k i = rowP L rec2 k i := by
  unfold rowP
  rw [← E0]
  refine bnd_cg (fun j x e => ?_)
  have hp := adv_pos (hA _ i hi) e
  exact cg_rowL (fun q h1 h2 => hA _ q h2) (fun q h1 h2 => E _ q h1 h2) _ (ops_ne k) _ _ j hp.1 hp.2
theorem cg_unary (hA : ∀ r k, k ≤ L.length → Adv L k (rec r k)) (E : ∀ r k, i < k → k ≤ L.length → rec r k = rec2 r k) (hi : i ≤ L.length) (E0 : rec 9 i = rec2 9 i) : unaryP L rec i = unaryP L rec2 i := by
  unfold unaryP
  refine ite_cg (fun hc => ?_) (fun _ => E0)
  rw [E 8 (i + 1) (by omega) (con_lt hc (by decide))]
theorem cg_post (hA : ∀ r k, k ≤ L.length → Adv L k (rec r k)) (E : ∀ r k, i < k → k ≤ L.length → rec r k = rec2 r k) (hi : i ≤ L.length) (E0 : rec 10 i = rec2 10 i) : postP L rec i = postP L rec2 i := by
  unfold postP
  rw [E0]
theorem cg_first (hA : ∀ r k, k ≤ L.length → Adv L k (rec r k)) (E : ∀ r k, i < k → k ≤ L.length → rec r k = rec2 r k) (hi : i ≤ L.length) (E0 : rec 11 i = rec2 11 i) : firstP L rec i = firstP L rec2 i := by
  unfold firstP
  refine ite_cg (fun hc => ?_) (fun _ => ?_)
  · rw [E 0 (i + 1) (by omega) (text_lt hc (by decide))]
  refine ite_cg (fun _ => rfl) (fun _ => ?_)
  refine ite_cg (fun _ => rfl) (fun _ => ?_)
  refine ite_cg (fun _ => rfl) (fun _ => ?_)
  exact ite_cg (fun _ => E0) (fun _ => rfl)
theorem cg_call (hA : ∀ r k, k ≤ L.length → Adv L k (rec r k)) (E : ∀ r k, i < k → k ≤ L.length → rec r k = rec2 r k) (hi : i ≤ L.length) : callP L rec i = callP L rec2 i := by
  unfold callP
  refine bnd_cg (fun j t e => ?_)
  have ht := take_inv e
  have hs := (take_some e).2
  have hl : i < L.length := by
    rw [Bool.or_eq_true] at hs
    rcases hs with hs | hs
    · exact name_lt hs
    · exact type_lt hs
  subst ht
  rw [cg_enc (i := i + 1) (fun k h1 h2 => hA 0 k h2) (fun k h1 h2 => E 0 k (by omega) h2) hl]
theorem cg_var (hA : ∀ r k, k ≤ L.length → Adv L k (rec r k)) (E : ∀ r k, i < k → k ≤ L.length → rec r k = rec2 r k) (k : Nat) (hk : i ≤ k) (hkl : k ≤ L.length) : varP L rec k = varP L rec2 k := by
  unfold varP
  refine bnd_cg (fun j t e => ?_)
  have ht := take_inv e
  subst ht
  refine ite_cg (fun hc => ?_) (fun _ => rfl)
  rw [E 0 (k + 1 + 1) (by omega) (text_lt hc (by decide))]
theorem cg_declR (hA : ∀ r k, k ≤ L.length → Adv L k (rec r k)) (E : ∀ r k, i < k → k ≤ L.length → rec r k = rec2 r k) (k : Nat) (hk : i ≤ k) (hkl : k ≤ L.length) (pl : Int) (tx : Byts8) : declR L rec pl tx k = declR L rec2 pl tx k := by
  unfold declR
  refine bnd_cg (fun j t e => ?_)
  have ht := take_inv e
  have hl := type_lt (take_some e).2
  subst ht
  rw [cg_sev (i := k + 1) (rule := varP L rec) (rule2 := varP L rec2) (fun q h1 h2 => adv_var hA h2) (fun q h1 h2 => cg_var hA E q (by omega) h2) hl]
theorem cg_decl (hA : ∀ r k, k ≤ L.length → Adv L k (rec r k)) (E : ∀ r k, i < k → k ≤ L.length → rec r k = rec2 r k) (hi : i ≤ L.length) (ws : List Byts8) (hw : ∀ x ∈ ws, x ≠ []) : declP L rec ws i = declP L rec2 ws i := by
  unfold declP
  refine ite_cg (fun hc => ?_) (fun _ => cg_declR hA E i (Nat.le_refl _) hi _ _)
  exact cg_declR hA E (i + 1) (by omega) (con_lt hc hw) _ _
theorem cg_func (hA : ∀ r k, k ≤ L.length → Adv L k (rec r k)) (E : ∀ r k, i < k → k ≤ L.length → rec r k = rec2 r k) (hi : i ≤ L.length) : funcP L rec i = funcP L rec2 i := by
  unfold funcP
  refine bnd_cg (fun j t e => ?_)
  have ht := take_inv e
  have hl := type_lt (take_some e).2
  subst ht
  refine bnd_cg (fun k u e2 => ?_)
  have hu := take_inv e2
  have hl2 := name_lt (take_some e2).2
  subst hu
  refine bnd_cg (fun q ps e3 => ?_)
  have hp := adv_pos (adv_enc (i := i + 1 + 1) (fun k _ h2 => adv_param h2) hl2) e3
  rw [E 13 q (by omega) hp.2]
theorem cg_blockL (hA : ∀ r k, k ≤ L.length → Adv L k (rec r k)) (E : ∀ r k, i < k → k ≤ L.length → rec r k = rec2 r k) : ∀ (n : Nat) (acc : List (List Nd)) (j : Nat), i < j → j ≤ L.length → blockL L (rec 12) n acc j = blockL L (rec2 12) n acc j
  | 0, _, _, _, _ => rfl
  | n + 1, acc, j, h1, h2 => by
    rw [blockL, blockL]
    refine ite_cg (fun _ => rfl) (fun _ => ?_)
    rw [← E 12 j h1 h2]
    refine bnd_cg (fun k x e => ?_)
    have hp := adv_pos (hA 12 j h2) e
    exact cg_blockL hA E n _ k (by omega) hp.2
theorem cg_block (hA : ∀ r k, k ≤ L.length → Adv L k (rec r k)) (E : ∀ r k, i < k → k ≤ L.length → rec r k = rec2 r k) (hi : i ≤ L.length) : blockP L rec i = blockP L rec2 i := by
  unfold blockP
  refine bnd_cg (fun j u e => ?_)
  have hp := adv_pos (adv_need _ [] hi (by decide)) e
  rw [cg_blockL hA E _ _ j hp.1 hp.2]
theorem cg_branch (hA : ∀ r k, k ≤ L.length → Adv L k (rec r k)) (E : ∀ r k, i < k → k ≤ L.length → rec r k = rec2 r k) (hi : i ≤ L.length) : branchP L rec i = branchP L rec2 i := by
  unfold branchP
  refine bnd_cg (fun j u e => ?_)
  have hp := adv_pos (adv_need _ _ hi (by decide)) e
  rw [← E 0 j hp.1 hp.2]
  refine bnd_cg (fun k x e2 => ?_)
  have hp2 := adv_pos (hA 0 j hp.2) e2
  refine bnd_cg (fun q u e3 => ?_)
  have hp3 := adv_pos (adv_need _ [] hp2.2 (by decide)) e3
  rw [← E 12 q (by omega) hp3.2]
  refine bnd_cg (fun s y e4 => ?_)
  have hp4 := adv_pos (hA 12 q hp3.2) e4
  refine ite_cg (fun hc => ?_) (fun _ => rfl)
  rw [E 12 (s + 1) (by omega) (text_lt hc (by decide))]
theorem cg_leave (hA : ∀ r k, k ≤ L.length → Adv L k (rec r k)) (E : ∀ r k, i < k → k ≤ L.length → rec r k = rec2 r k) (hi : i ≤ L.length) : leaveP L rec i = leaveP L rec2 i := by
  unfold leaveP
  refine bnd_cg (fun j u e => ?_)
  have hp := adv_pos (adv_need _ _ hi (by decide)) e
  refine ite_cg (fun _ => rfl) (fun _ => ?_)
  rw [E 0 j hp.1 hp.2]
theorem cg_loop (hA : ∀ r k, k ≤ L.length → Adv L k (rec r k)) (E : ∀ r k, i < k → k ≤ L.length → rec r k = rec2 r k) (hi : i ≤ L.length) (hk : TokOk L) : loopP L rec i = loopP L rec2 i := by
  unfold loopP
  refine bnd_cg (fun j _ e => ?_)
  have hp := adv_pos (adv_need _ _ hi (by decide)) e
  refine bnd_cg (fun k t e2 => ?_)
  have ht := take_inv e2
  have hs := take_some e2
  have hl := name_lt hs.2
  have hne : t.text ≠ [] := by rw [hs.1]; exact (hk j).2 hs.2
  subst ht
  refine bnd_cg (fun q _ e3 => ?_)
  have hp3 := adv_pos (adv_need _ [] hl (by decide)) e3
  refine bnd_cg (fun s x e4 => ?_)
  have hp4 := adv_pos (adv_bound hp3.2) e4
  refine bnd_cg (fun u _ e5 => ?_)
  have hp5 := adv_pos (adv_need _ _ hp4.2 (by
    intro x hx
    simp only [List.mem_cons, List.not_mem_nil, or_false] at hx
    rcases hx with rfl | rfl | rfl
    · decide
    · exact hne
    · decide)) e5
  refine bnd_cg (fun v y e6 => ?_)
  have hp6 := adv_pos (adv_bound hp5.2) e6
  refine bnd_cg (fun z _ e7 => ?_)
  have hp7 := adv_pos (adv_need _ _ hp6.2 (by
    intro x hx
    simp only [List.mem_cons, List.not_mem_nil, or_false] at hx
    rcases hx with rfl | rfl | rfl | rfl
    · decide
    · exact hne
    · decide
    · decide)) e7
  rw [E 12 z (by omega) hp7.2]
theorem cg_stmt (hA : ∀ r k, k ≤ L.length → Adv L k (rec r k)) (E : ∀ r k, i < k → k ≤ L.length → rec r k = rec2 r k) (hi : i ≤ L.length) (E0 : ∀ r, r = 0 ∨ 13 ≤ r → rec r i = rec2 r i) : stmtP L rec i = stmtP L rec2 i := by
  unfold stmtP
  refine ite_cg (fun _ => E0 13 (by omega)) (fun _ => ?_)
  refine ite_cg (fun _ => E0 14 (by omega)) (fun _ => ?_)
  refine ite_cg (fun _ => E0 15 (by omega)) (fun _ => ?_)
  refine ite_cg (fun _ => E0 16 (by omega)) (fun _ => ?_)
  refine ite_cg (fun _ => rfl) (fun _ => ?_)
  refine ite_cg (fun _ => rfl) (fun _ => ?_)
  refine ite_cg (fun _ => cg_decl hA E hi _ (by decide)) (fun _ => ?_)
  rw [E0 0 (by omega)]
/-- The rank of a rule: at one place a rule calls lower ones alone. -/
def rk (r : Nat) : Nat := if r ≤ 11 then 12 - r else if r = 12 then 13 else 0
theorem cg_rule (hA : ∀ r k, k ≤ L.length → Adv L k (rec r k)) (E : ∀ r k, i < k → k ≤ L.length → rec r k = rec2 r k) (hi : i ≤ L.length) (hk : TokOk L) (r : Nat) (E0 : ∀ q, rk q < rk r → rec q i = rec2 q i) : ruleP L rec r i = ruleP L rec2 r i := by
  unfold ruleP
  split
  · exact cg_expr hA E hi (E0 1 (by decide))
  · exact cg_cond hA E hi (E0 2 (by decide))
  · exact cg_row hA E hi 0 (E0 3 (by decide))
  · exact cg_row hA E hi 1 (E0 4 (by decide))
  · exact cg_row hA E hi 2 (E0 5 (by decide))
  · exact cg_row hA E hi 3 (E0 6 (by decide))
  · exact cg_row hA E hi 4 (E0 7 (by decide))
  · exact cg_row hA E hi 5 (E0 8 (by decide))
  · exact cg_unary hA E hi (E0 9 (by decide))
  · exact cg_post hA E hi (E0 10 (by decide))
  · exact cg_first hA E hi (E0 11 (by decide))
  · exact cg_call hA E hi
  · refine cg_stmt hA E hi (fun q hq => E0 q ?_)
    unfold rk
    rcases hq with rfl | hq
    · decide
    · rw [if_neg (by omega), if_neg (by omega)]
      decide
  · exact cg_block hA E hi
  · exact cg_branch hA E hi
  · exact cg_loop hA E hi hk
  · exact cg_leave hA E hi
end
/-- More fuel than enough changes nothing. -/
theorem rk_le (r : Nat) : rk r ≤ 13 := by
  unfold rk
  split
  · omega
  · split <;> omega
theorem fuel_eq {L : List Tok} (hk : TokOk L) : ∀ (f g r i : Nat), i ≤ L.length → 20 * (L.length - i) + rk r < f → 20 * (L.length - i) + rk r < g → goP L f r i = goP L g r i
  | 0, _, _, _, _, h, _ => absurd h (by omega)
  | _, 0, _, _, _, _, h => absurd h (by omega)
  | f + 1, g + 1, r, i, hi, hf, hg => by
    rw [goP, goP]
    refine cg_rule (fun r k h => adv_go hk f r k h) (fun q k h1 h2 => ?_) hi hk r (fun q hq => ?_)
    · have := rk_le q
      exact fuel_eq hk f g q k h2 (by omega) (by omega)
    · exact fuel_eq hk f g q i hi (by omega) (by omega)
/-- What a rule reads, with fuel enough. -/
def idl (L : List Tok) (r i : Nat) : Rp := goP L (20 * (L.length - i) + 20) r i
theorem go_idl {L : List Tok} (hk : TokOk L) {f r i : Nat} (hi : i ≤ L.length) (hf : 20 * (L.length - i) + rk r < f) : goP L f r i = idl L r i := fuel_eq hk _ _ r i hi hf (by have := rk_le r; omega)
theorem idl_adv {L : List Tok} (hk : TokOk L) (r i : Nat) (hi : i ≤ L.length) : Adv L i (idl L r i) := adv_go hk _ r i hi
theorem idl_rule {L : List Tok} (hk : TokOk L) (r i : Nat) (hi : i ≤ L.length) : idl L r i = ruleP L (idl L) r i := by
  have e : idl L r i = ruleP L (goP L (20 * (L.length - i) + 19)) r i := rfl
  rw [e]
  refine cg_rule (fun r k h => adv_go hk _ r k h) (fun q k h1 h2 => ?_) hi hk r (fun q hq => ?_)
  · have := rk_le q
    exact go_idl hk h2 (by omega)
  · have := rk_le r
    exact go_idl hk hi (by omega)
/-- A call takes its name. -/
theorem idl_call {L : List Tok} (hk : TokOk L) (i : Nat) (hi : i ≤ L.length) : ((isNm L i || isTypeW (tk L i).text) = true → i + 1 ≤ (idl L 11 i).1) ∧ ((isNm L i || isTypeW (tk L i).text) = false → idl L 11 i = (i, none)) := by
  rw [idl_rule hk 11 i hi]
  show (_ → i + 1 ≤ (callP L (idl L) i).1) ∧ (_ → callP L (idl L) i = (i, none))
  unfold callP
  refine ⟨fun h => ?_, fun h => by rw [h]; rfl⟩
  have hl : i < L.length := by
    rw [Bool.or_eq_true] at h
    rcases h with h | h
    · exact name_lt h
    · exact type_lt h
  rw [h]
  exact (lea_bnd (L := L) (i := i + 1) (r := (i + 1, some (tk L i))) ⟨Nat.le_refl _, hl⟩ (fun j t e hj => lea_bnd (adv_enc (fun k _ h2 => idl_adv hk 0 k h2) hj).1 (fun k l _ hk => lea_here _ hk))).1
theorem fst_bnd {A B : Type} {L : List Tok} {r : Nat × Option A} {f : Nat → A → Nat × Option B} {i n : Nat} (h : n ≤ r.1) (hl : r.1 ≤ L.length) (hf : ∀ j a, j ≤ L.length → Lea L j (f j a)) : n ≤ (bnd r f).1 := by
  obtain ⟨j, o⟩ := r
  cases o with
  | none => exact h
  | some a => exact Nat.le_trans h (hf j a hl).1
/-- So does an expression that begins with a call of a type's word. -/
theorem idl_expr {L : List Tok} (hk : TokOk L) (i : Nat) (hi : i ≤ L.length) (ht : isTypeW (tk L i).text = true) : i + 1 ≤ (idl L 0 i).1 := by
  have hA := idl_adv hk
  have hAA : ∀ r k, k ≤ L.length → Adv L k (idl L r k) := fun r k h => hA r k h
  have hil := type_lt ht
  have h11 := (idl_call hk i hi).1 (by rw [ht, Bool.or_true])
  have h10 : i + 1 ≤ (idl L 10 i).1 := by
    rw [idl_rule hk 10 i hi]
    show i + 1 ≤ (firstP L (idl L) i).1
    unfold firstP
    split
    · rename_i hc
      exact absurd ht (by rw [hc]; decide)
    split
    · exact Nat.le_refl _
    split
    · exact Nat.le_refl _
    split
    · exact Nat.le_refl _
    rw [if_pos (.inl ht)]
    exact h11
  have h9 : i + 1 ≤ (idl L 9 i).1 := by
    rw [idl_rule hk 9 i hi]
    exact fst_bnd (L := L) (i := i) h10 (hA 10 i hi).1.2 (fun j a hj => lea_postL _ _ hj)
  have h8 : i + 1 ≤ (idl L 8 i).1 := by
    rw [idl_rule hk 8 i hi]
    show i + 1 ≤ (unaryP L (idl L) i).1
    unfold unaryP
    split
    · rename_i hc
      exact fst_bnd (L := L) (i := i) (hA 8 (i + 1) hil).1.1 (hA 8 (i + 1) hil).1.2 (fun j a hj => lea_here _ hj)
    · exact h9
  have hrow : ∀ k, k ≤ 5 → i + 1 ≤ (idl L (3 + k) i).1 → i + 1 ≤ (rowP L (idl L) k i).1 := fun k _ h => fst_bnd (L := L) (i := i) h (hA (3 + k) i hi).1.2 (fun j a hj => lea_rowL (fun q hq => hA _ q hq) (ops_ne k) _ _ hj)
  have h7 : i + 1 ≤ (idl L 7 i).1 := by rw [idl_rule hk 7 i hi]; exact hrow 5 (by omega) h8
  have h6 : i + 1 ≤ (idl L 6 i).1 := by rw [idl_rule hk 6 i hi]; exact hrow 4 (by omega) h7
  have h5 : i + 1 ≤ (idl L 5 i).1 := by rw [idl_rule hk 5 i hi]; exact hrow 3 (by omega) h6
  have h4 : i + 1 ≤ (idl L 4 i).1 := by rw [idl_rule hk 4 i hi]; exact hrow 2 (by omega) h5
  have h3 : i + 1 ≤ (idl L 3 i).1 := by rw [idl_rule hk 3 i hi]; exact hrow 1 (by omega) h4
  have h2 : i + 1 ≤ (idl L 2 i).1 := by rw [idl_rule hk 2 i hi]; exact hrow 0 (by omega) h3
  have h1 : i + 1 ≤ (idl L 1 i).1 := by
    rw [idl_rule hk 1 i hi]
    refine fst_bnd (L := L) (i := i) h2 (hA 2 i hi).1.2 (fun j x hj => ?_)
    split
    · rename_i hc
      have hl := text_lt hc (by decide)
      exact (lea_bnd (hA 0 (j + 1) hl).1 (fun k y _ hk2 => lea_bnd (lea_need _ hk2 (by decide)) (fun q _ _ hq => lea_bnd (hA 1 q hq).1 (fun s z _ hs => lea_here _ hs)))).mono (Nat.le_succ _)
    · exact lea_here _ hj
  rw [idl_rule hk 0 i hi]
  refine fst_bnd (L := L) (i := i) h1 (hA 1 i hi).1.2 (fun j x hj => ?_)
  split
  · rename_i hc
    rw [Bool.and_eq_true] at hc
    exact (adv_oper (fun k _ h2 => hA 0 k h2) (con_lt hc.2 (by decide))).1
  · exact lea_here _ hj
theorem tokOk_take {L : List Tok} (hk : TokOk L) (m : Nat) : TokOk (L.take m) := fun k => by
  by_cases h : k < m
  · have e := tk_take (L := L) h
    refine ⟨by rw [e]; exact (hk k).1, fun hn => ?_⟩
    rw [e]
    have hn2 : isNm L k = true := by
      unfold isNm at hn ⊢
      rw [e] at hn
      exact hn
    exact (hk k).2 hn2
  · have e := tk_end (L := L) (m := m) (k := k) (by omega)
    refine ⟨by rw [e]; unfold I32; decide, fun hn => ?_⟩
    unfold isNm at hn
    rw [e] at hn
    exact absurd hn (by decide)
/-- Every rule reads of a beginning what it reads of all, or stands at its end. -/
theorem loc_idl {L : List Tok} (hk : TokOk L) {m : Nat} (hm : m ≤ L.length) : ∀ (n r i : Nat), 20 * (L.length - i) + rk r < n → Avr L m i (idl L r i) (idl (L.take m) r i)
  | 0, _, _, h => absurd h (by omega)
  | n + 1, r, i, h => by
    by_cases hi : i ≤ L.length
    · have hkm := tokOk_take hk m
      by_cases him : i ≤ m
      · -- the rules that are called, and nothing beside them
        let ok : Nat → Nat → Bool := fun q k => decide (i < k) || (decide (k = i) && decide (rk q < rk r))
        let rT : Nat → Nat → Rp := fun q k => if ok q k = true then idl L q k else (k, none)
        let rT' : Nat → Nat → Rp := fun q k => if ok q k = true then idl (L.take m) q k else (k, none)
        have hR : ∀ q k, Avr L m k (rT q k) (rT' q k) := fun q k => by
          show Avr L m k (if ok q k = true then idl L q k else (k, none)) (if ok q k = true then idl (L.take m) q k else (k, none))
          by_cases hc : ok q k = true
          · rw [if_pos hc, if_pos hc]
            by_cases hkl : k ≤ L.length
            · refine loc_idl hk hm n q k ?_
              have := rk_le q
              simp only [ok, Bool.or_eq_true, Bool.and_eq_true, decide_eq_true_eq] at hc
              rcases hc with hc | ⟨rfl, hc⟩
              · omega
              · omega
            · exact ⟨fun h => absurd h hkl, fun h => absurd h (by omega)⟩
          · rw [if_neg hc, if_neg hc]
            exact avr_no hm
        have hgt : ∀ q k, i < k → rT q k = idl L q k := fun q k h => by
          show (if ok q k = true then idl L q k else (k, none)) = _
          rw [if_pos (by simp [ok, h])]
        have hgt' : ∀ q k, i < k → rT' q k = idl (L.take m) q k := fun q k h => by
          show (if ok q k = true then idl (L.take m) q k else (k, none)) = _
          rw [if_pos (by simp [ok, h])]
        have heq : ∀ q, rk q < rk r → rT q i = idl L q i := fun q h => by
          show (if ok q i = true then idl L q i else (i, none)) = _
          rw [if_pos (by simp [ok, h])]
        have heq' : ∀ q, rk q < rk r → rT' q i = idl (L.take m) q i := fun q h => by
          show (if ok q i = true then idl (L.take m) q i else (i, none)) = _
          rw [if_pos (by simp [ok, h])]
        have e1 : ruleP L rT r i = idl L r i := by
          rw [idl_rule hk r i hi]
          exact cg_rule (fun q k h => (hR q k).1 h) (fun q k h1 _ => hgt q k h1) hi hk r (fun q hq => heq q hq)
        have e2 : ruleP (L.take m) rT' r i = idl (L.take m) r i := by
          rw [idl_rule hkm r i (by rw [len_take hm]; exact him)]
          exact cg_rule (fun q k h => ((hR q k).2 (by rw [len_take hm] at h; exact h)).1) (fun q k h1 _ => hgt' q k h1) (by rw [len_take hm]; exact him) hkm r (fun q hq => heq' q hq)
        rw [← e1, ← e2]
        refine loc_rule hm hR hk r ⟨fun hr => ?_, fun hr ht h4 => ?_⟩
        · subst hr
          rw [heq 11 (by decide)]
          have hc := idl_call hk i hi
          exact ⟨fun hn => hc.1 (by rw [hn]; rfl), fun hn ht => hc.2 (by rw [hn, ht]; rfl)⟩
        · subst hr
          rw [heq 0 (by decide)]
          exact idl_expr hk i hi ht
      · exact ⟨fun h => idl_adv hk r i h, fun h => absurd h him⟩
    · exact ⟨fun h => absurd h hi, fun h => absurd h (by omega)⟩
theorem loc_all {L : List Tok} (hk : TokOk L) {m : Nat} (hm : m ≤ L.length) (r i : Nat) : Avr L m i (idl L r i) (idl (L.take m) r i) := loc_idl hk hm _ r i (Nat.lt_succ_self _)
end Go.Proofs.YtnmieoojjnipkaaGreat

/-
  What a shader's beginning is read as: the same, or it goes on where it ends.
-/
namespace Go.Proofs.YtnmieoojjnipkaaGreat
set_option linter.unusedVariables false
set_option linter.unusedSimpArgs false

theorem bnd_at {A B : Type} (q : Nat) (a : A) (f : Nat → A → Nat × Option B) : bnd (q, some a) f = f q a := rfl
theorem need_one (N : List Tok) (t : Byts8) (j : Nat) : needP N [t] j = if (tk N j).text = t then (j + 1, some ()) else (j, none) := by rw [needP, needP]
def LocC {A : Type} (m : Nat) (r r' : Nat × Option A) : Prop := r' = r ∨ (r' = (m, none) ∧ m ≤ r.1)
section
variable {A B : Type} {L : List Tok} {m i : Nat} {r r' : Nat × Option A}
theorem lc_bnd {f f' : Nat → A → Nat × Option B} (hm : m ≤ L.length) (hi : i ≤ m) (h : Res L m i r r') (F : Nat → A → Prop) (hF : ∀ j a, r = (j, some a) → F j a) (hF' : ∀ j a, r' = (j, some a) → F j a) (hf : ∀ j a, F j a → j ≤ m → LocC m (f j a) (f' j a)) (hend : ∀ a, F m a → f' m a = (m, none)) (hle : ∀ j a, F j a → j ≤ L.length → Lea L j (f j a)) : LocC m (bnd r f) (bnd r' f') := by
  have hl := h.1 (by omega)
  obtain ⟨hl', hc⟩ := h.2 hi
  have hlm := hl'.2
  rw [len_take hm] at hlm
  rcases hc with hc | ⟨h1, h2⟩
  · subst hc
    obtain ⟨j, o⟩ := r'
    cases o with
    | none => exact .inl rfl
    | some a => exact hf j a (hF' j a rfl) hlm
  · refine .inr ⟨?_, ?_⟩
    · obtain ⟨j, o⟩ := r'
      simp only at h1
      subst h1
      cases o with
      | none => rfl
      | some a => exact hend a (hF' j a rfl)
    · obtain ⟨k, o⟩ := r
      cases o with
      | none => exact h2
      | some a => exact Nat.le_trans h2 (hle k a (hF k a rfl) hl.2).1
theorem need_end (hm : m ≤ L.length) (t : Byts8) (ts : List Byts8) (ht : t ≠ []) : needP (L.take m) (t :: ts) m = (m, none) := by
  rw [needP, tk_end (Nat.le_refl _), if_neg (fun h => ht h.symm)]
theorem lc_need (hm : m ≤ L.length) (t : Byts8) (ht : t ≠ []) (v : A) (j : Nat) (hj : j ≤ m) : LocC m (bnd (needP L [t] j) fun q _ => (q, some v)) (bnd (needP (L.take m) [t] j) fun q _ => (q, some v)) := by
  by_cases hlt : j < m
  · rw [need_one, need_one, tk_take hlt]
    by_cases hc : (tk L j).text = t
    · rw [if_pos hc]
      exact .inl rfl
    · rw [if_neg hc]
      exact .inl rfl
  · obtain rfl : j = m := by omega
    rw [need_end hm t [] ht]
    exact .inr ⟨rfl, (lea_bnd (lea_need (L := L) [t] hm (by intro x hx; rw [List.mem_singleton] at hx; exact hx ▸ ht) |>.mono (Nat.le_refl _)) (fun q _ _ hq => lea_here _ hq)).1⟩
end
section
variable {L : List Tok} {m : Nat} {rec rec' : Nat → Nat → Rp}
theorem takes_end (hm : m ≤ L.length) (may : Tok → Bool) (hn : may noTok = false) : takeP (L.take m) (may (tk (L.take m) m)) m = (m, none) := by
  rw [tk_end (Nat.le_refl _), hn]
  rfl
theorem lc_declR (hm : m ≤ L.length) (R : ∀ r k, Avr L m k (rec r k) (rec' r k)) (pl : Int) (tx : Byts8) (i : Nat) (hi : i ≤ m) : LocC m (declR L rec pl tx i) (declR (L.take m) rec' pl tx i) := by
  have hA : ∀ r k, k ≤ L.length → Adv L k (rec r k) := fun r k h => (R r k).1 h
  have hA' : ∀ r k, k ≤ (L.take m).length → Adv (L.take m) k (rec' r k) := fun r k hk => ((R r k).2 (by rw [len_take hm] at hk; exact hk)).1
  unfold declR
  refine lc_bnd hm hi (avr_take hm (fun t => isTypeW t.text) (by decide)).res (fun _ _ => True) (fun _ _ _ => trivial) (fun _ _ _ => trivial) (fun j t _ hj => ?_) (fun t _ => ?_) (fun j t _ hj => ?_)
  · exact lc_bnd hm hj (loc_sev hm (loc_var hm R) j).res (fun _ _ => True) (fun _ _ _ => trivial) (fun _ _ _ => trivial) (fun q vs _ hq => lc_need hm _ (by decide) _ q hq) (fun vs _ => by rw [need_end hm _ _ (by decide)]; rfl) (fun q vs _ hq => lea_bnd (lea_need _ hq (by decide)) (fun s _ _ hs => lea_here _ hs))
  · have h9 := (adv_sev (L := L.take m) (i := m) (fun k _ hk => adv_var hA' hk) (by rw [len_take hm]; omega)).1
    cases hq : sevP (L.take m) (varP (L.take m) rec') m with
    | mk q o =>
      rw [hq] at h9
      have h8 := h9.2
      rw [len_take hm] at h8
      obtain rfl : q = m := Nat.le_antisymm h8 h9.1
      cases o with
      | none => rfl
      | some vs =>
        rw [bnd_at, need_end hm _ _ (by decide)]
        rfl
  · exact lea_bnd (adv_sev (fun k _ hk => adv_var hA hk) hj).1 (fun q l _ hq => lea_bnd (lea_need _ hq (by decide)) (fun s _ _ hs => lea_here _ hs))
theorem lc_decl (hm : m ≤ L.length) (R : ∀ r k, Avr L m k (rec r k) (rec' r k)) (ws : List Byts8) (hw : ∀ x ∈ ws, x ≠ []) (i : Nat) (hi : i ≤ m) : LocC m (declP L rec ws i) (declP (L.take m) rec' ws i) := by
  by_cases hlt : i < m
  · unfold declP
    rw [tk_take hlt]
    by_cases hc : ws.contains (tk L i).text = true
    · rw [if_pos hc, if_pos hc]
      exact lc_declR hm R _ _ (i + 1) hlt
    · rw [if_neg hc, if_neg hc]
      exact lc_declR hm R _ _ i hi
  · obtain rfl : i = m := by omega
    refine .inr ⟨?_, (adv_decl (fun r k hk => (R r k).1 hk) hm hw).1.1⟩
    unfold declP
    have hw2 : ws.contains (tk (L.take i) i).text = false := by
      rw [tk_end (Nat.le_refl _), Bool.eq_false_iff]
      intro h
      exact hw [] (by simpa [noTok] using h) rfl
    rw [hw2, if_neg (by decide)]
    unfold declR
    rw [takes_end hm (fun t => isTypeW t.text) (by decide)]
    rfl
theorem blockL_end (hm : m ≤ L.length) (rule : Nat → Rp) (hr : (rule m).1 = m) : ∀ (n : Nat) (acc : List (List Nd)), blockL (L.take m) rule n acc m = (m, none)
  | 0, acc => rfl
  | n + 1, acc => by
    rw [blockL, tk_end (Nat.le_refl _), if_neg (by decide)]
    obtain ⟨o, ho⟩ : ∃ o, rule m = (m, o) := ⟨(rule m).2, Prod.ext hr rfl⟩
    rw [ho]
    cases o with
    | none => rfl
    | some x => rw [bnd_at]; exact blockL_end hm rule hr n _
theorem lc_blockL (hm : m ≤ L.length) (R : ∀ r k, Avr L m k (rec r k) (rec' r k)) : ∀ (n n' : Nat) (acc : List (List Nd)) (i : Nat), i ≤ m → L.length - i < n → m - i < n' → LocC m (blockL L (rec 12) n acc i) (blockL (L.take m) (rec' 12) n' acc i)
  | 0, _, acc, i, _, h, _ => absurd h (by omega)
  | _, 0, acc, i, _, _, h => absurd h (by omega)
  | n + 1, n' + 1, acc, i, hi, h, h' => by
    have hend : ((rec' 12) m).1 = m := by
      have h9 := ((R 12 m).2 (Nat.le_refl _)).1.1
      have h8 := h9.2
      rw [len_take hm] at h8
      exact Nat.le_antisymm h8 h9.1
    by_cases hlt : i < m
    · rw [blockL, blockL, tk_take hlt]
      by_cases hc : (tk L i).text = [125]
      · rw [if_pos hc, if_pos hc]
        exact .inl rfl
      · rw [if_neg hc, if_neg hc]
        have ha := (R 12 i).1 (by omega)
        have ha' := ((R 12 i).2 hi).1
        refine lc_bnd hm hi (R 12 i).res (fun j _ => i < j) (fun j a e => (adv_pos ha e).1) (fun j a e => (adv_pos ha' e).1) (fun j x hj hjm => lc_blockL hm R n n' _ j hjm (by omega) (by omega)) (fun x _ => blockL_end hm _ hend _ _) (fun j x _ hj => lea_blockL (fun r k hk => (R r k).1 hk) _ _ hj)
    · obtain rfl : i = m := by omega
      exact .inr ⟨blockL_end hm _ hend _ _, (lea_blockL (L := L) (fun r k hk => (R r k).1 hk) _ _ hm).1⟩
theorem lc_blockP (hm : m ≤ L.length) (R : ∀ r k, Avr L m k (rec r k) (rec' r k)) (i : Nat) (hi : i ≤ m) : LocC m (blockP L rec i) (blockP (L.take m) rec' i) := by
  unfold blockP
  have hend : ((rec' 12) m).1 = m := by
    have h9 := ((R 12 m).2 (Nat.le_refl _)).1.1
    have h8 := h9.2
    rw [len_take hm] at h8
    exact Nat.le_antisymm h8 h9.1
  by_cases hlt : i < m
  · refine lc_bnd hm hi (avr_need hm _ [] (by decide)).res (fun j _ => i < j) (fun j a e => (adv_pos (adv_need _ [] (by omega) (by decide)) e).1) (fun j a e => (adv_pos (adv_need _ [] (by rw [len_take hm]; exact hi) (by decide)) e).1) (fun j _ hj hjm => ?_) (fun _ _ => by rw [blockL_end hm _ hend]; rfl) (fun j _ _ hj => lea_bnd (lea_blockL (fun r k hk => (R r k).1 hk) _ _ hj) (fun q l _ hq => lea_here _ hq))
    have hb := lc_blockL hm R (L.length + 1) ((L.take m).length + 1) [] j hjm (by omega) (by rw [len_take hm]; omega)
    rcases hb with hb | ⟨hb, hb2⟩
    · rw [hb, tk_take hlt]
      exact .inl rfl
    · rw [hb]
      refine .inr ⟨rfl, ?_⟩
      cases hq : blockL L (rec 12) (L.length + 1) [] j with
      | mk q o =>
        rw [hq] at hb2
        cases o with
        | none => exact hb2
        | some l => exact hb2
  · obtain rfl : i = m := by omega
    rw [need_end hm _ _ (by decide)]
    refine .inr ⟨rfl, ?_⟩
    exact (adv_block (fun r k hk => (R r k).1 hk) hm).1.1
end
section
variable {L : List Tok} {m : Nat}
theorem lc_block (hk : TokOk L) (hm : m ≤ L.length) (j : Nat) (hj : j ≤ m) : LocC m (idl L 13 j) (idl (L.take m) 13 j) := by
  rw [idl_rule hk 13 j (by omega), idl_rule (tokOk_take hk m) 13 j (by rw [len_take hm]; exact hj)]
  exact lc_blockP hm (loc_all hk hm) j hj
theorem lc_func (hk : TokOk L) (hm : m ≤ L.length) (i : Nat) (hi : i ≤ m) : LocC m (funcP L (idl L) i) (funcP (L.take m) (idl (L.take m)) i) := by
  have hkm := tokOk_take hk m
  have hA := idl_adv hk
  have hA' := idl_adv hkm
  by_cases hlt : i < m
  · unfold funcP
    have hbe : idl (L.take m) 13 m = (m, none) := by
      rcases lc_block hk hm m (Nat.le_refl _) with h | h
      · rw [idl_rule hkm 13 m (by rw [len_take hm]; omega)]
        show blockP _ _ _ = _
        unfold blockP
        rw [need_end hm _ _ (by decide)]
        rfl
      · exact h.1
    have henc : ∀ j, j ≤ m → LocC m (bnd (encP L (paramP L) j) fun k ps => bnd (idl L 13 k) fun q b => (q, some (ps, b))) (bnd (encP (L.take m) (paramP (L.take m)) j) fun k ps => bnd (idl (L.take m) 13 k) fun q b => (q, some (ps, b))) := fun j hj => by
      refine lc_bnd hm hj (loc_enc hm (loc_param hm) j).res (fun _ _ => True) (fun _ _ _ => trivial) (fun _ _ _ => trivial) (fun k ps _ hkm2 => ?_) (fun ps _ => by rw [hbe]; rfl) (fun k ps _ hk2 => lea_bnd (hA 13 k hk2).1 (fun q b _ hq => lea_here _ hq))
      rcases lc_block hk hm k hkm2 with h | ⟨h, h2⟩
      · rw [h]; exact .inl rfl
      · rw [h]
        refine .inr ⟨rfl, ?_⟩
        cases hq : idl L 13 k with
        | mk q o => rw [hq] at h2; cases o with
          | none => exact h2
          | some b => exact h2
    have key : ∀ (N : List Tok) (rc : Nat → Nat → Rp) (j : Nat) (ty tx : Byts8) (pl : Int), (bnd (encP N (paramP N) j) fun k ps => bnd (rc 13 k) fun q b => (q, some (mkN 4 ty tx 0 pl (ps ++ [b])))) = bnd (bnd (encP N (paramP N) j) fun k ps => bnd (rc 13 k) fun q b => (q, some (ps, b))) (fun q z => (q, some (mkN 4 ty tx 0 pl (z.1 ++ [z.2])))) := by
      intro N rc j ty tx pl
      cases he : encP N (paramP N) j with
      | mk k o =>
        cases o with
        | none => rfl
        | some ps =>
          rw [bnd_at, bnd_at]
          cases hb : rc 13 k with
          | mk q o2 => cases o2 <;> rfl
    have hmap : ∀ {X Y : Type} {s s' : Nat × Option X} (g : X → Y), LocC m s s' → LocC m (bnd s fun q z => (q, some (g z))) (bnd s' fun q z => (q, some (g z))) := by
      intro X Y s s' g h
      rcases h with rfl | ⟨rfl, h2⟩
      · exact .inl rfl
      · refine .inr ⟨rfl, ?_⟩
        obtain ⟨q, o⟩ := s
        cases o with
        | none => exact h2
        | some z => exact h2
    have hin : ∀ (t u : Tok) (j : Nat), j ≤ m → LocC m (bnd (encP L (paramP L) j) fun k ps => bnd (idl L 13 k) fun q b => (q, some (mkN 4 t.text u.text 0 (tk L i).place (ps ++ [b])))) (bnd (encP (L.take m) (paramP (L.take m)) j) fun k ps => bnd (idl (L.take m) 13 k) fun q b => (q, some (mkN 4 t.text u.text 0 (tk (L.take m) i).place (ps ++ [b])))) := fun t u j hj => by
      rw [key, key, tk_take hlt]
      exact hmap _ (henc j hj)
    have hencE : encP (L.take m) (paramP (L.take m)) m = (m, none) := by
      unfold encP
      rw [need_end hm _ _ (by decide)]
      rfl
    refine lc_bnd hm hi (avr_take hm (fun t => isTypeW t.text) (by decide)).res (fun _ _ => True) (fun _ _ _ => trivial) (fun _ _ _ => trivial) (fun j t _ hj => ?_) (fun t _ => ?_) (fun j t _ hj => ?_)
    · refine lc_bnd hm hj (avr_take hm (fun t => decide (t.kind = 1) && !isResW t.text) (by decide)).res (fun _ _ => True) (fun _ _ _ => trivial) (fun _ _ _ => trivial) (fun k u _ hk2 => hin t u k hk2) (fun u _ => by rw [hencE]; rfl) (fun k u _ hk2 => lea_bnd (adv_enc (fun q _ h2 => adv_param h2) hk2).1 (fun q ps _ hq => lea_bnd (hA 13 q hq).1 (fun s b _ hs => lea_here _ hs)))
    · show bnd (takeP (L.take m) (isNm (L.take m) m) m) _ = _
      have h9 : takeP (L.take m) (isNm (L.take m) m) m = (m, none) := takes_end hm (fun t => decide (t.kind = 1) && !isResW t.text) (by decide)
      rw [h9]
      rfl
    · exact lea_bnd (adv_take hj (fun h => name_lt h)).1 (fun k u _ hk2 => lea_bnd (adv_enc (fun q _ h2 => adv_param h2) hk2).1 (fun q ps _ hq => lea_bnd (hA 13 q hq).1 (fun s b _ hs => lea_here _ hs)))
  · obtain rfl : i = m := by omega
    refine .inr ⟨?_, (adv_func (fun r k h => hA r k h) hm).1.1⟩
    unfold funcP
    rw [takes_end hm (fun t => isTypeW t.text) (by decide)]
    rfl
end
end Go.Proofs.YtnmieoojjnipkaaGreat

/-
  Shaders, cut off: each beginning is one, or is wrong at its end; what is wrong is wrong whatever stands behind.
-/
namespace Go.Proofs.YtnmieoojjnipkaaGreat
set_option linter.unusedVariables false
set_option linter.unusedSimpArgs false

theorem type_outer {t : Byts8} (h : isTypeW t = true) : outerW.contains t = false := by
  rw [Bool.eq_false_iff]
  intro hc
  have hm : t ∈ outerW := by simpa using hc
  have hall : ∀ x ∈ outerW, isTypeW x = false := by decide
  rw [hall t hm] at h
  cases h
def itemP (N : List Tok) (rc : Nat → Nat → Rp) (i : Nat) : Rp := if (isTypeW (tk N i).text && (tk N (i + 2)).text == [40]) = true then funcP N rc i else declP N rc outerW i
theorem item_adv {L : List Tok} (hk : TokOk L) (i : Nat) (hi : i ≤ L.length) : Adv L i (itemP L (idl L) i) := by
  unfold itemP
  split
  · exact adv_func (fun r k h => idl_adv hk r k h) hi
  · exact adv_decl (fun r k h => idl_adv hk r k h) hi (by decide)
section
variable {L : List Tok} {m : Nat}
theorem var_end {rec' : Nat → Nat → Rp} (hm : m ≤ L.length) (hA' : ∀ r k, k ≤ (L.take m).length → Adv (L.take m) k (rec' r k)) (ty tx : Byts8) (pl : Int) : (bnd (sevP (L.take m) (varP (L.take m) rec') m) fun q vs => bnd (needP (L.take m) [[59]] q) fun s _ => (s, some (mkN 2 ty tx 0 pl vs))) = (m, none) := by
  have h9 := (adv_sev (L := L.take m) (i := m) (fun k _ hk => adv_var hA' hk) (by rw [len_take hm]; omega)).1
  obtain ⟨o, ho⟩ : ∃ o, sevP (L.take m) (varP (L.take m) rec') m = (m, o) := ⟨_, Prod.ext (by have h8 := h9.2; rw [len_take hm] at h8; exact Nat.le_antisymm h8 h9.1) rfl⟩
  rw [ho]
  cases o with
  | none => rfl
  | some vs =>
    rw [bnd_at, need_end hm _ _ (by decide)]
    rfl
theorem lc_item (hk : TokOk L) (hm : m ≤ L.length) (i : Nat) (hlt : i < m) : LocC m (itemP L (idl L) i) (itemP (L.take m) (idl (L.take m)) i) := by
  have hkm := tokOk_take hk m
  have hA := idl_adv hk
  have hA' : ∀ r k, k ≤ (L.take m).length → Adv (L.take m) k (idl (L.take m) r k) := fun r k h => idl_adv hkm r k h
  have hF := lc_func hk hm i (by omega)
  have hD := lc_decl hm (loc_all hk hm) outerW (by decide) i (by omega)
  unfold itemP
  have e0 := tk_take (L := L) hlt
  by_cases h2 : i + 2 < m
  · rw [tk_take h2, e0]
    by_cases hc : (isTypeW (tk L i).text && (tk L (i + 2)).text == [40]) = true
    · rw [if_pos hc, if_pos hc]; exact hF
    · rw [if_neg hc, if_neg hc]; exact hD
  · have e2 : tk (L.take m) (i + 2) = noTok := tk_end (by omega)
    rw [e2, if_neg (show ¬ (isTypeW (tk (L.take m) i).text && noTok.text == [40]) = true by simp [noTok])]
    by_cases hc : (isTypeW (tk L i).text && (tk L (i + 2)).text == [40]) = true
    · rw [if_pos hc]
      rw [Bool.and_eq_true] at hc
      have ht := hc.1
      have hM : declP (L.take m) (idl (L.take m)) outerW i = bnd (sevP (L.take m) (varP (L.take m) (idl (L.take m))) (i + 1)) fun q vs => bnd (needP (L.take m) [[59]] q) fun s _ => (s, some (mkN 2 (tk (L.take m) i).text [] 0 (tk (L.take m) i).place vs)) := by
        unfold declP
        rw [show outerW.contains (tk (L.take m) i).text = false by rw [e0]; exact type_outer ht, if_neg (by decide)]
        unfold declR
        rw [show isTypeW (tk (L.take m) i).text = true by rw [e0]; exact ht]
        rfl
      have hL : funcP L (idl L) i = bnd (takeP L (isNm L (i + 1)) (i + 1)) fun k u => bnd (encP L (paramP L) k) fun q ps => bnd (idl L 13 q) fun s b => (s, some (mkN 4 (tk L i).text u.text 0 (tk L i).place (ps ++ [b]))) := by
        unfold funcP
        rw [ht]
        rfl
      have hle : ∀ k (u : Tok), k ≤ L.length → Lea L k (bnd (encP L (paramP L) k) fun q ps => bnd (idl L 13 q) fun s b => (s, some (mkN 4 (tk L i).text u.text 0 (tk L i).place (ps ++ [b])))) := fun k u hk2 => lea_bnd (adv_enc (fun q _ h2 => adv_param h2) hk2).1 (fun q ps _ hq => lea_bnd (hA 13 q hq).1 (fun s b _ hs => lea_here _ hs))
      rw [hM, hL]
      by_cases h1 : i + 1 = m
      · rw [h1, var_end hm hA']
        exact .inr ⟨rfl, (lea_bnd (adv_take hm (fun h => name_lt h)).1 (fun k u _ hk2 => hle k u hk2)).1⟩
      · have h1m : i + 1 < m := by omega
        have e1 := tk_take (L := L) h1m
        have hnm : isNm (L.take m) (i + 1) = isNm L (i + 1) := by unfold isNm; rw [e1]
        cases hn : isNm L (i + 1) with
        | false =>
          have hs : sevP (L.take m) (varP (L.take m) (idl (L.take m))) (i + 1) = (i + 1, none) := by
            unfold sevP varP
            rw [hnm, hn]
            rfl
          rw [hs]
          exact .inl rfl
        | true =>
          have hs : sevP (L.take m) (varP (L.take m) (idl (L.take m))) (i + 1) = (i + 2, some [mkN 3 [] (tk (L.take m) (i + 1)).text 0 (tk (L.take m) (i + 1)).place []]) := by
            unfold sevP varP
            rw [hnm, hn]
            show bnd (bnd (i + 2, some (tk (L.take m) (i + 1))) _) _ = _
            rw [bnd_at, e2, if_neg (by decide), bnd_at]
            show sevL (L.take m) _ ((L.take m).length + 1) _ (i + 2) = _
            rw [sevL, e2, if_neg (by decide)]
          have hm2 : i + 2 = m := by omega
          rw [hs, bnd_at, hm2, need_end hm _ _ (by decide)]
          refine .inr ⟨rfl, ?_⟩
          show m ≤ (bnd (i + 1 + 1, some (tk L (i + 1))) _).1
          rw [bnd_at]
          have h9 := (hle (i + 1 + 1) (tk L (i + 1)) (by omega)).1
          omega
    · rw [if_neg hc]
      exact hD
end
theorem shadL_item (N : List Tok) (rc : Nat → Nat → Rp) (n : Nat) (acc : List (List Nd)) (i : Nat) : shadL N rc (n + 1) acc i = if i < N.length then bnd (itemP N rc i) (fun j x => shadL N rc n (acc ++ [x]) j) else (i, some acc) := by
  rw [shadL]
  rfl
theorem lea_shadL {L : List Tok} (hk : TokOk L) : ∀ (n : Nat) (acc : List (List Nd)) (i : Nat), i ≤ L.length → Lea L i (shadL L (idl L) n acc i)
  | 0, acc, i, h => lea_here _ h
  | n + 1, acc, i, h => by
    rw [shadL]
    by_cases hc : i < L.length
    · rw [if_pos hc]
      exact lea_bnd (item_adv hk i h).1 (fun j x _ hj => lea_shadL hk n _ j hj)
    · rw [if_neg hc]
      exact lea_here _ h
theorem shad_pre {L : List Tok} {rc : Nat → Nat → Rp} : ∀ (n : Nat) (acc : List (List Nd)) (i j : Nat) (l : List (List Nd)), shadL L rc n acc i = (j, some l) → ∃ r, l = acc ++ r
  | 0, acc, i, j, l, e => by cases e
  | n + 1, acc, i, j, l, e => by
    rw [shadL] at e
    split at e
    · obtain ⟨k, x, e1, e2⟩ := bnd_inv e
      obtain ⟨r, hr⟩ := shad_pre n _ _ _ _ e2
      exact ⟨[x] ++ r, by rw [hr, List.append_assoc]⟩
    · obtain ⟨rfl, rfl⟩ := some_inv e
      exact ⟨[], by simp⟩
theorem shadL_idl {L : List Tok} (hk : TokOk L) : ∀ (n : Nat) (acc : List (List Nd)) (i : Nat), i ≤ L.length → shadL L (goP L (fuelP L)) n acc i = shadL L (idl L) n acc i
  | 0, acc, i, _ => by rw [shadL, shadL]
  | n + 1, acc, i, h => by
    have hE : ∀ r k, i < k → k ≤ L.length → goP L (fuelP L) r k = idl L r k := fun r k _ h2 => go_idl hk h2 (by have := rk_le r; unfold fuelP; omega)
    have hA : ∀ r k, k ≤ L.length → Adv L k (goP L (fuelP L) r k) := fun r k h => adv_go hk _ r k h
    have hI : itemP L (goP L (fuelP L)) i = itemP L (idl L) i := by
      unfold itemP
      rw [cg_func hA hE h, cg_decl hA hE h outerW (by decide)]
    rw [shadL_item, shadL_item, hI]
    refine ite_cg (fun hc => bnd_cg (fun j x e => ?_)) (fun _ => rfl)
    exact shadL_idl hk n _ j (adv_pos (item_adv hk i h) e).2
/-- How the outermost rule reads a beginning. -/
def Sh (m : Nat) (S S' : Rl) : Prop := (S' = S ∧ S.2 = none) ∨ (S' = (m, none) ∧ m ≤ S.1) ∨ (∃ l', S' = (m, some l') ∧ m ≤ S.1 ∧ ∀ l, S.2 = some l → ∃ r, l = l' ++ r)
theorem sh_shadL {L : List Tok} {m : Nat} (hm : m ≤ L.length) {rc rc' : Nat → Nat → Rp} (hit : ∀ i, i < m → LocC m (itemP L rc i) (itemP (L.take m) rc' i)) (had : ∀ i, i ≤ L.length → Adv L i (itemP L rc i)) (had' : ∀ i, i ≤ m → Adv (L.take m) i (itemP (L.take m) rc' i)) (hlea : ∀ n acc i, i ≤ L.length → Lea L i (shadL L rc n acc i)) :
    ∀ (n n' : Nat) (acc : List (List Nd)) (i : Nat), i ≤ m → L.length - i < n → m - i < n' → Sh m (shadL L rc n acc i) (shadL (L.take m) rc' n' acc i) := by
  intro n
  induction n with
  | zero => intro n' acc i _ h _; exact absurd h (by omega)
  | succ n ih =>
    intro n' acc i hi h h'
    cases n' with
    | zero => exact absurd h' (by omega)
    | succ n' =>
      by_cases hlt : i < m
      · have hitem := hit i hlt
        have ha := had i (by omega)
        have ha' := had' i hi
        rw [shadL_item, shadL_item, if_pos (show i < L.length by omega), if_pos (show i < (L.take m).length by rw [len_take hm]; exact hlt)]
        rcases hitem with he | ⟨he, hge⟩
        · rw [he] at ha' ⊢
          cases hq : itemP L rc i with
          | mk j o =>
            cases o with
            | none => exact .inl ⟨rfl, rfl⟩
            | some x =>
              rw [hq] at ha ha'
              have hj : i < j := ha.2 rfl
              have hjm : j ≤ (L.take m).length := ha'.1.2
              rw [len_take hm] at hjm
              rw [bnd_at, bnd_at]
              exact ih n' _ j hjm (by omega) (by omega)
        · rw [he]
          refine .inr (.inl ⟨rfl, ?_⟩)
          cases hq : itemP L rc i with
          | mk j o =>
            rw [hq] at hge ha
            cases o with
            | none => exact hge
            | some x => exact Nat.le_trans hge (hlea n _ j ha.1.2).1
      · obtain rfl : i = m := by omega
        refine .inr (.inr ⟨acc, ?_, (hlea (n + 1) acc i hm).1, fun l hl => ?_⟩)
        · rw [shadL_item, if_neg (by rw [len_take hm]; omega)]
        · cases hS : shadL L rc (n + 1) acc i with
          | mk j o =>
            rw [hS] at hl
            simp only at hl
            subst hl
            exact shad_pre (n + 1) acc i j l hS
theorem shad_bnd {L : List Tok} (hk : TokOk L) : shadP L = bnd (shadL L (idl L) (L.length + 1) [] 0) (fun j l => (j, some (mkN 1 [] [] 0 0 l))) := by
  unfold shadP
  rw [shadL_idl hk _ _ 0 (Nat.zero_le _)]
theorem sh_all {L : List Tok} (hk : TokOk L) {m : Nat} (hm : m ≤ L.length) : Sh m (shadL L (idl L) (L.length + 1) [] 0) (shadL (L.take m) (idl (L.take m)) ((L.take m).length + 1) [] 0) :=
  sh_shadL hm (fun i h => lc_item hk hm i h) (fun i h => item_adv hk i h) (fun i h => item_adv (tokOk_take hk m) i (by rw [len_take hm]; exact h)) (fun n acc i h => lea_shadL hk n acc i h) _ _ _ 0 (Nat.zero_le _) (by omega) (by rw [len_take hm]; omega)
theorem deep_pre (l r : List (List Nd)) (h : tooDeep (mkN 1 [] [] 0 0 (l ++ r)) = none) : tooDeep (mkN 1 [] [] 0 0 l) = none := by
  unfold tooDeep at h ⊢
  rw [List.find?_eq_none] at h ⊢
  intro x hx
  unfold mkN at hx
  rcases List.mem_cons.1 hx with rfl | hx
  · simp
  · obtain ⟨y, hy, rfl⟩ := List.mem_map.1 hx
    refine h (upN y) ?_
    unfold mkN
    refine List.mem_cons_of_mem _ (List.mem_map.2 ⟨y, ?_, rfl⟩)
    rw [List.flatten_append]
    exact List.mem_append_left _ hy
/-- A shader's beginning is one, or is wrong at its end. -/
theorem tree_cut {L : List Tok} (hk : TokOk L) {x : List Nd} {a : Int} (h : treeP L = (x, 0, a)) {m : Nat} (hm : m ≤ L.length) : (∃ y, treeP (L.take m) = (y, 0, 0)) ∨ treeP (L.take m) = ([], 220, hereP (L.take m) m) := by
  have hs := sh_all hk hm
  have hL : ∃ j l, shadL L (idl L) (L.length + 1) [] 0 = (j, some l) ∧ tooDeep (mkN 1 [] [] 0 0 l) = none := by
    unfold treeP at h
    rw [shad_bnd hk] at h
    cases hq : shadL L (idl L) (L.length + 1) [] 0 with
    | mk j o =>
      rw [hq] at h
      cases o with
      | none => cases (Prod.mk.inj (Prod.mk.inj h).2).1
      | some l =>
        refine ⟨j, l, rfl, ?_⟩
        simp only [bnd_at] at h
        cases ht : tooDeep (mkN 1 [] [] 0 0 l) with
        | none => rfl
        | some n => rw [ht] at h; cases (Prod.mk.inj (Prod.mk.inj h).2).1
  obtain ⟨j, l, hj, hd⟩ := hL
  rw [hj] at hs
  unfold treeP
  rw [shad_bnd (tokOk_take hk m)]
  rcases hs with ⟨_, hn⟩ | ⟨he, _⟩ | ⟨l', he, _, hp⟩
  · cases hn
  · rw [he]
    exact .inr rfl
  · rw [he]
    obtain ⟨r, hr⟩ := hp l rfl
    rw [hr] at hd
    left
    refine ⟨mkN 1 [] [] 0 0 l', ?_⟩
    simp only [bnd_at]
    rw [deep_pre l' r hd]
/-- What is wrong is wrong by what stands up to there. -/
theorem tree_first {L : List Tok} (hk : TokOk L) {p : Int} (h : treeP L = ([], 220, p)) : ∃ j, j ≤ L.length ∧ p = hereP L j ∧ (j < L.length → treeP (L.take (j + 1)) = ([], 220, p)) ∧ ((∃ y, treeP (L.take j) = (y, 0, 0)) ∨ treeP (L.take j) = ([], 220, hereP (L.take j) j) ∨ ∃ q, treeP (L.take j) = ([], 3, q)) := by
  have hL : ∃ j, shadL L (idl L) (L.length + 1) [] 0 = (j, none) ∧ p = hereP L j := by
    unfold treeP at h
    rw [shad_bnd hk] at h
    cases hq : shadL L (idl L) (L.length + 1) [] 0 with
    | mk j o =>
      rw [hq] at h
      cases o with
      | none => exact ⟨j, rfl, (Prod.mk.inj (Prod.mk.inj h).2).2.symm⟩
      | some l =>
        simp only [bnd_at] at h
        cases ht : tooDeep (mkN 1 [] [] 0 0 l) with
        | none => rw [ht] at h; cases (Prod.mk.inj (Prod.mk.inj h).2).1
        | some n => rw [ht] at h; cases (Prod.mk.inj (Prod.mk.inj h).2).1
  obtain ⟨j, hj, hp⟩ := hL
  have hjl : j ≤ L.length := by
    have h9 := (lea_shadL hk (L.length + 1) [] 0 (Nat.zero_le _)).2
    rw [hj] at h9
    exact h9
  refine ⟨j, hjl, hp, fun hlt => ?_, ?_⟩
  · have hs := sh_all hk (m := j + 1) hlt
    rw [hj] at hs
    have he : shadL (L.take (j + 1)) (idl (L.take (j + 1))) ((L.take (j + 1)).length + 1) [] 0 = (j, none) := by
      rcases hs with ⟨h1, _⟩ | ⟨_, h2⟩ | ⟨_, _, h2, _⟩
      · exact h1
      · exact absurd h2 (by simp only; omega)
      · exact absurd h2 (by simp only; omega)
    unfold treeP
    rw [shad_bnd (tokOk_take hk _), he]
    show ([], (220 : Int), hereP (L.take (j + 1)) j) = _
    rw [hp]
    unfold hereP
    rw [if_pos (by rw [len_take hlt]; omega), if_pos hlt, tk_take (by omega)]
  · have hs := sh_all hk (m := j) hjl
    rw [hj] at hs
    unfold treeP
    rw [shad_bnd (tokOk_take hk _)]
    rcases hs with ⟨h1, _⟩ | ⟨h1, _⟩ | ⟨l', h1, _, _⟩
    · rw [h1]; exact .inr (.inl rfl)
    · rw [h1]; exact .inr (.inl rfl)
    · rw [h1]
      simp only [bnd_at]
      cases ht : tooDeep (mkN 1 [] [] 0 0 l') with
      | none => exact .inl ⟨_, rfl⟩
      | some n => exact .inr (.inr ⟨_, rfl⟩)
end Go.Proofs.YtnmieoojjnipkaaGreat

/-
  Parse of a beginning.
-/
namespace Go.Proofs.YtnmieoojjnipkaaGreat
set_option linter.unusedVariables false
set_option linter.unusedSimpArgs false

theorem check_cut {L : List Tok} (h : ¬ (checkE L ≠ 0 ∨ L.any nowhereP = true)) (n : Nat) : ¬ (checkE (L.take n) ≠ 0 ∨ (L.take n).any nowhereP = true) := by
  have sub : ∀ p : Tok → Bool, L.any p = false → (L.take n).any p = false := by
    intro p hp
    rw [Bool.eq_false_iff] at hp ⊢
    intro hc
    obtain ⟨t, ht, ht2⟩ := List.any_eq_true.1 hc
    exact hp (List.any_eq_true.2 ⟨t, List.mem_of_mem_take ht, ht2⟩)
  rw [not_or] at h ⊢
  obtain ⟨h1, h2⟩ := h
  have hc : ¬ (2048 < L.length ∨ L.any wrongP = true) := by
    intro hc
    apply h1
    unfold checkE
    rw [if_pos hc]
    decide
  rw [not_or] at hc
  refine ⟨?_, by rw [sub _ (by simpa using h2)]; decide⟩
  unfold checkE
  rw [if_neg]
  · decide
  · rw [not_or]
    refine ⟨by rw [List.length_take]; omega, ?_⟩
    rw [sub _ (by simpa using hc.2)]
    decide
theorem parse_cond {L : List Tok} {x : List Nd} {a b : Int} (h : parseP L = (x, a, b)) (ha : a ≠ 2) : ¬ (checkE L ≠ 0 ∨ L.any nowhereP = true) ∧ (treeP L).2 = (a, b) ∧ TokOk L ∧ L.length ≤ 2048 := by
  unfold parseP at h
  by_cases hc : checkE L ≠ 0 ∨ L.any nowhereP = true
  · rw [if_pos hc] at h
    exact absurd (Prod.mk.inj (Prod.mk.inj h).2).1.symm ha
  · rw [if_neg hc] at h
    have h1 : ¬ (2048 < L.length ∨ L.any wrongP = true) := by
      intro h1
      apply hc
      left
      unfold checkE
      rw [if_pos h1]
      decide
    rw [not_or] at h1
    exact ⟨hc, (Prod.mk.inj h).2, tokOk_of (by simpa using h1.2), by omega⟩
theorem tree_nil : treeP [] = (mkN 1 [] [] 0 0 [], 0, 0) := by
  have e : shadP [] = (0, some (mkN 1 [] [] 0 0 [])) := by
    unfold shadP
    rw [show ([] : List Tok).length + 1 = 0 + 1 from rfl, shadL_item, if_neg (by simp)]
    rfl
  unfold treeP
  rw [e]
  rfl
def endI (t : Tok) : Int := IntKind.i64.wrap (t.place + t.text.length)
theorem here_end (L : List Tok) (n : Nat) (h0 : 0 < n) (hn : n ≤ L.length) : hereP (L.take n) n = endI (tk L (n - 1)) := by
  unfold hereP endI
  rw [if_neg (by rw [len_take hn]; omega), len_take hn, tk_take (by omega)]
theorem parse_take {L : List Tok} (hc : ¬ (checkE L ≠ 0 ∨ L.any nowhereP = true)) (n : Nat) : parseP (L.take n) = (absN 0 (treeP (L.take n)).1, (treeP (L.take n)).2) := by
  unfold parseP
  rw [if_neg (check_cut hc n)]
/-- What ParseCut asks. -/
theorem cut_ok {L : List Tok} {x : List Nd} {b : Int} (h : parseP L = (x, 0, b)) (n : Nat) (hn : n ≤ L.length) : (∃ y, parseP (L.take n) = (y, 0, 0)) ∨ (0 < n ∧ ∃ y, parseP (L.take n) = (y, 220, endI (tk L (n - 1)))) := by
  obtain ⟨hc, ht, hk, _⟩ := parse_cond h (by decide)
  rw [parse_take hc]
  by_cases h0 : n = 0
  · subst h0
    rw [List.take_zero, tree_nil]
    exact .inl ⟨_, rfl⟩
  · have htt : treeP L = ((treeP L).1, 0, b) := Prod.ext rfl ht
    rcases tree_cut hk htt hn with ⟨y, hy⟩ | hy
    · rw [hy]; exact .inl ⟨_, rfl⟩
    · rw [hy, here_end L n (by omega) hn]
      exact .inr ⟨by omega, _, rfl⟩
/-- What ParseFirst asks. -/
theorem first_ok {L : List Tok} {x : List Nd} {p : Int} (h : parseP L = (x, 220, p)) : ∃ j, j ≤ L.length ∧ (j < L.length → p = (tk L j).place ∧ ∃ y, parseP (L.take (j + 1)) = (y, 220, p)) ∧ (j = L.length → 0 < L.length ∧ p = endI (tk L (L.length - 1))) ∧
    ((∃ y, parseP (L.take j) = (y, 0, 0)) ∨ (0 < j ∧ ∃ y, parseP (L.take j) = (y, 220, endI (tk L (j - 1)))) ∨ ∃ y q, parseP (L.take j) = (y, 3, q)) := by
  obtain ⟨hc, ht, hk, _⟩ := parse_cond h (by decide)
  have htt : treeP L = ([], 220, p) := by
    have h1 : (treeP L).2 = (220, p) := ht
    unfold treeP at h1 ⊢
    cases hs : (shadP L).2 with
    | none => rw [hs] at h1; simp only at h1; rw [← (Prod.mk.inj h1).2]
    | some y =>
      rw [hs] at h1
      cases hd : tooDeep y with
      | none => simp only [hd] at h1; cases (Prod.mk.inj h1).1
      | some n => simp only [hd] at h1; cases (Prod.mk.inj h1).1
  obtain ⟨j, hj, hp, h1, h2⟩ := tree_first hk htt
  refine ⟨j, hj, fun hlt => ⟨?_, ?_⟩, fun he => ⟨?_, ?_⟩, ?_⟩
  · rw [hp]; unfold hereP; rw [if_pos hlt]
  · rw [parse_take hc, h1 hlt]; exact ⟨_, rfl⟩
  · refine Nat.pos_of_ne_zero fun h0 => ?_
    have hL : L = [] := List.length_eq_zero_iff.1 h0
    subst hL
    rw [tree_nil] at htt
    cases (Prod.mk.inj (Prod.mk.inj htt).2).1
  · rw [hp, he]; unfold hereP endI; rw [if_neg (by omega)]
  · rw [parse_take hc]
    rcases h2 with ⟨y, hy⟩ | hy | ⟨q, hy⟩
    · rw [hy]; exact .inl ⟨_, rfl⟩
    · by_cases h0 : j = 0
      · subst h0
        rw [List.take_zero, tree_nil]
        exact .inl ⟨_, rfl⟩
      · rw [hy, here_end L j (by omega) hj]
        exact .inr (.inl ⟨by omega, _, rfl⟩)
    · rw [hy]; exact .inr (.inr ⟨_, _, rfl⟩)
end Go.Proofs.YtnmieoojjnipkaaGreat

/-
  Tokens of a text stand in order where they say.
-/
namespace Go.Proofs.YtnmieoojjnipkaaGreat
set_option linter.unusedSimpArgs false
set_option linter.unusedVariables false

/-- Tokens, in order, from a place on. -/
def Placed (S : Byts8) : Nat → List Tok → Prop
  | e, [] => lexP (S.drop e) = ([], 0, 0)
  | e, t :: ts => ∃ p z : Nat, t.place = p ∧ t.text = (S.drop p).take z ∧ 1 ≤ z ∧ e ≤ p ∧ p + z ≤ S.length ∧ lexP ((S.drop e).take (p - e)) = ([], 0, 0) ∧ t.line = (cntL (S.take p) : Nat) ∧ Placed S (p + z) ts
theorem lexP_small {l : Byts8} (h : l.length ≤ 8192) : lexP l = lexA l 0 0 0 := by unfold lexP; rw [if_neg (by omega)]
theorem placed (S : Byts8) (hS : S.length ≤ 8192) (d : Nat) : ∀ (e : Nat) (n : Nat) (ts : List Tok), S.length - e ≤ d → e ≤ S.length → lexA (S.drop e) e (cntL (S.take e) : Nat) n = (ts, 0, 0) → Placed S e ts := by
  induction d with
  | zero =>
    intro e n ts hd he h
    have h0 : S.drop e = [] := List.drop_of_length_le (by omega)
    rw [h0, lexA_nil] at h
    cases h
    show lexP (S.drop e) = _
    rw [h0, lexP_small (by simp), lexA_nil]
  | succ d ih =>
    intro e n ts hd he h
    have hsk := skip_take (S.drop e) 0 0 0
    have hle := skip_le (S.drop e)
    have hst := skip_stop (S.drop e)
    rw [lexA_skip] at h
    generalize skipN (S.drop e) = s at *
    rw [List.length_drop] at hle
    rw [List.drop_drop] at h hst
    by_cases h0 : S.drop (e + s) = []
    · rw [h0, lexA_nil] at h
      cases h
      show lexP (S.drop e) = _
      have hl : (S.drop e).take s = S.drop e := by
        refine List.take_of_length_le ?_
        have := congrArg List.length h0
        rw [List.length_drop, List.length_nil] at this
        rw [List.length_drop]
        omega
      rw [hl] at hsk
      rw [lexP_small (by rw [List.length_drop]; omega)]
      exact hsk
    have hst := hst h0
    obtain ⟨k, z, hp⟩ : ∃ k z, pieceP (S.drop (e + s)) = (k, z) := ⟨_, _, rfl⟩
    have hr := piece_room _ h0
    rw [hp] at hr hst
    rw [List.length_drop] at hr
    simp only at hr hst
    have hcnt : ((cntL (S.take e) : Nat) : Int) + (cntL ((S.drop e).take s) : Nat) = (cntL (S.take (e + s)) : Nat) := by
      rw [take_split, cntL_add]
      push_cast
      rfl
    rw [hcnt] at h
    by_cases ht : (tellP k ((S.drop (e + s)).take z) ((S.drop (e + s)).drop z) n).2 = 0
    · rw [lexA_tok h0 hp hst _ _ _ ht, List.drop_drop] at h
      have hc2 : ((cntL (S.take (e + s)) : Nat) : Int) + (cntL ((S.drop (e + s)).take z) : Nat) = (cntL (S.take (e + s + z)) : Nat) := by
        rw [take_split S (e + s) z, cntL_add]
        push_cast
        rfl
      rw [hc2] at h
      obtain ⟨r, hr2⟩ : ∃ r, lexA (S.drop (e + s + z)) (((e : Int) + (s : Nat)) + (z : Nat)) (cntL (S.take (e + s + z)) : Nat) (n + 1) = r := ⟨_, rfl⟩
      rw [hr2] at h
      obtain ⟨r1, r2, r3⟩ := r
      by_cases hz : r2 = 0
      · rw [if_neg (by simpa using hz)] at h
        cases h
        have hf := lexA_form (S.drop (e + s + z)) (((e : Int) + (s : Nat)) + (z : Nat)) (cntL (S.take (e + s + z)) : Nat) (n + 1)
        rw [hr2] at hf
        have h3 := hf.1 hz
        simp only at h3
        subst hz h3
        refine ⟨e + s, z, by push_cast; rfl, rfl, hr.1, by omega, by omega, ?_, rfl, ?_⟩
        · rw [Nat.add_sub_cancel_left, lexP_small (by rw [List.length_take, List.length_drop]; omega)]
          exact hsk
        · refine ih (e + s + z) (n + 1) r1 (by omega) (by omega) ?_
          rw [← hr2]
          push_cast
          rfl
      · rw [if_pos hz] at h
        cases h
        exact absurd rfl hz
    · rw [lexA_bad h0 hp hst _ _ _ ht] at h
      simp only [Prod.mk.injEq] at h
      exact absurd h.2.1 ht
theorem placed_all (S : Byts8) (hS : S.length ≤ 8192) (h : (lexP S).2.1 = 0) : Placed S 0 (lexP S).1 := by
  rw [lexP_small hS] at h ⊢
  refine placed S hS S.length 0 0 _ (by omega) (by omega) ?_
  have hf := (lexA_form S 0 0 0).1 h
  rw [List.drop_zero, List.take_zero]
  show lexA S 0 0 0 = _
  generalize lexA S 0 0 0 = r at *
  obtain ⟨r1, r2, r3⟩ := r
  have h1 : r2 = 0 := h
  have h2 : r3 = 0 := hf
  rw [h1, h2]
theorem placed_len (S : Byts8) : ∀ (ts : List Tok) (e : Nat), e ≤ S.length → Placed S e ts → ts.length + e ≤ S.length
  | [], e, he, _ => by simpa using he
  | t :: ts, e, he, h => by
    obtain ⟨p, z, _, _, hz, hep, hps, _, _, hn⟩ := h
    have := placed_len S ts (p + z) hps hn
    simp only [List.length_cons]
    omega
/-- Each token ends ahead of the next one. -/
theorem placed_row (S : Byts8) : ∀ (ts : List Tok) (e : Nat), Placed S e ts → (∀ i (h : i < ts.length), (e : Int) ≤ ts[i].place ∧ 1 ≤ ts[i].text.length ∧ ts[i].place + ts[i].text.length ≤ (S.length : Int)) ∧ ∀ i j (h1 : i < j) (h2 : j < ts.length), (ts[i]'(by omega)).place + (ts[i]'(by omega)).text.length ≤ ts[j].place
  | [], e, h => ⟨fun i hi => by simp at hi, fun i j _ hj => by simp at hj⟩
  | t :: ts, e, h => by
    obtain ⟨p, z, hp, ht, hz, hep, hps, _, _, hn⟩ := h
    obtain ⟨ih1, ih2⟩ := placed_row S ts (p + z) hn
    have hl : t.text.length = z := by rw [ht, List.length_take, List.length_drop]; omega
    refine ⟨fun i hi => ?_, fun i j h1 h2 => ?_⟩
    · cases i with
      | zero =>
        simp only [List.getElem_cons_zero]
        rw [hp, hl]
        omega
      | succ i =>
        simp only [List.getElem_cons_succ]
        have := ih1 i (by simpa using hi)
        omega
    · cases j with
      | zero => omega
      | succ j =>
        cases i with
        | zero =>
          simp only [List.getElem_cons_zero, List.getElem_cons_succ]
          have := (ih1 j (by simpa using h2)).1
          rw [hp, hl]
          omega
        | succ i =>
          simp only [List.getElem_cons_succ]
          exact ih2 i j (by omega) (by simpa using h2)
end Go.Proofs.YtnmieoojjnipkaaGreat
