/-
  Rules go on, plain: how many tokens are taken.
-/
import Derived.Test.YtjfhhhabcbkahaaGreatTA
namespace Go.Proofs.YtjfhhhabcbkahaaGreat
set_option linter.unusedVariables false
set_option linter.unusedSimpArgs false

/-- No token is given back; at most all are taken. -/
def Lea {A : Type} (L : List Tok) (i : Nat) (R : Nat × Option A) : Prop := i ≤ R.1 ∧ R.1 ≤ L.length
/-- And if something comes one is taken. -/
def Adv {A : Type} (L : List Tok) (i : Nat) (R : Nat × Option A) : Prop := Lea L i R ∧ (R.2.isSome = true → i < R.1)
section
variable {A B : Type} {L : List Tok} {i j : Nat}
theorem Adv.lea {R : Nat × Option A} (h : Adv L i R) : Lea L i R := h.1
theorem lea_here (a : Option A) (h : i ≤ L.length) : Lea L i (i, a) := ⟨Nat.le_refl _, h⟩
theorem adv_no (h : i ≤ L.length) : Adv L i ((i, none) : Nat × Option A) := ⟨lea_here _ h, fun e => by cases e⟩
theorem adv_one (a : Option A) (h : i < L.length) : Adv L i (i + 1, a) := ⟨⟨by simp, h⟩, fun _ => Nat.lt_succ_self _⟩
theorem Lea.mono {R : Nat × Option A} (h : Lea L j R) (hij : i ≤ j) : Lea L i R := ⟨Nat.le_trans hij h.1, h.2⟩
theorem Lea.adv {R : Nat × Option A} (h : Lea L j R) (hij : i < j) : Adv L i R := ⟨h.mono (Nat.le_of_lt hij), fun _ => Nat.lt_of_lt_of_le hij h.1⟩
theorem Adv.mono {R : Nat × Option A} (h : Adv L j R) (hij : i ≤ j) : Adv L i R := ⟨h.1.mono hij, fun e => Nat.lt_of_le_of_lt hij (h.2 e)⟩
theorem lea_bnd {r : Nat × Option A} {f : Nat → A → Nat × Option B} (h : Lea L i r) (hf : ∀ j a, r = (j, some a) → j ≤ L.length → Lea L j (f j a)) : Lea L i (bnd r f) := by
  obtain ⟨j, o⟩ := r
  cases o with
  | none => exact h
  | some a => exact (hf j a rfl h.2).mono h.1
theorem adv_bnd {r : Nat × Option A} {f : Nat → A → Nat × Option B} (h : Adv L i r) (hf : ∀ j a, r = (j, some a) → j ≤ L.length → Lea L j (f j a)) : Adv L i (bnd r f) := by
  obtain ⟨j, o⟩ := r
  cases o with
  | none => exact ⟨h.1, fun e => by cases e⟩
  | some a => exact (hf j a rfl h.1.2).adv (h.2 rfl)
theorem adv_bnd2 {r : Nat × Option A} {f : Nat → A → Nat × Option B} (h : Lea L i r) (hf : ∀ j a, r = (j, some a) → j ≤ L.length → Adv L j (f j a)) : Adv L i (bnd r f) := by
  obtain ⟨j, o⟩ := r
  cases o with
  | none => exact ⟨h, fun e => by cases e⟩
  | some a => exact (hf j a rfl h.2).mono h.1
theorem tk_lt {k : Nat} (h : (tk L k).text ≠ [] ∨ (tk L k).kind ≠ 0) : k < L.length := by
  refine Nat.lt_of_not_le fun hl => ?_
  have e : tk L k = noTok := by unfold tk; rw [List.getD_eq_getElem?_getD, List.getElem?_eq_none hl]; rfl
  rw [e] at h
  rcases h with h | h <;> exact h rfl
theorem text_lt {k : Nat} {t : Byts8} (h : (tk L k).text = t) (ht : t ≠ []) : k < L.length := tk_lt (.inl (by rw [h]; exact ht))
theorem type_lt {k : Nat} (h : isTypeW (tk L k).text = true) : k < L.length := tk_lt (.inl (fun e => by rw [e] at h; revert h; decide))
theorem name_lt {k : Nat} (h : isNm L k = true) : k < L.length := tk_lt (.inr (fun e => by
  unfold isNm at h
  rw [e] at h
  simp at h))
theorem adv_take {may : Bool} (h : i ≤ L.length) (hm : may = true → i < L.length) : Adv L i (takeP L may i) := by
  unfold takeP
  split
  · rename_i e
    exact adv_one _ (hm e)
  · exact adv_no h
theorem lea_need : ∀ (ts : List Byts8) {i : Nat}, i ≤ L.length → (∀ t ∈ ts, t ≠ []) → Lea L i (needP L ts i)
  | [], i, h, _ => ⟨Nat.le_refl _, h⟩
  | t :: ts, i, h, ht => by
    rw [needP]
    split
    · rename_i e
      exact (lea_need ts (text_lt e (ht t (by simp))) (fun x hx => ht x (by simp [hx]))).mono (Nat.le_succ _)
    · exact lea_here _ h
theorem adv_need (t : Byts8) (ts : List Byts8) {i : Nat} (h : i ≤ L.length) (ht : ∀ x ∈ t :: ts, x ≠ []) : Adv L i (needP L (t :: ts) i) := by
  rw [needP]
  split
  · rename_i e
    exact (lea_need ts (text_lt e (ht t (by simp))) (fun x hx => ht x (by simp [hx]))).adv (Nat.lt_succ_self _)
  · exact adv_no h
theorem con_lt {ws : List Byts8} {k : Nat} (h : ws.contains (tk L k).text = true) (hw : ∀ x ∈ ws, x ≠ []) : k < L.length := tk_lt (.inl (fun e => by
  rw [e] at h
  exact hw [] (by simpa using h) rfl))
theorem lea_sevL {rule : Nat → Rp} (hr : ∀ k, i ≤ k → k ≤ L.length → Adv L k (rule k)) : ∀ (n : Nat) (acc : List (List Nd)) {j : Nat}, i ≤ j → j ≤ L.length → Lea L j (sevL L rule n acc j)
  | 0, acc, j, hij, hj => ⟨Nat.le_refl _, hj⟩
  | n + 1, acc, j, hij, hj => by
    rw [sevL]
    split
    · rename_i e
      have := text_lt e (by decide)
      exact (lea_bnd (hr (j + 1) (by omega) this).1 (fun k x hk hk2 => lea_sevL hr n _ (by have := (hr (j + 1) (by omega) this).1.1; rw [hk] at this; simp only at this; omega) hk2)).mono (Nat.le_succ _)
    · exact lea_here _ hj
theorem adv_sev {rule : Nat → Rp} (hr : ∀ k, i ≤ k → k ≤ L.length → Adv L k (rule k)) (hi : i ≤ L.length) : Adv L i (sevP L rule i) :=
  adv_bnd (hr i (Nat.le_refl _) hi) (fun j x hj hl => lea_sevL hr _ _ (by have := (hr i (Nat.le_refl _) hi).1.1; rw [hj] at this; exact this) hl)
theorem adv_enc {rule : Nat → Rp} (hr : ∀ k, i ≤ k → k ≤ L.length → Adv L k (rule k)) (hi : i ≤ L.length) : Adv L i (encP L rule i) := by
  refine adv_bnd (adv_need _ [] hi (by decide)) (fun j a hj hl => ?_)
  have hij : i ≤ j := by have := (adv_need (L := L) [40] [] hi (by decide)).1.1; rw [hj] at this; exact this
  split
  · rename_i e
    exact (adv_one _ (text_lt e (by decide))).1
  · refine lea_bnd (adv_sev (fun k h1 h2 => hr k (by omega) h2) hl).1 (fun k l hk hl2 => lea_bnd (lea_need _ hl2 (by decide)) (fun m _ _ hm => lea_here _ hm))
theorem adv_oper {rule : Nat → Rp} {kind : Int} {side : List Nd} (hr : ∀ k, i < k → k ≤ L.length → Adv L k (rule k)) (h : i < L.length) : Adv L i (operP L kind side rule i) :=
  (lea_bnd (hr (i + 1) (Nat.lt_succ_self _) h).1 (fun j y _ hj => lea_here _ hj)).adv (Nat.lt_succ_self i)
end
end Go.Proofs.YtjfhhhabcbkahaaGreat
