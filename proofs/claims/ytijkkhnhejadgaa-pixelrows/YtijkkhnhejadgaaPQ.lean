/-
  Rows of vectors: that come in, and appended to a new one.
-/
import Derived.Test.YtijkkhnhejadgaaPX
import Derived.Test.YtijkkhnhejadgaaPO
import Derived.Deep.Slices
namespace Go.Proofs.Ytijkkhnhejadgaa
open Go.ChangeShapes Go.WideShapes Go.ChangeAt Go.RowKit

/-- The cells of vectors, one behind the other. -/
def flat (cs : List (Nat → Int)) : List Value := cs.flatMap fun c => [.int .i32 (c 0), .int .i32 (c 1), .int .i32 (c 2), .int .i32 (c 3)]
theorem flat_length (cs : List (Nat → Int)) : (flat cs).length = cs.length * 4 := by
  induction cs with
  | nil => rfl
  | cons c cs ih =>
    unfold flat at *
    rw [List.flatMap_cons, List.length_append, ih]
    simp
    omega
theorem flat_get (cs : List (Nat → Int)) : ∀ i j, i < cs.length → j < 4 → (flat cs)[i * 4 + j]? = some (.int .i32 (cs.getD i nul j)) := by
  induction cs with
  | nil => intro i j hi _; simp at hi
  | cons c cs ih =>
    intro i j hi hj
    have e : flat (c :: cs) = [.int .i32 (c 0), .int .i32 (c 1), .int .i32 (c 2), .int .i32 (c 3)] ++ flat cs := rfl
    rw [e]
    cases i with
    | zero =>
      rw [List.getElem?_append_left (by simp; omega)]
      rcases (by omega : j = 0 ∨ j = 1 ∨ j = 2 ∨ j = 3) with rfl | rfl | rfl | rfl <;> rfl
    | succ i =>
      rw [List.getElem?_append_right (by simp; omega)]
      rw [show (i + 1) * 4 + j - [Value.int .i32 (c 0), .int .i32 (c 1), .int .i32 (c 2), .int .i32 (c 3)].length = i * 4 + j by simp; omega]
      rw [ih i j (by simpa using hi) hj]
      simp
theorem flat_one (cs : List (Nat → Int)) : ∀ u ∈ flat cs, u.oneCell' = true := by
  intro u hu
  unfold flat at hu
  rw [List.mem_flatMap] at hu
  obtain ⟨c, _, hu⟩ := hu
  simp at hu
  rcases hu with rfl | rfl | rfl | rfl <;> rfl

theorem VRow.ofOwn {w : World} {base n : Nat} {e : TypeId} {v : Value} {cs : List (Nat → Int)} (h : w.ownsRow base e 4 v n (flat cs)) : VRow w v cs ∧ n = cs.length := by
  have hn : n = cs.length := by have := h.1; rw [flat_length] at this; omega
  subst hn
  refine ⟨?_, rfl⟩
  rcases h.2 with ⟨rfl, h0⟩ | ⟨g, cap, cur, rfl, hb, hg, hnc, hcm, hcs, htake⟩
  · have : cs = [] := List.eq_nil_of_length_eq_zero h0
    subst this
    exact .inl ⟨rfl, _, _, rfl⟩
  · by_cases hx : cs = []
    · subst hx
      exact .inl ⟨rfl, _, _, rfl⟩
    · refine .inr ⟨hx, g, 0, cap, rfl, fun i j hi hj => ?_⟩
      have hlt : i * 4 + j < cs.length * 4 := by omega
      have h1 := flat_get cs i j hi hj
      rw [← htake, List.getElem?_take_of_lt hlt] at h1
      rw [Nat.zero_add, cell_of_row w g (i * 4 + j) cur e (0, 0) hg]
      simpa using h1

/-- 'append([]T{}, l...)', T four numbers, l whatever row of vectors. -/
theorem wpList_append_V {P : Program} {w : World} {ops : Array Oper} {rest : List Oper} {o : Oper} {a : Act} {Q : Exit → Act → World → Prop} (hgd : o.guard = none) (s x : Operand) (t : TypeId)
    (ho : o.op = .call { callee := .builtin .append, args := #[s, x], argTypes := #[t, t] })
    (base : Nat) (e : TypeId) (i : TypeInfo) (ht : P.underlying t = some (.slice e)) (hi : P.info? e = some i) (hz : i.zero = some (.agg #[.int .i32 0, .int .i32 0, .int .i32 0, .int .i32 0]))
    (hsize : i.size = 4) (hby : i.bytes = 16) (g : Nat) (hs : a.eval s = .slice (some ⟨g, 0, none⟩) 0 0) (hown : w.ownsRow base e 4 (.slice (some ⟨g, 0, none⟩) 0 0) 0 [])
    (v : Value) (cs : List (Nat → Int)) (hx : a.eval x = v) (hrow : VRow w v cs) (hnone : ∀ cap, v = .slice none 0 cap → cap = 0) (hlen : cs.length ≤ 2000) (hbase : base ≤ w.heap.size)
    (h : ∀ ao cap w', VRow w' (.slice ao cs.length cap) cs → w.grownBy w' (some g) → wpList P ops Q rest (a.put o.dst (.slice ao cs.length cap)) w') : wpList P ops Q (o :: rest) a w := by
  have fin : ∀ v' w', w'.ownsRow base e 4 v' cs.length (flat cs) → w.grownBy w' (some g) → wpList P ops Q rest (a.put o.dst v') w' := by
    intro v' w' h1 h2
    have hv := (VRow.ofOwn h1).1
    obtain ⟨ao, cap, rfl⟩ := hv.shape
    exact h ao cap w' hv h2
  rcases hrow with ⟨rfl, ao, cap, rfl⟩ | ⟨hne, b, off, cap, rfl, hc⟩
  · cases ao with
    | none =>
      obtain rfl := hnone cap rfl
      refine wpList_append_own_none hgd s x t ho base e i 4 ht hi _ _ _ hs hown hx ?_
      exact fin _ w hown (World.grownBy.refl _ _)
    | some ad =>
      refine wpList_append_own w hgd s x t ho base e i _ 4 16 ht hi hz hsize hby rfl (by decide) _ _ _ hs hown ad 0 cap [] hx rfl (by simp) (by simp) (Nat.zero_le _) (Nat.zero_le _) hbase ?_
      intro v' w' h1 h2 _
      exact fin v' w' h1 h2
  · refine wpList_append_own w hgd s x t ho base e i _ 4 16 ht hi hz hsize hby rfl (by decide) _ _ _ hs hown ⟨b, off, none⟩ cs.length cap (flat cs) hx (flat_length cs) ?_ (flat_one cs) (by unfold maxLen; omega) (by omega) hbase ?_
    · intro j u hu
      have hj : j < cs.length * 4 := by
        have := (List.getElem?_eq_some_iff.1 hu).1
        rw [flat_length] at this
        exact this
      have h1 := flat_get cs (j / 4) (j % 4) (by omega) (by omega)
      rw [show j / 4 * 4 + j % 4 = j by omega, hu] at h1
      have h2 := hc (j / 4) (j % 4) (by omega) (by omega)
      rw [show off + j / 4 * 4 + j % 4 = off + j by omega] at h2
      rw [Addr.add_mid, h2, ← Option.some.inj h1]
    · intro v' w' h1 h2 _
      rw [Nat.zero_add, List.nil_append] at h1
      exact fin v' w' h1 h2

section
variable {H : Type} {enc : TypeId × Value → H}
theorem open_vrow {W : World} {base : Nat} {v : Value} {d : DataW H} {p : List MemPlace} (hv : Value.okWide Try.prog W .any base 47 v) (h : DataW.Trod enc Try.prog W 0 (fun _ => true) true 47 v d p) :
    ∃ cs : List (Nat → Int), VRow W v cs ∧ (∀ c ∈ cs, ∀ i, I32 (c i)) ∧ ∀ cap, v = .slice none 0 cap → cap = 0 := by
  obtain ⟨a, len, cap, rfl⟩ := okWide_slice Try.underlying47 hv
  obtain ⟨fuel, hf⟩ := h
  rcases DataW.trod_slice Try.underlying47 hf with ⟨hcs, _⟩ | ⟨x, l, c, elems, rest, n, _, hcs, _, _, hl, hm, hlen, hel, _⟩
  · simp [Value.cells] at hcs
    obtain ⟨rfl, rfl, rfl⟩ := hcs
    exact ⟨[], .inl ⟨rfl, _, _, rfl⟩, by simp, fun cap h => by cases h; rfl⟩
  · simp [Value.cells] at hcs
    obtain ⟨rfl, rfl, rfl⟩ := hcs
    have each : ∀ i, i < len → ∃ c : Nat → Int, (∀ j, I32 (c j)) ∧ ∀ j, j < 4 → W.cell? ((x.add (i * 4)).add j) = some (.int .i32 (c j)) := by
      intro i hi
      have h1 := hel i hi
      rw [cells_vec, List.getElem?_eq_getElem (by omega), Option.bind_eq_some_iff] at h1
      obtain ⟨cs', hcs', hy⟩ := h1
      obtain ⟨_, hlen', hcell⟩ := World.cells?_some hcs'
      match cs', hlen' with
      | [c0, c1, c2, c3], _ =>
        obtain ⟨c, rfl, rfl, rfl, rfl, hI⟩ := four_cells hy
        refine ⟨c, hI, fun j hj => ?_⟩
        rw [hcell j hj]
        rcases (by omega : j = 0 ∨ j = 1 ∨ j = 2 ∨ j = 3) with rfl | rfl | rfl | rfl <;> rfl
    obtain ⟨F, hF⟩ := Go.Deep.choose_lt each
    refine ⟨(List.range len).map F, ?_, ?_, fun cap h => by cases h⟩
    · by_cases h0 : len = 0
      · subst h0
        exact .inl ⟨rfl, _, _, rfl⟩
      · obtain ⟨b, off, spot⟩ := x
        have hc0 := (hF 0 (by omega)).2 0 (by omega)
        have hspot : spot = none := by simpa [Addr.add] using World.cell?_spot hc0
        subst hspot
        refine .inr ⟨by simp; exact h0, b, off, cap, by simp, fun i j hi hj => ?_⟩
        have hi' : i < len := by simpa using hi
        have := (hF i hi').2 j hj
        rw [Addr.add_mid, Addr.add_mid] at this
        rw [this]
        simp [hi']
    · intro c hc i
      obtain ⟨k, hk, rfl⟩ := List.mem_map.1 hc
      exact (hF k (by simpa using hk)).1 i
end

theorem px_rowc {w : World} {b off cap f i : Nat} {xs : List Int} (h : ∀ j (hj : j < xs.length), w.cell? ⟨b, off + j, none⟩ = some (.int .u8 xs[j])) (hi : (i + 1) * siz f ≤ xs.length) (hs : 1 ≤ siz f) (hc : siz f ≤ cap) (hm : cap ≤ maxLen) :
    Row .u8 w (.slice (some ⟨b, off + i * siz f, none⟩) (px f xs i).length cap) (px f xs i) := by
  have hl := px_length f xs i hi
  rw [Nat.succ_mul] at hi
  refine .inr ⟨fun e => ?_, b, off + i * siz f, cap, rfl, by omega, hm, fun j hj => ?_⟩
  · rw [e] at hl
    simp at hl
    omega
  · rw [Nat.add_assoc, h (i * siz f + j) (by omega)]
    have : (px f xs i).getD j 0 = xs[i * siz f + j]'(by omega) := by
      unfold px
      rw [hl] at hj
      simp [hj]
      rw [List.getElem?_eq_getElem (by omega)]
      rfl
    rw [this]
theorem rowL_at (f : Nat) (xs : List Int) (n k : Nat) (hk : k < n) : (rowL f xs n).getD k nul = colN f (numOf (px f xs k)) := by simp [rowL, hk]
theorem px_lay (f : Nat) (cs : List (Nat → Int)) (k : Nat) (hk : k < cs.length) : px f (layL f cs) k = pk f (cs.getD k nul) := by
  unfold px
  have e : layL f cs = layL f (cs.take k) ++ (pk f (cs.getD k nul) ++ layL f (cs.drop (k + 1))) := by
    have h1 := layL_next f cs k hk
    have h2 : layL f cs = layL f (cs.take (k + 1)) ++ layL f (cs.drop (k + 1)) := by
      unfold layL
      rw [← List.flatMap_append, List.take_append_drop]
    rw [h2, h1, List.append_assoc]
  have hl : (layL f (cs.take k)).length = k * siz f := by
    rw [layL_length, List.length_take]
    congr 1
    omega
  rw [e, List.drop_left' hl, List.take_left' (pk_length f _)]
end Go.Proofs.Ytijkkhnhejadgaa
