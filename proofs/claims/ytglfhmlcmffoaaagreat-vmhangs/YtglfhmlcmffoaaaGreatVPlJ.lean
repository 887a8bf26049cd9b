/- Several texts in one. -/
import Derived.Test.YtglfhmlcmffoaaaGreatSGJ
import Derived.Test.YtglfhmlcmffoaaaGreatLemJ
import Derived.Laws.OwnMore
import Derived.Maps.AppendAt
/-
  Runs of codes, plainly: what an instruction does, what comes of a run, which places it does; what an instruction of a code that may be asks for.
-/
namespace Go.Proofs.YtglfhmlcmffoaaaGreat
open Go.RowKit
set_option linter.unusedVariables false
set_option linter.unusedSimpArgs false

/-- What a run has come to: registers, Position, Size, Varyings, Color, Discard. -/
structure St where
  R : List (Nat → Int)
  po : Nat → Int
  sz : Int
  V : List (Nat → Int)
  cl : Nat → Int
  dc : Bool
/-- What the register Dst becomes. -/
def valP (S : Sur) (G : List (Img × Value × List Ent)) (R : List (Nat → Int)) (I : Nat → Int) : Nat → Int :=
  if I 0 = 1 then cut 4 (fun k => I (8 + k))
  else if I 0 = 2 then reg R (I 5)
  else if I 0 = 3 then loadP S I
  else if I 0 = 5 then doI (I 1) (I 2) (I 3) (reg R (I 5)) (reg R (I 6)) (reg R (I 7))
  else if I 0 = 6 then cut (I 3) (fun i => reg R (I 5) (pl (pcs I) i))
  else if I 0 = 7 then layK (reg R (I 4)) (reg R (I 5)) (pcs I) (pcs I).length
  else if I 0 = 8 then cut (I 3) (fun i => cvI (I 2) (I 1) (reg R (I 5) i))
  else texI G (reg R (I 5)) (reg R (I 6))
def storS (s : St) (I : Nat → Int) : St :=
  if I 1 = 1 then { s with po := reg s.R (I 6) } else if I 1 = 2 then { s with sz := reg s.R (I 6) 0 } else if I 1 = 3 then { s with V := s.V.set (I 5).toNat (reg s.R (I 6)) } else { s with cl := reg s.R (I 6) }
def stepS (S : Sur) (G : List (Img × Value × List Ent)) (s : St) (I : Nat → Int) : St :=
  if I 0 = 4 then storS s I else { s with R := s.R.set (I 4).toNat (valP S G s.R I) }
def discS (s : St) : St := ⟨s.R, nul, 0, [], nul, true⟩
/-- The run from the place k on, at most f steps: what it comes to, and the places. -/
def runF (L : List (Nat → Int)) (S : Sur) (G : List (Img × Value × List Ent)) : Nat → Nat → St → St × List Nat
  | 0, _, s => (s, [])
  | f + 1, k, s =>
    if h : k < L.length then
      if L[k] 0 = 10 then ((runF L S G f (L[k] 5).toNat s).1, k :: (runF L S G f (L[k] 5).toNat s).2)
      else if L[k] 0 = 11 then
        (if reg s.R (L[k] 6) 0 = 0 then ((runF L S G f (L[k] 5).toNat s).1, k :: (runF L S G f (L[k] 5).toNat s).2) else ((runF L S G f (k + 1) s).1, k :: (runF L S G f (k + 1) s).2))
      else if L[k] 0 = 12 then (discS s, [k])
      else ((runF L S G f (k + 1) (stepS S G s L[k])).1, k :: (runF L S G f (k + 1) (stepS S G s L[k])).2)
    else (s, [])
def st0 (C : Cod) : St := ⟨List.replicate C.regs.toNat nul, nul, 0, if C.stage = 1 then List.replicate C.vary.toNat nul else [], nul, false⟩
/-- The whole run. -/
def runP (C : Cod) (S : Sur) (G : List (Img × Value × List Ent)) : St × List Nat := runF C.ins S G C.ins.length 0 (st0 C)

/-- What an instruction at the place k of a code that may be asks of its registers and fields. -/
structure Ask (C : Cod) (n k : Nat) (I : Nat → Int) : Prop where
  op : I 0 = 1 ∨ I 0 = 2 ∨ I 0 = 3 ∨ I 0 = 4 ∨ I 0 = 5 ∨ I 0 = 6 ∨ I 0 = 7 ∨ I 0 = 8 ∨ I 0 = 9 ∨ I 0 = 10 ∨ I 0 = 11 ∨ I 0 = 12
  dst : wrB (I 0) = true → 0 ≤ I 4 ∧ I 4 < C.regs
  r5 : I 0 = 2 ∨ I 0 = 5 ∨ I 0 = 6 ∨ I 0 = 7 ∨ I 0 = 8 ∨ I 0 = 9 → 0 ≤ I 5 ∧ I 5 < C.regs
  r6 : I 0 = 4 ∨ I 0 = 5 ∨ I 0 = 9 ∨ I 0 = 11 → 0 ≤ I 6 ∧ I 6 < C.regs
  r7 : I 0 = 5 → 0 ≤ I 7 ∧ I 7 < C.regs
  cnt : I 0 = 5 ∨ I 0 = 6 ∨ I 0 = 7 ∨ I 0 = 8 → 1 ≤ I 3 ∧ I 3 ≤ 4
  plc : I 0 = 6 ∨ I 0 = 7 → plcB I = true
  once : I 0 = 7 → twB (pcs I) = false
  load : I 0 = 3 → loadB C I = true
  stor : I 0 = 4 → storB C I = true
  jump : I 0 = 10 ∨ I 0 = 11 → (k : Int) < I 5 ∧ I 5 ≤ (n : Int)
  disc : I 0 = 12 → C.stage = 2
  args : I 0 = 5 → 0 < argsP (I 1) (I 2)
  bas : I 0 = 8 → baseB (I 2) = true ∧ baseB (I 1) = true
theorem cntB_iff (n : Int) : cntB n = true ↔ 1 ≤ n ∧ n ≤ 4 := by simp [cntB]
theorem sameI_flds {I J : Nat → Int} (h : sameI I J = true) : I 4 = J 4 ∧ I 5 = J 5 ∧ I 6 = J 6 ∧ I 7 = J 7 := by
  simp only [sameI, Bool.and_eq_true, beq_iff_eq] at h
  exact ⟨h.2.2.2.2.1, h.2.2.2.2.2.1, h.2.2.2.2.2.2.1, h.2.2.2.2.2.2.2.1⟩
theorem ask_ins {C : Cod} {n k : Nat} {I : Nat → Int} (h : insB C n k I = true) (hr : 0 ≤ C.regs) : Ask C n k I := by
  simp only [insB, Bool.and_eq_true] at h
  obtain ⟨h3, h4, h5⟩ := h
  simp only [rgsB, Bool.and_eq_true, List.all_eq_true, Bool.or_eq_true] at h4
  have hrd : ∀ r ∈ readsP I, 0 ≤ r ∧ r < C.regs := fun r hr => (inB_iff _ _).1 (h4.1 r hr)
  have hw : wrB (I 0) = true → 0 ≤ I 4 ∧ I 4 < C.regs := fun hw => by
    rcases h4.2 with h6 | h6
    · rw [hw] at h6; cases h6
    · unfold writI at h6
      rw [if_pos hw] at h6
      exact (inB_iff _ _).1 h6
  obtain ⟨j4, j5, j6, j7⟩ := sameI_flds h3
  have hop : I 0 = 1 ∨ I 0 = 2 ∨ I 0 = 3 ∨ I 0 = 4 ∨ I 0 = 5 ∨ I 0 = 6 ∨ I 0 = 7 ∨ I 0 = 8 ∨ I 0 = 9 ∨ I 0 = 10 ∨ I 0 = 11 ∨ I 0 = 12 := by
    unfold fldB at h5
    repeat' split at h5
    all_goals first | omega | cases h5
  have f : ∀ o : Int, I 0 = o → fldB C n k I = (if o = 1 ∨ o = 2 ∨ o = 9 then true
      else if o = 3 then loadB C I
      else if o = 4 then storB C I
      else if o = 5 then decide (0 < argsP (I 1) (I 2)) && cntB (I 3)
      else if o = 6 then cntB (I 3) && plcB I
      else if o = 7 then cntB (I 3) && (plcB I && !twB ((plcs I).take (I 3).toNat))
      else if o = 8 then cntB (I 3) && (baseB (I 2) && baseB (I 1))
      else if o = 10 ∨ o = 11 then decide ((k : Int) < I 5) && decide (I 5 ≤ (n : Int))
      else if o = 12 then C.stage == 2
      else false) := fun o e => by subst e; rfl
  have g5 : I 0 = 5 → (0 < argsP (I 1) (I 2)) ∧ (1 ≤ I 3 ∧ I 3 ≤ 4) := fun e => by
    rw [f 5 e] at h5
    simpa [cntB] using h5
  have g6 : I 0 = 6 → (1 ≤ I 3 ∧ I 3 ≤ 4) ∧ plcB I = true := fun e => by
    rw [f 6 e] at h5
    simpa [cntB] using h5
  have g7 : I 0 = 7 → (1 ≤ I 3 ∧ I 3 ≤ 4) ∧ plcB I = true ∧ twB (pcs I) = false := fun e => by
    rw [f 7 e] at h5
    unfold pcs
    simpa [cntB] using h5
  have g8 : I 0 = 8 → (1 ≤ I 3 ∧ I 3 ≤ 4) ∧ baseB (I 2) = true ∧ baseB (I 1) = true := fun e => by
    rw [f 8 e] at h5
    simpa [cntB] using h5
  have z : I 0 = 5 → ∀ j, (j = 5 ∨ j = 6 ∨ j = 7) → 0 ≤ I j ∧ I j < C.regs := fun e j hj => by
    have hd := hw (by rw [e]; rfl)
    have hn := (g5 e).1
    have hr5 : readsP I = [I 5, I 6, I 7].take (argsP (I 1) (I 2)) := by unfold readsP; rw [if_neg (by omega), if_neg (by omega), if_pos e]
    have ha := argsP_le (I 1) (I 2)
    have mem : ∀ (m : Nat) (x : Int), m < argsP (I 1) (I 2) → [I 5, I 6, I 7][m]? = some x → 0 ≤ x ∧ x < C.regs := fun m x hm hx => by
      refine hrd x ?_
      rw [hr5]
      exact List.mem_of_getElem? (i := m) (by rw [List.getElem?_take_of_lt hm]; exact hx)
    rcases hj with rfl | rfl | rfl
    · exact mem 0 _ (by omega) rfl
    · by_cases h2 : 2 ≤ argsP (I 1) (I 2)
      · exact mem 1 _ (by omega) rfl
      · rw [j6]
        have : justP I 6 = 0 := by unfold justP keeps; rw [e]; simp; omega
        rw [this]
        omega
    · by_cases h2 : 3 ≤ argsP (I 1) (I 2)
      · exact mem 2 _ (by omega) rfl
      · rw [j7]
        have : justP I 7 = 0 := by unfold justP keeps; rw [e]; simp; omega
        rw [this]
        omega
  have rd : ∀ l, readsP I = l → ∀ x ∈ l, 0 ≤ x ∧ x < C.regs := fun l e x hx => hrd x (by rw [e]; exact hx)
  refine ⟨hop, hw, fun e => ?_, fun e => ?_, fun e => z e 7 (by simp), fun e => ?_, fun e => ?_, fun e => (g7 e).2.2, fun e => ?_, fun e => ?_, fun e => ?_, fun e => ?_, fun e => (g5 e).1, fun e => (g8 e).2⟩
  · rcases e with e | e | e | e | e | e
    · exact rd [I 5] (by unfold readsP; rw [e]; rfl) _ (by simp)
    · exact z e 5 (by simp)
    · exact rd [I 5] (by unfold readsP; rw [e]; rfl) _ (by simp)
    · exact rd [I 5, I 4] (by unfold readsP; rw [e]; rfl) _ (by simp)
    · exact rd [I 5] (by unfold readsP; rw [e]; rfl) _ (by simp)
    · exact rd [I 5, I 6] (by unfold readsP; rw [e]; rfl) _ (by simp)
  · rcases e with e | e | e | e
    · exact rd [I 6] (by unfold readsP; rw [e]; rfl) _ (by simp)
    · exact z e 6 (by simp)
    · exact rd [I 5, I 6] (by unfold readsP; rw [e]; rfl) _ (by simp)
    · exact rd [I 6] (by unfold readsP; rw [e]; rfl) _ (by simp)
  · rcases e with e | e | e | e
    · exact (g5 e).2
    · exact (g6 e).1
    · exact (g7 e).1
    · exact (g8 e).1
  · rcases e with e | e
    · exact (g6 e).2
    · exact (g7 e).2.1
  · rw [f 3 e] at h5
    simpa using h5
  · rw [f 4 e] at h5
    simpa using h5
  · rcases e with e | e
    · rw [f 10 e] at h5
      simpa using h5
    · rw [f 11 e] at h5
      simpa using h5
  · rw [f 12 e] at h5
    simpa using h5
theorem may_ask {C : Cod} (h : mayP C = true) (k : Nat) (hk : k < C.ins.length) : Ask C C.ins.length k C.ins[k] := by
  have hr := (may_regs h).2.1
  simp only [mayP, Bool.and_eq_true] at h
  have h2 := mayTo_at h.2.2 hk
  rw [show C.ins.getD k zI = C.ins[k] by simp [hk]] at h2
  exact ask_ins h2 hr
theorem set_len (L : List (Nat → Int)) (i : Nat) (x : Nat → Int) : (L.set i x).length = L.length := List.length_set
theorem reg_set_i32 {R : List (Nat → Int)} (h : ∀ x i, I32 (reg R x i)) {v : Nat → Int} (hv : ∀ i, I32 (v i)) (k : Nat) : ∀ x i, I32 (reg (R.set k v) x i) := by
  intro x i
  unfold reg
  rw [List.getD_eq_getElem?_getD, List.getElem?_set]
  split
  · split
    · exact hv i
    · unfold nul I32; simp
  · have := h x i
    unfold reg at this
    rwa [List.getD_eq_getElem?_getD] at this
end Go.Proofs.YtglfhmlcmffoaaaGreat

/-
  Rows of whatever structs that are the call's own, by what their cells are. Nothing here speaks of the program.
-/
namespace Go.Proofs.YtglfhmlcmffoaaaGreat
open Go.RowKit
set_option linter.unusedVariables false
set_option linter.unusedSimpArgs false

/-- The slice value v is the call's own and holds what L's things are as cells. -/
def GO {α : Type} (enc : α → List Value) (e : TypeId) (size : Nat) (w : World) (base : Nat) (v : Value) (L : List α) : Prop := w.ownsRow base e size v L.length (L.flatMap enc)
section
variable {α : Type} {enc : α → List Value} {e : TypeId} {size : Nat} {w w' : World} {base : Nat} {v : Value} {L : List α}
theorem extGrownG (hx : Ext w w') (r : Option Nat) : w.grownBy w' r := ⟨hx.os, hx.tape, hx.output, hx.size, fun i hi _ => hx.block i hi⟩
theorem GO.ext (h : GO enc e size w base v L) (hx : Ext w w') : GO enc e size w' base v L := by
  refine World.ownsRow.kept h (extGrownG hx none) ?_
  cases v.ownBlock <;> simp
theorem GO.lt (h : GO enc e size w base v L) : ∀ g, v.ownBlock = some g → base ≤ g ∧ g < w.heap.size := World.ownsRow.lt h
theorem GO.keep {r : Nat} (h : GO enc e size w base v L) (hg : w.grownBy w' (some r)) (hr : ∀ b, v.ownBlock = some b → b ≠ r) : GO enc e size w' base v L := by
  refine World.ownsRow.kept h hg ?_
  cases hv : v.ownBlock with
  | none => exact .inl rfl
  | some b => exact .inr (fun e => hr b hv (by cases e; rfl))
theorem GO.lower {b2 : Nat} (h : GO enc e size w base v L) (hb : b2 ≤ base) : GO enc e size w b2 v L := by
  refine ⟨h.1, ?_⟩
  rcases h.2 with hn | ⟨g, cap, cur, e, h1, r⟩
  · exact .inl hn
  · exact .inr ⟨g, cap, cur, e, by omega, r⟩
theorem GO.shape (h : GO enc e size w base v L) : ∃ ao cap, v = .slice ao L.length cap ∧ (ao = none → cap = 0) ∧ L.length ≤ cap ∧ cap ≤ maxLen := by
  rcases h.2 with ⟨e, h0⟩ | ⟨g, cap, cur, e, hb, hg, hnc, hcm, hcs, htake⟩
  · exact ⟨none, 0, by rw [h0]; exact e, fun _ => rfl, by omega, Nat.zero_le _⟩
  · exact ⟨_, cap, e, (fun h => by cases h), hnc, hcm⟩
theorem GO.nil (w : World) (base : Nat) : GO enc e size w base (.slice none 0 0) ([] : List α) := World.ownsRow_nil _ _ _ _
theorem GO.one {g : Nat} {x : α} (hs : (enc x).length = size) (h : Blk w g (enc x).toArray e) (hb : base ≤ g) : GO enc e size w base (.slice (some ⟨g, 0, none⟩) 1 1) [x] := by
  refine ⟨by simp [hs], .inr ⟨g, 1, (enc x).toArray, rfl, hb, h, Nat.le_refl _, by unfold maxLen; decide, by simp [hs], by subst hs; simp⟩⟩
theorem flat_len (hs : ∀ x, (enc x).length = size) : ∀ (L : List α), (L.flatMap enc).length = L.length * size
  | [] => by simp
  | x :: r => by
    rw [List.flatMap_cons, List.length_append, flat_len hs r, hs, List.length_cons, Nat.succ_mul, Nat.add_comm]
theorem flat_get (hs : ∀ x, (enc x).length = size) : ∀ (L : List α) (i : Nat) (h : i < L.length) (j : Nat), j < size → (L.flatMap enc)[i * size + j]? = (enc L[i])[j]?
  | x :: r, 0, _, j, hj => by
    rw [List.flatMap_cons, List.getElem?_append_left (by rw [hs]; omega)]
    simp
  | x :: r, i + 1, h, j, hj => by
    have ih := flat_get hs r i (by simpa using h) j hj
    have e1 : (i + 1) * size + j - size = i * size + j := by rw [Nat.succ_mul]; omega
    rw [List.flatMap_cons, List.getElem?_append_right (by rw [hs, Nat.succ_mul]; omega), hs, e1]
    simpa using ih
theorem GO.at (hs : ∀ x, (enc x).length = size) {ao : Option Addr} {n cap : Nat} (h : GO enc e size w base (.slice ao n cap) L) (i : Nat) (hi : i < L.length) : ∃ g, ao = some ⟨g, 0, none⟩ ∧ base ≤ g ∧ g < w.heap.size ∧ ∀ j u, j < size → (enc L[i])[j]? = some u → w.cell? ⟨g, i * size + j, none⟩ = some u := by
  rcases id h.2 with ⟨h1, h0⟩ | ⟨g, c2, cur, e2, hb, hg, _⟩
  · omega
  · cases e2
    refine ⟨g, rfl, hb, (Array.getElem?_eq_some_iff.1 hg).1, fun j u hj hu => ?_⟩
    have := World.ownsRow.cells h (g := g) rfl (i * size + j) u (by rw [flat_get hs L i hi j hj]; exact hu)
    rw [Addr.add_lit, Nat.zero_add] at this
    exact this
end
theorem info_partsG {P : Program} {t : TypeId} {z : Value} {n b : Nat} (h : (P.info? t).map (fun i => (i.zero, i.size, i.bytes)) = some (some z, n, b)) : ∃ i, P.info? t = some i ∧ i.zero = some z ∧ i.size = n ∧ i.bytes = b := by
  cases hi : P.info? t with
  | none => rw [hi] at h; cases h
  | some i =>
    rw [hi] at h
    simp only [Option.map_some, Option.some.injEq, Prod.mk.injEq] at h
    exact ⟨i, rfl, h.1, h.2.1, h.2.2⟩
/-- 'append(row, x)', the row the call's own, the block of x laid last. -/
theorem wpList_append_G {P : Program} {α : Type} {enc : α → List Value} {e : TypeId} {size : Nat} {w : World} {ops : Array Oper} {rest : List Oper} {o : Oper} {a : Act} {Q : Exit → Act → World → Prop} {z : Value} {bytes : Nat} {t : TypeId}
    (hinfo : (P.info? e).map (fun i => (i.zero, i.size, i.bytes)) = some (some z, size, bytes)) (hu : P.underlying t = some (.slice e)) (hz : z.cells.size = size) (hp : 0 < size) (hb : bytes ≤ 100) (hgd : o.guard = none) (s x : Operand)
    (ho : o.op = .call { callee := .builtin .append, args := #[s, x], argTypes := #[t, t] }) (base : Nat) (v : Value) (L : List α) (y : α) (hs : a.eval s = v)
    (hown : GO enc e size w base v L) (g c : Nat) (hx : a.eval x = .slice (some ⟨g, 0, none⟩) 1 c) (t2 : TypeId) (hB : Blk w g (enc y).toArray t2) (hsz : (enc y).length = size) (hone : ∀ u ∈ enc y, u.oneCell' = true)
    (hL : L.length ≤ 1000000000000) (hbase : base ≤ w.heap.size)
    (h : ∀ ao cap N w', N = L ++ [y] → GO enc e size w' base (.slice ao N.length cap) N → w.grownBy w' v.ownBlock → (∀ b, (Value.slice ao N.length cap).ownBlock = some b → v.ownBlock = some b ∨ w.heap.size ≤ b) → wpList P ops Q rest (a.put o.dst (.slice ao N.length cap)) w') :
    wpList P ops Q (o :: rest) a w := by
  obtain ⟨i0, hi, hz0, hz1, hz2⟩ := info_partsG hinfo
  refine wpList_append_own_at w hgd s x t ho base e i0 _ size bytes hu hi hz0 hz1 hz2 hz hp v L.length (L.flatMap enc) hs hown ⟨g, 0, none⟩ 1 c (enc y) hx (by omega) ?_ hone (by unfold maxLen; omega) ?_ hbase ?_
  · intro j u hu
    rw [Addr.add_lit, Nat.zero_add]
    exact hB.cell (by simpa using hu)
  · have : (L.length + 1) * bytes ≤ (L.length + 1) * 100 := Nat.mul_le_mul_left _ hb
    omega
  · intro v' w' h1 h2 _ h4
    have h3 : GO enc e size w' base v' (L ++ [y]) := by
      unfold GO
      rw [List.flatMap_append, List.length_append]
      simpa using h1
    obtain ⟨ao, cap, rfl, _⟩ := h3.shape
    refine h ao cap _ w' rfl h3 h2 (fun b hb => ?_)
    rcases h4 with h4 | h4
    · exact .inl (h4 ▸ hb)
    · rw [h4] at hb
      cases hb
      exact .inr (Nat.le_refl _)
/-- The same as a run, for regions that draw. -/
theorem run_append_G {P : Program} {α : Type} {enc : α → List Value} {e : TypeId} {size : Nat} {w : World} {z : Value} {bytes : Nat} {t : TypeId} (ty : TypeId)
    (hinfo : (P.info? e).map (fun i => (i.zero, i.size, i.bytes)) = some (some z, size, bytes)) (hu : P.underlying t = some (.slice e)) (hz : z.cells.size = size) (hp : 0 < size) (hb : bytes ≤ 100)
    (base : Nat) (v : Value) (L : List α) (y : α) (hown : GO enc e size w base v L) (g c : Nat) (t2 : TypeId) (hB : Blk w g (enc y).toArray t2) (hsz : (enc y).length = size) (hone : ∀ u ∈ enc y, u.oneCell' = true)
    (hL : L.length ≤ 1000000000000) (hbase : base ≤ w.heap.size) :
    ∃ ao cap N w', N = L ++ [y] ∧ (Builtin.append_ #[t, t] ty #[v, .slice (some ⟨g, 0, none⟩) 1 c]).run P w = .ok (.slice ao N.length cap) w' ∧ GO enc e size w' base (.slice ao N.length cap) N ∧ w.grownBy w' v.ownBlock ∧ (∀ b, (Value.slice ao N.length cap).ownBlock = some b → v.ownBlock = some b ∨ w.heap.size ≤ b) := by
  obtain ⟨i0, hi, hz0, hz1, hz2⟩ := info_partsG hinfo
  obtain ⟨v', w', hr, h1, h2, _, h4⟩ := run_append_own_at (P := P) w base t ty e i0 _ size bytes hu hi hz0 hz1 hz2 hz hp v L.length (L.flatMap enc) hown ⟨g, 0, none⟩ 1 c (enc y) (by omega)
    (by
      intro j u hu
      rw [Addr.add_lit, Nat.zero_add]
      exact hB.cell (by simpa using hu)) hone (by unfold maxLen; omega)
    (by
      have : (L.length + 1) * bytes ≤ (L.length + 1) * 100 := Nat.mul_le_mul_left _ hb
      omega) hbase
  have h3 : GO enc e size w' base v' (L ++ [y]) := by
    unfold GO
    rw [List.flatMap_append, List.length_append]
    simpa using h1
  obtain ⟨ao, cap, rfl, _⟩ := h3.shape
  refine ⟨ao, cap, _, w', rfl, hr, h3, h2, fun b hb => ?_⟩
  rcases h4 with h4 | h4
  · exact .inl (h4 ▸ hb)
  · rw [h4] at hb
    cases hb
    exact .inr (Nat.le_refl _)
end Go.Proofs.YtglfhmlcmffoaaaGreat

/-
  The machine of registers: rows of vectors that are the call's own; what a store does.
-/
namespace Go.Proofs.YtglfhmlcmffoaaaGreat
open Go.RowKit
set_option linter.unusedVariables false
set_option linter.unusedSimpArgs false

/-- A vector's cells. -/
def vEnc (a : Nat → Int) : List Value := [.int .i32 (a 0), .int .i32 (a 1), .int .i32 (a 2), .int .i32 (a 3)]
theorem vEnc_len (a : Nat → Int) : (vEnc a).length = 4 := rfl
/-- A row of vectors that is the call's own. -/
def OV (w : World) (base : Nat) (v : Value) (L : List (Nat → Int)) : Prop := GO vEnc 28 4 w base v L
theorem OV.row {w : World} {base : Nat} {v : Value} {L : List (Nat → Int)} (h : OV w base v L) : VRow w v L := by
  obtain ⟨ao, cap, rfl, h0, hl, hm⟩ := GO.shape h
  by_cases hL : L = []
  · subst hL
    exact .inl ⟨rfl, ao, cap, rfl⟩
  · have hpos : 0 < L.length := List.length_pos_iff.2 hL
    obtain ⟨g, e, hb, hg, hc⟩ := GO.at vEnc_len h 0 hpos
    subst e
    refine .inr ⟨hL, g, 0, cap, rfl, fun i j hi hj => ?_⟩
    obtain ⟨g', e', _, _, hc'⟩ := GO.at vEnc_len h i hi
    cases e'
    have e : L.getD i nul = L[i] := by simp [hi]
    rw [e, Nat.zero_add]
    refine hc' j _ hj ?_
    rcases (by omega : j = 0 ∨ j = 1 ∨ j = 2 ∨ j = 3) with rfl | rfl | rfl | rfl <;> rfl
theorem set_skip (a : Nat → Int) (t : List Value) (n : Nat) (v : Value) : (vEnc a ++ t).set (n + 4) v = vEnc a ++ t.set n v := rfl
theorem flat_set4 (x : Nat → Int) : ∀ (L : List (Nat → Int)) (k : Nat), k < L.length →
    ((((L.flatMap vEnc).set (k * 4) (.int .i32 (x 0))).set (k * 4 + 1) (.int .i32 (x 1))).set (k * 4 + 2) (.int .i32 (x 2))).set (k * 4 + 3) (.int .i32 (x 3)) = (L.set k x).flatMap vEnc
  | a :: r, 0, _ => by simp [vEnc]
  | a :: r, k + 1, h => by
    have ih := flat_set4 x r k (by simpa using h)
    rw [show (k + 1) * 4 = k * 4 + 4 by omega, show k * 4 + 4 + 1 = (k * 4 + 1) + 4 by omega, show k * 4 + 4 + 2 = (k * 4 + 2) + 4 by omega, show k * 4 + 4 + 3 = (k * 4 + 3) + 4 by omega]
    rw [List.flatMap_cons, set_skip, set_skip, set_skip, set_skip, ih, List.set_cons_succ, List.flatMap_cons]
/-- A vector stored into a row that is the call's own. -/
theorem OV.store {w : World} {base g n cap : Nat} {L : List (Nat → Int)} (h : OV w base (.slice (some ⟨g, 0, none⟩) n cap) L) (k : Nat) (hk : k < L.length) (x : Nat → Int) :
    OV ((((w.setCell ⟨g, k * 4, none⟩ (.int .i32 (x 0))).setCell ⟨g, k * 4 + 1, none⟩ (.int .i32 (x 1))).setCell ⟨g, k * 4 + 2, none⟩ (.int .i32 (x 2))).setCell ⟨g, k * 4 + 3, none⟩ (.int .i32 (x 3))) base (.slice (some ⟨g, 0, none⟩) n cap) (L.set k x) := by
  have hn : n = L.length := by obtain ⟨_, _, e, _⟩ := GO.shape h; cases e; rfl
  subst hn
  have h0 : w.ownsRow base 28 4 (.slice (some ⟨g, 0, none⟩) L.length cap) L.length (L.flatMap vEnc) := h
  have h1 := (World.ownsRow.stored (World.ownsRow.stored (World.ownsRow.stored (World.ownsRow.stored h0 (k * 4) (.int .i32 (x 0))).1 (k * 4 + 1) (.int .i32 (x 1))).1 (k * 4 + 2) (.int .i32 (x 2))).1 (k * 4 + 3) (.int .i32 (x 3))).1
  unfold OV GO
  rw [List.length_set, ← flat_set4 x L k hk]
  exact h1
theorem OV.frozen {w : World} {base g n cap : Nat} {L : List (Nat → Int)} (h : OV w base (.slice (some ⟨g, 0, none⟩) n cap) L) (j : Nat) : w.frozen? ⟨g, j, none⟩ = false := by
  have hn : n = L.length := by obtain ⟨_, _, e, _⟩ := GO.shape h; cases e; rfl
  subst hn
  have h0 : w.ownsRow base 28 4 (.slice (some ⟨g, 0, none⟩) L.length cap) L.length (L.flatMap vEnc) := h
  exact World.ownsRow.frozenAt h0 j
theorem OV.other {w w' : World} {base : Nat} {v : Value} {L : List (Nat → Int)} {r : Nat} (h : OV w base v L) (hg : w.grownBy w' (some r)) (hr : ∀ b, v.ownBlock = some b → b ≠ r) : OV w' base v L := GO.keep h hg hr
theorem grown4 (w : World) (g i0 i1 i2 i3 : Nat) (a0 a1 a2 a3 : Value) : w.grownBy ((((w.setCell ⟨g, i0, none⟩ a0).setCell ⟨g, i1, none⟩ a1).setCell ⟨g, i2, none⟩ a2).setCell ⟨g, i3, none⟩ a3) (some g) :=
  (((grownBy_set w g i0 _).trans (grownBy_set _ g i1 _)).trans (grownBy_set _ g i2 _)).trans (grownBy_set _ g i3 _)
end Go.Proofs.YtglfhmlcmffoaaaGreat

/-
  The machine of registers: what an OpStore does. Written by mkvst.py.
-/
namespace Go.Proofs.YtglfhmlcmffoaaaGreat
open Go.RowKit
set_option linter.unusedVariables false
set_option linter.unusedSimpArgs false

theorem mc_po (E : EnvC) (vr : Value) (O : OutC) (y : Nat → Int) : (((((mcA E vr O).setIfInBounds 14 (.int .i32 (y 0))).setIfInBounds 15 (.int .i32 (y 1))).setIfInBounds 16 (.int .i32 (y 2))).setIfInBounds 17 (.int .i32 (y 3))) = mcA E vr { O with po := y } := by simp [mcA]
theorem mc_sz (E : EnvC) (vr : Value) (O : OutC) (x : Int) : (mcA E vr O).setIfInBounds 18 (.int .i32 x) = mcA E vr { O with sz := x } := by simp [mcA]
theorem mc_cl (E : EnvC) (vr : Value) (O : OutC) (y : Nat → Int) : (((((mcA E vr O).setIfInBounds 20 (.int .i32 (y 0))).setIfInBounds 21 (.int .i32 (y 1))).setIfInBounds 22 (.int .i32 (y 2))).setIfInBounds 23 (.int .i32 (y 3))) = mcA E vr { O with cl := y } := by simp [mcA]
theorem Blk.blk4 {w : World} {b i0 i1 i2 i3 : Nat} {cs : Array Value} {t : TypeId} (h : Blk w b cs t) (a0 a1 a2 a3 : Value) :
    Blk ((((w.setCell ⟨b, i0, none⟩ a0).setCell ⟨b, i1, none⟩ a1).setCell ⟨b, i2, none⟩ a2).setCell ⟨b, i3, none⟩ a3) b ((((cs.setIfInBounds i0 a0).setIfInBounds i1 a1).setIfInBounds i2 a2).setIfInBounds i3 a3) t := (((h.set i0 a0).set i1 a1).set i2 a2).set i3 a3
theorem OV.ext9 {w w' : World} {base : Nat} {v : Value} {L : List (Nat → Int)} (h : OV w base v L) (hx : Ext w w') : OV w' base v L := GO.ext h hx
theorem grown_ext {w w1 w2 : World} {r : Nat} (hx : Ext w w1) (hg : w1.grownBy w2 (some r)) : w.grownBy w2 (some r) := (extGrownG hx (some r)).trans hg

set_option maxRecDepth 10000 in
set_option maxHeartbeats 4000000 in
theorem store_1 {w : World} {mb : Nat} {E : EnvC} {vr : Value} {O : OutC} {R : List (Nat → Int)} (I : Nat → Int) (e1 : I 1 = 1) (hm : Blk w mb (mcA E vr O) 71) (hr : VRow w vr R) (h6 : 0 ≤ I 6 ∧ I 6 < (R.length : Int)) :
    Calls Tryz.prog 41 #[.pointer (some ⟨mb, 0, none⟩), .agg (insA I)] w fun e w' => e = .returned (.tuple #[]) ∧ Blk w' mb (mcA E vr { O with po := reg R (I 6) }) 71 ∧ w.grownBy w' (some mb) := by
  have hX : Ext w (w.alloc (.cells (insA I) 59)) := (Ext.refl w).alloc _
  have hI : Blk (w.alloc (.cells (insA I) 59)) w.heap.size (insA I) 59 := Blk.new w _ _
  have D := hide (And.intro hI (And.intro (hm.ext hX) (And.intro (hr.ext hX) hX)))
  have HM := hide hm
  have hmb := hm.lt
  clear hX hI hm hr
  go_enter Tryz.func41, Tryz.ntmps41
  go_upto_region 1 with fail
  generalize hw1 : (w.alloc (.cells (insA I) 59)) = w1 at D ⊢
  clear hw1
  have hne : ¬ mb = w.heap.size := by omega
  have hsz : w.heap.size < w1.heap.size := (unhide D).1.lt
  obtain ⟨b, off, cap, ev, hbl, hall⟩ := (unhide D).2.2.1.slc (by have := h6.1; have := h6.2; omega)
  have m13 := mc_at (unhide D).2.1 13 (v := vr) rfl
  rw [ev] at m13
  obtain ⟨k6, ek6, hk6, r60, r61, r62, r63⟩ := hall (I 6) h6.1 h6.2
  have i6 := ins_at (unhide D).1 6 (v := .int .i64 (I 6)) rfl
  rw [ek6] at i6
  have i1 := ins_at (unhide D).1 1 (v := .int .i64 (I 1)) rfl
  rw [e1] at i1
  have HI1 := hide (fun wx (hx : Ext w1 wx) => (hx.cell (World.block_lt_of_cell? _ _ i1)).trans i1)
  obtain ⟨y, hy⟩ : ∃ y, reg R (I 6) = y := ⟨_, rfl⟩
  rw [hy] at r60 r61 r62 r63
  have HY := hide hy
  clear h6 hall ek6 ev e1 hy
  generalize R.length = n at *
  go_cut [4] (fun p wc => ∃ bc, p = .pointer (some ⟨bc, 0, none⟩) ∧ Hid (Ext w1 wc ∧ Blk wc bc #[.int .i32 (y 0), .int .i32 (y 1), .int .i32 (y 2), .int .i32 (y 3)] 28 ∧ w1.heap.size ≤ bc))
  case first =>
    have HCL := hide (fun wx (hx : Ext w1 wx) => show wx.cell? ⟨mb, 13, none⟩ = some (.slice (some ⟨b, off, none⟩) n cap) ∧ wx.cell? ⟨w.heap.size, 6, none⟩ = some (.int .i64 (k6 : Int)) ∧ wx.cell? ⟨b, off + k6 * 4, none⟩ = some (.int .i32 (y 0)) ∧ wx.cell? ⟨b, off + k6 * 4 + 1, none⟩ = some (.int .i32 (y 1)) ∧ wx.cell? ⟨b, off + k6 * 4 + 2, none⟩ = some (.int .i32 (y 2)) ∧ wx.cell? ⟨b, off + k6 * 4 + 3, none⟩ = some (.int .i32 (y 3)) from
      ⟨(hx.cell (World.block_lt_of_cell? _ _ m13)).trans m13, (hx.cell (World.block_lt_of_cell? _ _ i6)).trans i6, (hx.cell (World.block_lt_of_cell? _ _ r60)).trans r60, (hx.cell (World.block_lt_of_cell? _ _ r61)).trans r61, (hx.cell (World.block_lt_of_cell? _ _ r62)).trans r62, (hx.cell (World.block_lt_of_cell? _ _ r63)).trans r63⟩)
    go_region_held3 (fun wx => wx.cell? ⟨mb, 13, none⟩ = some (.slice (some ⟨b, off, none⟩) n cap) ∧ wx.cell? ⟨w.heap.size, 6, none⟩ = some (.int .i64 (k6 : Int)) ∧ wx.cell? ⟨b, off + k6 * 4, none⟩ = some (.int .i32 (y 0)) ∧ wx.cell? ⟨b, off + k6 * 4 + 1, none⟩ = some (.int .i32 (y 1)) ∧ wx.cell? ⟨b, off + k6 * 4 + 2, none⟩ = some (.int .i32 (y 2)) ∧ wx.cell? ⟨b, off + k6 * 4 + 3, none⟩ = some (.int .i32 (y 3)))
      (first | with_reducible exact unhide HCL _ ((Ext.refl _).drew) | with_reducible exact unhide HCL _ (((Ext.refl _).alloc _).drew) | with_reducible exact unhide HCL _ ((Ext.refl _).alloc _))
      (fail)
    all_goals go_wp2
    all_goals go_meet
    all_goals first | exact ⟨w1.heap.size, rfl, ((Ext.refl w1).drew).alloc _, Blk.at rfl, Nat.le_refl _⟩ | exact ⟨w1.heap.size, rfl, ((Ext.refl w1).alloc _).drew, (Blk.new w1 _ _).ext ((Ext.refl _).drew), Nat.le_refl _⟩ | exact ⟨w1.heap.size, rfl, (Ext.refl w1).alloc _, Blk.new w1 _ _, Nat.le_refl _⟩
  case rest =>
  obtain ⟨bc, rfl, hcut⟩ := hcut
  rename_i wc
  have hx := (unhide hcut).1
  have hbc := (unhide hcut).2.2
  have C := hide (unhide hcut).2.1
  obtain ⟨c0, c1, c2, c3⟩ := (unhide C).vec4
  have hbm : ¬ mb = bc := by omega
  have j1 := unhide HI1 wc hx
  have M := hide ((unhide D).2.1.ext hx)
  have X := hide ((unhide D).2.2.2.trans hx)
  clear D i1 m13 i6 r60 r61 r62 r63 HI1 hx hcut
  have m0 := (unhide M).free 14
  have x0 := mc_at (unhide M) 14 (v := .int .i32 (O.po 0)) rfl
  have z0 := (unhide M).free 14
  have x1 := mc_at (unhide M) 15 (v := .int .i32 (O.po 1)) rfl
  have z1 := (unhide M).free 15
  have x2 := mc_at (unhide M) 16 (v := .int .i32 (O.po 2)) rfl
  have z2 := (unhide M).free 16
  have x3 := mc_at (unhide M) 17 (v := .int .i32 (O.po 3)) rfl
  have z3 := (unhide M).free 17
  go_wp2
  refine bodyPost_end (v := .tuple #[]) (by simp [results, Tryz.results41, go_sem]) rfl ⟨rfl, ?_, ?_⟩
  · rw [unhide HY, ← mc_po]
    exact (unhide M).blk4 _ _ _ _
  · exact grown_ext (unhide X) (grown4 _ _ _ _ _ _ _ _ _ _)

set_option maxRecDepth 10000 in
set_option maxHeartbeats 4000000 in
theorem store_2 {w : World} {mb : Nat} {E : EnvC} {vr : Value} {O : OutC} {R : List (Nat → Int)} (I : Nat → Int) (e1 : I 1 = 2) (hm : Blk w mb (mcA E vr O) 71) (hr : VRow w vr R) (h6 : 0 ≤ I 6 ∧ I 6 < (R.length : Int)) :
    Calls Tryz.prog 41 #[.pointer (some ⟨mb, 0, none⟩), .agg (insA I)] w fun e w' => e = .returned (.tuple #[]) ∧ Blk w' mb (mcA E vr { O with sz := reg R (I 6) 0 }) 71 ∧ w.grownBy w' (some mb) := by
  have hX : Ext w (w.alloc (.cells (insA I) 59)) := (Ext.refl w).alloc _
  have hI : Blk (w.alloc (.cells (insA I) 59)) w.heap.size (insA I) 59 := Blk.new w _ _
  have D := hide (And.intro hI (And.intro (hm.ext hX) (And.intro (hr.ext hX) hX)))
  have HM := hide hm
  have hmb := hm.lt
  clear hX hI hm hr
  go_enter Tryz.func41, Tryz.ntmps41
  go_upto_region 1 with fail
  generalize hw1 : (w.alloc (.cells (insA I) 59)) = w1 at D ⊢
  clear hw1
  have hne : ¬ mb = w.heap.size := by omega
  have hsz : w.heap.size < w1.heap.size := (unhide D).1.lt
  obtain ⟨b, off, cap, ev, hbl, hall⟩ := (unhide D).2.2.1.slc (by have := h6.1; have := h6.2; omega)
  have m13 := mc_at (unhide D).2.1 13 (v := vr) rfl
  rw [ev] at m13
  obtain ⟨k6, ek6, hk6, r60, r61, r62, r63⟩ := hall (I 6) h6.1 h6.2
  have i6 := ins_at (unhide D).1 6 (v := .int .i64 (I 6)) rfl
  rw [ek6] at i6
  have i1 := ins_at (unhide D).1 1 (v := .int .i64 (I 1)) rfl
  rw [e1] at i1
  have HI1 := hide (fun wx (hx : Ext w1 wx) => (hx.cell (World.block_lt_of_cell? _ _ i1)).trans i1)
  obtain ⟨y, hy⟩ : ∃ y, reg R (I 6) = y := ⟨_, rfl⟩
  rw [hy] at r60 r61 r62 r63
  have HY := hide hy
  clear h6 hall ek6 ev e1 hy
  generalize R.length = n at *
  go_cut [4] (fun p wc => ∃ bc, p = .pointer (some ⟨bc, 0, none⟩) ∧ Hid (Ext w1 wc ∧ Blk wc bc #[.int .i32 (y 0), .int .i32 (y 1), .int .i32 (y 2), .int .i32 (y 3)] 28 ∧ w1.heap.size ≤ bc))
  case first =>
    have HCL := hide (fun wx (hx : Ext w1 wx) => show wx.cell? ⟨mb, 13, none⟩ = some (.slice (some ⟨b, off, none⟩) n cap) ∧ wx.cell? ⟨w.heap.size, 6, none⟩ = some (.int .i64 (k6 : Int)) ∧ wx.cell? ⟨b, off + k6 * 4, none⟩ = some (.int .i32 (y 0)) ∧ wx.cell? ⟨b, off + k6 * 4 + 1, none⟩ = some (.int .i32 (y 1)) ∧ wx.cell? ⟨b, off + k6 * 4 + 2, none⟩ = some (.int .i32 (y 2)) ∧ wx.cell? ⟨b, off + k6 * 4 + 3, none⟩ = some (.int .i32 (y 3)) from
      ⟨(hx.cell (World.block_lt_of_cell? _ _ m13)).trans m13, (hx.cell (World.block_lt_of_cell? _ _ i6)).trans i6, (hx.cell (World.block_lt_of_cell? _ _ r60)).trans r60, (hx.cell (World.block_lt_of_cell? _ _ r61)).trans r61, (hx.cell (World.block_lt_of_cell? _ _ r62)).trans r62, (hx.cell (World.block_lt_of_cell? _ _ r63)).trans r63⟩)
    go_region_held3 (fun wx => wx.cell? ⟨mb, 13, none⟩ = some (.slice (some ⟨b, off, none⟩) n cap) ∧ wx.cell? ⟨w.heap.size, 6, none⟩ = some (.int .i64 (k6 : Int)) ∧ wx.cell? ⟨b, off + k6 * 4, none⟩ = some (.int .i32 (y 0)) ∧ wx.cell? ⟨b, off + k6 * 4 + 1, none⟩ = some (.int .i32 (y 1)) ∧ wx.cell? ⟨b, off + k6 * 4 + 2, none⟩ = some (.int .i32 (y 2)) ∧ wx.cell? ⟨b, off + k6 * 4 + 3, none⟩ = some (.int .i32 (y 3)))
      (first | with_reducible exact unhide HCL _ ((Ext.refl _).drew) | with_reducible exact unhide HCL _ (((Ext.refl _).alloc _).drew) | with_reducible exact unhide HCL _ ((Ext.refl _).alloc _))
      (fail)
    all_goals go_wp2
    all_goals go_meet
    all_goals first | exact ⟨w1.heap.size, rfl, ((Ext.refl w1).drew).alloc _, Blk.at rfl, Nat.le_refl _⟩ | exact ⟨w1.heap.size, rfl, ((Ext.refl w1).alloc _).drew, (Blk.new w1 _ _).ext ((Ext.refl _).drew), Nat.le_refl _⟩ | exact ⟨w1.heap.size, rfl, (Ext.refl w1).alloc _, Blk.new w1 _ _, Nat.le_refl _⟩
  case rest =>
  obtain ⟨bc, rfl, hcut⟩ := hcut
  rename_i wc
  have hx := (unhide hcut).1
  have hbc := (unhide hcut).2.2
  have C := hide (unhide hcut).2.1
  obtain ⟨c0, c1, c2, c3⟩ := (unhide C).vec4
  have hbm : ¬ mb = bc := by omega
  have j1 := unhide HI1 wc hx
  have M := hide ((unhide D).2.1.ext hx)
  have X := hide ((unhide D).2.2.2.trans hx)
  clear D i1 m13 i6 r60 r61 r62 r63 HI1 hx hcut
  have x0 := mc_at (unhide M) 18 (v := .int .i32 O.sz) rfl
  have z0 := (unhide M).free 18
  go_wp2
  refine bodyPost_end (v := .tuple #[]) (by simp [results, Tryz.results41, go_sem]) rfl ⟨rfl, ?_, ?_⟩
  · rw [unhide HY, ← mc_sz]
    exact (unhide M).set 18 _
  · exact grown_ext (unhide X) (grownBy_set _ _ _ _)

set_option maxRecDepth 10000 in
set_option maxHeartbeats 4000000 in
theorem store_4 {w : World} {mb : Nat} {E : EnvC} {vr : Value} {O : OutC} {R : List (Nat → Int)} (I : Nat → Int) (e1 : I 1 = 4) (hm : Blk w mb (mcA E vr O) 71) (hr : VRow w vr R) (h6 : 0 ≤ I 6 ∧ I 6 < (R.length : Int)) :
    Calls Tryz.prog 41 #[.pointer (some ⟨mb, 0, none⟩), .agg (insA I)] w fun e w' => e = .returned (.tuple #[]) ∧ Blk w' mb (mcA E vr { O with cl := reg R (I 6) }) 71 ∧ w.grownBy w' (some mb) := by
  have hX : Ext w (w.alloc (.cells (insA I) 59)) := (Ext.refl w).alloc _
  have hI : Blk (w.alloc (.cells (insA I) 59)) w.heap.size (insA I) 59 := Blk.new w _ _
  have D := hide (And.intro hI (And.intro (hm.ext hX) (And.intro (hr.ext hX) hX)))
  have HM := hide hm
  have hmb := hm.lt
  clear hX hI hm hr
  go_enter Tryz.func41, Tryz.ntmps41
  go_upto_region 1 with fail
  generalize hw1 : (w.alloc (.cells (insA I) 59)) = w1 at D ⊢
  clear hw1
  have hne : ¬ mb = w.heap.size := by omega
  have hsz : w.heap.size < w1.heap.size := (unhide D).1.lt
  obtain ⟨b, off, cap, ev, hbl, hall⟩ := (unhide D).2.2.1.slc (by have := h6.1; have := h6.2; omega)
  have m13 := mc_at (unhide D).2.1 13 (v := vr) rfl
  rw [ev] at m13
  obtain ⟨k6, ek6, hk6, r60, r61, r62, r63⟩ := hall (I 6) h6.1 h6.2
  have i6 := ins_at (unhide D).1 6 (v := .int .i64 (I 6)) rfl
  rw [ek6] at i6
  have i1 := ins_at (unhide D).1 1 (v := .int .i64 (I 1)) rfl
  rw [e1] at i1
  have HI1 := hide (fun wx (hx : Ext w1 wx) => (hx.cell (World.block_lt_of_cell? _ _ i1)).trans i1)
  obtain ⟨y, hy⟩ : ∃ y, reg R (I 6) = y := ⟨_, rfl⟩
  rw [hy] at r60 r61 r62 r63
  have HY := hide hy
  clear h6 hall ek6 ev e1 hy
  generalize R.length = n at *
  go_cut [4] (fun p wc => ∃ bc, p = .pointer (some ⟨bc, 0, none⟩) ∧ Hid (Ext w1 wc ∧ Blk wc bc #[.int .i32 (y 0), .int .i32 (y 1), .int .i32 (y 2), .int .i32 (y 3)] 28 ∧ w1.heap.size ≤ bc))
  case first =>
    have HCL := hide (fun wx (hx : Ext w1 wx) => show wx.cell? ⟨mb, 13, none⟩ = some (.slice (some ⟨b, off, none⟩) n cap) ∧ wx.cell? ⟨w.heap.size, 6, none⟩ = some (.int .i64 (k6 : Int)) ∧ wx.cell? ⟨b, off + k6 * 4, none⟩ = some (.int .i32 (y 0)) ∧ wx.cell? ⟨b, off + k6 * 4 + 1, none⟩ = some (.int .i32 (y 1)) ∧ wx.cell? ⟨b, off + k6 * 4 + 2, none⟩ = some (.int .i32 (y 2)) ∧ wx.cell? ⟨b, off + k6 * 4 + 3, none⟩ = some (.int .i32 (y 3)) from
      ⟨(hx.cell (World.block_lt_of_cell? _ _ m13)).trans m13, (hx.cell (World.block_lt_of_cell? _ _ i6)).trans i6, (hx.cell (World.block_lt_of_cell? _ _ r60)).trans r60, (hx.cell (World.block_lt_of_cell? _ _ r61)).trans r61, (hx.cell (World.block_lt_of_cell? _ _ r62)).trans r62, (hx.cell (World.block_lt_of_cell? _ _ r63)).trans r63⟩)
    go_region_held3 (fun wx => wx.cell? ⟨mb, 13, none⟩ = some (.slice (some ⟨b, off, none⟩) n cap) ∧ wx.cell? ⟨w.heap.size, 6, none⟩ = some (.int .i64 (k6 : Int)) ∧ wx.cell? ⟨b, off + k6 * 4, none⟩ = some (.int .i32 (y 0)) ∧ wx.cell? ⟨b, off + k6 * 4 + 1, none⟩ = some (.int .i32 (y 1)) ∧ wx.cell? ⟨b, off + k6 * 4 + 2, none⟩ = some (.int .i32 (y 2)) ∧ wx.cell? ⟨b, off + k6 * 4 + 3, none⟩ = some (.int .i32 (y 3)))
      (first | with_reducible exact unhide HCL _ ((Ext.refl _).drew) | with_reducible exact unhide HCL _ (((Ext.refl _).alloc _).drew) | with_reducible exact unhide HCL _ ((Ext.refl _).alloc _))
      (fail)
    all_goals go_wp2
    all_goals go_meet
    all_goals first | exact ⟨w1.heap.size, rfl, ((Ext.refl w1).drew).alloc _, Blk.at rfl, Nat.le_refl _⟩ | exact ⟨w1.heap.size, rfl, ((Ext.refl w1).alloc _).drew, (Blk.new w1 _ _).ext ((Ext.refl _).drew), Nat.le_refl _⟩ | exact ⟨w1.heap.size, rfl, (Ext.refl w1).alloc _, Blk.new w1 _ _, Nat.le_refl _⟩
  case rest =>
  obtain ⟨bc, rfl, hcut⟩ := hcut
  rename_i wc
  have hx := (unhide hcut).1
  have hbc := (unhide hcut).2.2
  have C := hide (unhide hcut).2.1
  obtain ⟨c0, c1, c2, c3⟩ := (unhide C).vec4
  have hbm : ¬ mb = bc := by omega
  have j1 := unhide HI1 wc hx
  have M := hide ((unhide D).2.1.ext hx)
  have X := hide ((unhide D).2.2.2.trans hx)
  clear D i1 m13 i6 r60 r61 r62 r63 HI1 hx hcut
  have m0 := (unhide M).free 20
  have x0 := mc_at (unhide M) 20 (v := .int .i32 (O.cl 0)) rfl
  have z0 := (unhide M).free 20
  have x1 := mc_at (unhide M) 21 (v := .int .i32 (O.cl 1)) rfl
  have z1 := (unhide M).free 21
  have x2 := mc_at (unhide M) 22 (v := .int .i32 (O.cl 2)) rfl
  have z2 := (unhide M).free 22
  have x3 := mc_at (unhide M) 23 (v := .int .i32 (O.cl 3)) rfl
  have z3 := (unhide M).free 23
  go_wp2
  refine bodyPost_end (v := .tuple #[]) (by simp [results, Tryz.results41, go_sem]) rfl ⟨rfl, ?_, ?_⟩
  · rw [unhide HY, ← mc_cl]
    exact (unhide M).blk4 _ _ _ _
  · exact grown_ext (unhide X) (grown4 _ _ _ _ _ _ _ _ _ _)

set_option maxRecDepth 10000 in
set_option maxHeartbeats 4000000 in
theorem store_3 {w : World} {mb : Nat} {E : EnvC} {vr : Value} {O : OutC} {R : List (Nat → Int)} (I : Nat → Int) (e1 : I 1 = 3) (hm : Blk w mb (mcA E vr O) 71) (hr : VRow w vr R) (h6 : 0 ≤ I 6 ∧ I 6 < (R.length : Int)) {base : Nat} {V : List (Nat → Int)} (hv : OV w base O.vy V) (h5 : 0 ≤ I 5 ∧ I 5 < (V.length : Int)) (hvm : ∀ g, O.vy.ownBlock = some g → g ≠ mb) :
    Calls Tryz.prog 41 #[.pointer (some ⟨mb, 0, none⟩), .agg (insA I)] w fun e w' => e = .returned (.tuple #[]) ∧ ∃ g, O.vy.ownBlock = some g ∧ OV w' base O.vy (V.set (I 5).toNat (reg R (I 6))) ∧ w.grownBy w' (some g) := by
  have hX : Ext w (w.alloc (.cells (insA I) 59)) := (Ext.refl w).alloc _
  have hI : Blk (w.alloc (.cells (insA I) 59)) w.heap.size (insA I) 59 := Blk.new w _ _
  have D := hide (And.intro hI (And.intro (hm.ext hX) (And.intro (hr.ext hX) hX)))
  have HM := hide hm
  have hmb := hm.lt
  clear hX hI hm hr
  go_enter Tryz.func41, Tryz.ntmps41
  go_upto_region 1 with fail
  generalize hw1 : (w.alloc (.cells (insA I) 59)) = w1 at D ⊢
  clear hw1
  have hne : ¬ mb = w.heap.size := by omega
  have hsz : w.heap.size < w1.heap.size := (unhide D).1.lt
  obtain ⟨b, off, cap, ev, hbl, hall⟩ := (unhide D).2.2.1.slc (by have := h6.1; have := h6.2; omega)
  have m13 := mc_at (unhide D).2.1 13 (v := vr) rfl
  rw [ev] at m13
  obtain ⟨k6, ek6, hk6, r60, r61, r62, r63⟩ := hall (I 6) h6.1 h6.2
  have i6 := ins_at (unhide D).1 6 (v := .int .i64 (I 6)) rfl
  rw [ek6] at i6
  have i1 := ins_at (unhide D).1 1 (v := .int .i64 (I 1)) rfl
  rw [e1] at i1
  have HI1 := hide (fun wx (hx : Ext w1 wx) => (hx.cell (World.block_lt_of_cell? _ _ i1)).trans i1)
  obtain ⟨y, hy⟩ : ∃ y, reg R (I 6) = y := ⟨_, rfl⟩
  rw [hy] at r60 r61 r62 r63
  have HY := hide hy
  clear h6 hall ek6 ev e1 hy
  generalize R.length = n at *
  go_cut [4] (fun p wc => ∃ bc, p = .pointer (some ⟨bc, 0, none⟩) ∧ Hid (Ext w1 wc ∧ Blk wc bc #[.int .i32 (y 0), .int .i32 (y 1), .int .i32 (y 2), .int .i32 (y 3)] 28 ∧ w1.heap.size ≤ bc))
  case first =>
    have HCL := hide (fun wx (hx : Ext w1 wx) => show wx.cell? ⟨mb, 13, none⟩ = some (.slice (some ⟨b, off, none⟩) n cap) ∧ wx.cell? ⟨w.heap.size, 6, none⟩ = some (.int .i64 (k6 : Int)) ∧ wx.cell? ⟨b, off + k6 * 4, none⟩ = some (.int .i32 (y 0)) ∧ wx.cell? ⟨b, off + k6 * 4 + 1, none⟩ = some (.int .i32 (y 1)) ∧ wx.cell? ⟨b, off + k6 * 4 + 2, none⟩ = some (.int .i32 (y 2)) ∧ wx.cell? ⟨b, off + k6 * 4 + 3, none⟩ = some (.int .i32 (y 3)) from
      ⟨(hx.cell (World.block_lt_of_cell? _ _ m13)).trans m13, (hx.cell (World.block_lt_of_cell? _ _ i6)).trans i6, (hx.cell (World.block_lt_of_cell? _ _ r60)).trans r60, (hx.cell (World.block_lt_of_cell? _ _ r61)).trans r61, (hx.cell (World.block_lt_of_cell? _ _ r62)).trans r62, (hx.cell (World.block_lt_of_cell? _ _ r63)).trans r63⟩)
    go_region_held3 (fun wx => wx.cell? ⟨mb, 13, none⟩ = some (.slice (some ⟨b, off, none⟩) n cap) ∧ wx.cell? ⟨w.heap.size, 6, none⟩ = some (.int .i64 (k6 : Int)) ∧ wx.cell? ⟨b, off + k6 * 4, none⟩ = some (.int .i32 (y 0)) ∧ wx.cell? ⟨b, off + k6 * 4 + 1, none⟩ = some (.int .i32 (y 1)) ∧ wx.cell? ⟨b, off + k6 * 4 + 2, none⟩ = some (.int .i32 (y 2)) ∧ wx.cell? ⟨b, off + k6 * 4 + 3, none⟩ = some (.int .i32 (y 3)))
      (first | with_reducible exact unhide HCL _ ((Ext.refl _).drew) | with_reducible exact unhide HCL _ (((Ext.refl _).alloc _).drew) | with_reducible exact unhide HCL _ ((Ext.refl _).alloc _))
      (fail)
    all_goals go_wp2
    all_goals go_meet
    all_goals first | exact ⟨w1.heap.size, rfl, ((Ext.refl w1).drew).alloc _, Blk.at rfl, Nat.le_refl _⟩ | exact ⟨w1.heap.size, rfl, ((Ext.refl w1).alloc _).drew, (Blk.new w1 _ _).ext ((Ext.refl _).drew), Nat.le_refl _⟩ | exact ⟨w1.heap.size, rfl, (Ext.refl w1).alloc _, Blk.new w1 _ _, Nat.le_refl _⟩
  case rest =>
  obtain ⟨bc, rfl, hcut⟩ := hcut
  rename_i wc
  have hx := (unhide hcut).1
  have hbc := (unhide hcut).2.2
  have C := hide (unhide hcut).2.1
  obtain ⟨c0, c1, c2, c3⟩ := (unhide C).vec4
  have hbm : ¬ mb = bc := by omega
  have j1 := unhide HI1 wc hx
  have M := hide ((unhide D).2.1.ext hx)
  have X := hide ((unhide D).2.2.2.trans hx)
  obtain ⟨gv, nv, cv, evy⟩ : ∃ gv nv cv, O.vy = .slice (some ⟨gv, 0, none⟩) nv cv := by
    rcases hv.2 with ⟨e, h0⟩ | ⟨g, cap, cur, e, _⟩
    · omega
    · exact ⟨g, _, cap, e⟩
  have hnv : nv = V.length := by
    obtain ⟨_, _, e, _⟩ := GO.shape hv
    rw [evy] at e
    cases e
    rfl
  subst hnv
  rw [evy] at hv
  have HV := hide hv
  have HVX := hide (OV.ext9 hv ((unhide D).2.2.2.trans hx))
  obtain ⟨k5, ek5⟩ : ∃ k5 : Nat, I 5 = (k5 : Int) := ⟨(I 5).toNat, by omega⟩
  have hk5 : k5 < V.length := by omega
  have hk5i : (k5 : Int) < (V.length : Int) := by omega
  have hgm : gv ≠ mb := hvm gv (by rw [evy]; rfl)
  have hgl : gv < w.heap.size := (GO.lt hv gv rfl).2
  have m19 := mc_at (unhide M) 19 (v := O.vy) rfl
  rw [evy] at m19
  have j5 := ins_at ((unhide D).1.ext hx) 5 (v := .int .i64 (I 5)) rfl
  rw [ek5] at j5
  have HT := hide (show (I 5).toNat = k5 by omega)
  have HEV := hide evy
  obtain ⟨g', e', _, _, hcell⟩ := GO.at vEnc_len (unhide HVX) k5 hk5
  cases e'
  have v0 := hcell 0 _ (by omega) rfl
  have v1 := hcell 1 _ (by omega) rfl
  have v2 := hcell 2 _ (by omega) rfl
  have v3 := hcell 3 _ (by omega) rfl
  simp only [Nat.add_zero] at v0
  have w0 := (unhide HVX).frozen (k5 * 4)
  have w1f := (unhide HVX).frozen (k5 * 4 + 1)
  have w2f := (unhide HVX).frozen (k5 * 4 + 2)
  have w3f := (unhide HVX).frozen (k5 * 4 + 3)
  have hwz : w.heap.size ≠ gv := by omega
  have hbg : bc ≠ gv := by omega
  have hmg : mb ≠ gv := fun e => hgm e.symm
  generalize V[k5] = u5 at v0 v1 v2 v3
  have HK := hide hk5
  clear D i1 m13 i6 r60 r61 r62 r63 HI1 hx hcut hv hvm h5 evy hcell ek5 hk5
  generalize hVl : V.length = nv at *
  go_upto_region 8 with fail
  have HCL := hide (fun wx (hg : wc.grownBy wx (some gv)) => show wx.cell? ⟨mb, 19, none⟩ = some (.slice (some ⟨gv, 0, none⟩) nv cv) ∧ wx.cell? ⟨w.heap.size, 5, none⟩ = some (.int .i64 (k5 : Int)) ∧ wx.cell? ⟨bc, 0, none⟩ = some (.int .i32 (y 0)) ∧ wx.cell? ⟨bc, 1, none⟩ = some (.int .i32 (y 1)) ∧ wx.cell? ⟨bc, 2, none⟩ = some (.int .i32 (y 2)) ∧ wx.cell? ⟨bc, 3, none⟩ = some (.int .i32 (y 3)) from
    ⟨cell_grown hg m19 (by first | assumption | omega), cell_grown hg j5 (by first | assumption | omega), cell_grown hg c0 (by first | assumption | omega), cell_grown hg c1 (by first | assumption | omega), cell_grown hg c2 (by first | assumption | omega), cell_grown hg c3 (by first | assumption | omega)⟩)
  go_region_held3 (fun wx => wx.cell? ⟨mb, 19, none⟩ = some (.slice (some ⟨gv, 0, none⟩) nv cv) ∧ wx.cell? ⟨w.heap.size, 5, none⟩ = some (.int .i64 (k5 : Int)) ∧ wx.cell? ⟨bc, 0, none⟩ = some (.int .i32 (y 0)) ∧ wx.cell? ⟨bc, 1, none⟩ = some (.int .i32 (y 1)) ∧ wx.cell? ⟨bc, 2, none⟩ = some (.int .i32 (y 2)) ∧ wx.cell? ⟨bc, 3, none⟩ = some (.int .i32 (y 3)))
    (first | with_reducible exact unhide HCL _ (grown_ofExt _ ((Ext.refl _).drew)) | with_reducible exact unhide HCL _ (grown_set4 ((Ext.refl _).drew)))
    (fail)
  all_goals go_wp2
  all_goals refine bodyPost_end (v := .tuple #[]) (by simp [results, Tryz.results41, go_sem]) rfl ⟨rfl, gv, by rw [unhide HEV]; rfl, ?_, ?_⟩
  · rw [unhide HEV, unhide HT, unhide HY]
    subst hVl
    exact OV.ext9 ((unhide HVX).store k5 (unhide HK) y) ((Ext.refl _).drew)
  · exact grown_ext (unhide X) (grown_set4 ((Ext.refl _).drew))

end Go.Proofs.YtglfhmlcmffoaaaGreat
