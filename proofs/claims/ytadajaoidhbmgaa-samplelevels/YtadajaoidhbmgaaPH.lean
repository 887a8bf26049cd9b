/-
  Pixels: rows of vectors in memory, and the walks of Lay and Pack. What the dump lacks is left out.
-/
import Derived.Test.YtadajaoidhbmgaaPDJ
import Derived.Test.YtadajaoidhbmgaaW1J
import Derived.Deep.RegionHeld3
namespace Go.Proofs.Ytadajaoidhbmgaa
open Go.RowKit

/-- Nothing but 0. -/
def nul : Nat → Int := fun _ => 0
/-- The slice value v holds the vectors cs. -/
def VRow (w : World) (v : Value) (cs : List (Nat → Int)) : Prop :=
  (cs = [] ∧ ∃ ao cap, v = .slice ao 0 cap) ∨
  (cs ≠ [] ∧ ∃ b off cap, v = .slice (some ⟨b, off, none⟩) cs.length cap ∧ ∀ i j, i < cs.length → j < 4 → w.cell? ⟨b, off + i * 4 + j, none⟩ = some (.int .i32 (cs.getD i nul j)))
theorem VRow.ext {w w' : World} {v : Value} {cs : List (Nat → Int)} (h : VRow w v cs) (hx : Ext w w') : VRow w' v cs := by
  rcases h with h | ⟨hne, b, off, cap, rfl, hc⟩
  · exact .inl h
  · refine .inr ⟨hne, b, off, cap, rfl, fun i j hi hj => ?_⟩
    rw [hx.cell (p := ⟨b, off + i * 4 + j, none⟩) (World.block_lt_of_cell? w _ (hc i j hi hj))]
    exact hc i j hi hj
theorem VRow.shape {w : World} {v : Value} {cs : List (Nat → Int)} (h : VRow w v cs) : ∃ ao cap, v = .slice ao cs.length cap := by
  rcases h with ⟨rfl, ao, cap, rfl⟩ | ⟨_, b, off, cap, rfl, _⟩
  · exact ⟨ao, cap, rfl⟩
  · exact ⟨_, cap, rfl⟩
theorem VRow.at {w : World} {ao : Option Addr} {n cap : Nat} {cs : List (Nat → Int)} (h : VRow w (.slice ao n cap) cs) (i : Nat) (hi : i < cs.length) :
    ∃ b off, ao = some ⟨b, off, none⟩ ∧ ∀ i j, i < cs.length → j < 4 → w.cell? ⟨b, off + i * 4 + j, none⟩ = some (.int .i32 (cs.getD i nul j)) := by
  rcases h with ⟨rfl, _⟩ | ⟨_, b, off, c, hv, hc⟩
  · simp at hi
  · cases hv
    exact ⟨b, off, rfl, hc⟩

/-- The bytes of a colour. -/
def pk (f : Nat) (c : Nat → Int) : List Int := low (packN f c) (siz f)
/-- The bytes of all colours. -/
def layL (f : Nat) (cs : List (Nat → Int)) : List Int := cs.flatMap (pk f)
theorem pk_length (f : Nat) (c : Nat → Int) : (pk f c).length = siz f := low_length _ _
theorem layL_length (f : Nat) (cs : List (Nat → Int)) : (layL f cs).length = cs.length * siz f := by
  induction cs with
  | nil => simp [layL]
  | cons c cs ih =>
    unfold layL at *
    rw [List.flatMap_cons, List.length_append, ih, pk_length, List.length_cons, Nat.succ_mul]
    omega
theorem layL_next (f : Nat) (cs : List (Nat → Int)) (k : Nat) (hk : k < cs.length) : layL f (cs.take (k + 1)) = layL f (cs.take k) ++ pk f (cs.getD k nul) := by
  rw [List.take_succ_eq_append_getElem hk]
  unfold layL
  rw [List.flatMap_append]
  simp [hk]

/-- The block g holds the bytes xs, no more. -/
def Bys (w : World) (g : Nat) (xs : List Int) : Prop := w.heap[g]? = some (.cells (xs.map (Value.int .u8)).toArray 5 (0, 0))
theorem Own.bys {w : World} {base g n : Nat} {xs : List Int} (h : Own .u8 w base 5 (.slice (some ⟨g, 0, none⟩) n n) xs) : Bys w g xs := by
  obtain ⟨hl, h2⟩ := h
  rcases h2 with ⟨h2, _⟩ | ⟨g2, cap, cur, hv, hb, hg, hn, hm, hs, ht⟩
  · cases h2
  · cases hv
    have e : cur.toList = xs.map (Value.int .u8) := by
      rw [← ht]
      rw [List.take_of_length_le]
      simp
      omega
    unfold Bys
    rw [hg, ← e]
theorem Bys.row {w : World} {g : Nat} {xs : List Int} (h : Bys w g xs) (hm : xs.length ≤ maxLen) : Row .u8 w (.slice (some ⟨g, 0, none⟩) xs.length xs.length) xs := by
  by_cases h0 : xs = []
  · subst h0
    exact .inl ⟨rfl, _, _, rfl, (fun h => by cases h), Nat.zero_le _⟩
  · refine .inr ⟨h0, g, 0, xs.length, rfl, Nat.le_refl _, hm, fun i hi => ?_⟩
    have := Blk.cell (w := w) (b := g) h (i := 0 + i) (v := .int .u8 (xs.getD i 0)) (by simp [hi])
    exact this

theorem splice_mid (A ys : List Int) (m : Nat) : splice ((A ++ List.replicate m 0).map (Value.int .u8)) A.length (ys.map (Value.int .u8)) = (A ++ ys ++ List.replicate (m - ys.length) 0).map (Value.int .u8) := by
  unfold splice
  rw [List.map_append, List.take_left' (by simp), List.length_map, List.drop_append]
  simp

theorem Bys.ext {w w' : World} {g : Nat} {xs : List Int} (h : Bys w g xs) (hx : Ext w w') : Bys w' g xs := Blk.ext h hx
theorem bys_ext {w w' : World} {g : Nat} {xs : List Int} (hx : Ext w w') (h : Bys w g xs) : Bys w' g xs := Blk.ext h hx
theorem size5 : (Try.prog.info? 5).map (·.size) = some 1 := by kernel_rfl

theorem low_take (x : Int) (f : Nat) (h1 : 1 ≤ f) (h7 : f ≤ 7) (j : Nat) (hj : j < siz f) : (low x 4).getD j 0 = (low x (siz f)).getD j 0 := by
  rcases siz_three h1 h7 with h | h | h <;> rw [h] at hj ⊢
  · obtain rfl : j = 0 := by omega
    rfl
  · rcases (by omega : j = 0 ∨ j = 1) with rfl | rfl <;> rfl

/-- 'copy' into a block that is known whole, as one step of a region that draws. -/
theorem step_copy_own {P : Program} {ops : Array Oper} {o : Oper} {a : Act} {w : World} {K : Act → World → Prop} {Q : Exit → Act → World → Prop} {E : Prop} (hgd : o.guard = none) (d s : Operand) (dT sT : TypeId)
    (ho : o.op = .call { callee := .builtin .copy, args := #[d, s], argTypes := #[dT, sT] }) (elem : TypeId) (hu : P.underlying dT = some (.slice elem)) (hsz : (P.info? elem).map (·.size) = some 1)
    (g off dLen dCap : Nat) (ad : Addr) (sLen sCap : Nat) (hd : a.eval d = .slice (some ⟨g, off, none⟩) dLen dCap) (hs : a.eval s = .slice (some ad) sLen sCap)
    (cur : Array Value) (t : TypeId) (hg : w.heap[g]? = some (.cells cur t (0, 0))) (cs : List Value) (hn : cs.length = Nat.min sLen dLen)
    (hsrc : ∀ j v, cs[j]? = some v → w.cell? (ad.add j) = some v) (hfit : off + cs.length ≤ cur.size) (h1 : ∀ v ∈ cs, v.oneCell' = true)
    (h : K (a.put o.dst (goInt cs.length)) (w.setRow g (cur.toList.take off ++ (cs ++ cur.toList.drop (off + cs.length))).toArray)) :
    if Region.wanted o (yielded ops a.tmps) = true then Oper.wp P o a w K Q else E := by
  have hw : Region.wanted o (yielded ops a.tmps) = true := by simp [Region.wanted, hgd]
  rw [if_pos hw]
  have hrun := run_copy_row (P := P) w dT sT o.type elem g off dLen dCap ad sLen sCap cur t cs hu hsz hg hn hsrc hfit h1
  unfold Oper.wp
  simp [execOp, ho, resolve, invoke, builtin, hd, hs, hrun, Result.andThen]
  exact h

/-- The same for a pixel's bytes: S bytes of the four go to place k. -/
theorem step_copy_px {P : Program} {ops : Array Oper} {o : Oper} {a : Act} {w : World} {K : Act → World → Prop} {Q : Exit → Act → World → Prop} {E : Prop} (hgd : o.guard = none) (d s : Operand) (dT sT : TypeId)
    (ho : o.op = .call { callee := .builtin .copy, args := #[d, s], argTypes := #[dT, sT] }) (hu : P.underlying dT = some (.slice 5)) (hsz : (P.info? 5).map (·.size) = some 1)
    (f g k b off cap : Nat) (x : Int) (h1 : 1 ≤ f) (h7 : f ≤ 7) (hd : a.eval d = .slice (some ⟨g, k * siz f, none⟩) (siz f) (siz f)) (hs : a.eval s = .slice (some ⟨b, off, none⟩) 4 cap)
    (hc : ∀ j, j < 4 → w.cell? ⟨b, off + j, none⟩ = some (.int .u8 ((low x 4).getD j 0)))
    (A : List Int) (m : Nat) (hA : A.length = k * siz f) (hm : siz f ≤ m) (hg : Bys w g (A ++ List.replicate m 0))
    (h : ∀ w', Bys w' g (A ++ low x (siz f) ++ List.replicate (m - siz f) 0) → (∀ B w0, Below B w0 w → B ≤ g → Below B w0 w') → (∀ r cs t, r ≠ g → Blk w r cs t → Blk w' r cs t) → K (a.put o.dst (goInt (siz f : Nat))) w') :
    if Region.wanted o (yielded ops a.tmps) = true then Oper.wp P o a w K Q else E := by
  have hl := low_length x (siz f)
  have hS := siz_three h1 h7
  refine step_copy_own hgd d s dT sT ho 5 hu hsz g (k * siz f) (siz f) (siz f) ⟨b, off, none⟩ 4 cap hd hs _ 5 hg ((low x (siz f)).map (Value.int .u8)) ?_ ?_ ?_ ?_ ?_
  · simp only [List.length_map, hl]
    rcases hS with h | h | h <;> rw [h] <;> rfl
  · intro j v hv
    have hj : j < siz f := by
      have := (List.getElem?_eq_some_iff.1 hv).1
      simpa [hl] using this
    rw [Addr.add_mid, hc j (by omega), low_take x f h1 h7 j hj, ← hv]
    simp [hl, hj]
  · simp [hl, hA]
    omega
  · intro v hv
    obtain ⟨n, _, rfl⟩ := List.mem_map.1 hv
    rfl
  · have e := splice_mid A (low x (siz f)) m
    unfold splice at e
    rw [hA, hl] at e
    simp only [List.length_map, hl] at e ⊢
    rw [e]
    exact h _ (Blk.row hg) (fun B w0 hb hB => below_setRow hb hB _) (fun r cs t hr hB => hB.rowOther hr)

/-- What Lay's round reads. -/
def HeldL (f b6 b10 : Nat) (c : Nat → Int) (w : World) : Prop := Blk w b6 (layF f) 75 ∧ Blk w b10 #[.int .i32 (c 0), .int .i32 (c 1), .int .i32 (c 2), .int .i32 (c 3)] 30

theorem HeldL.ext {f b6 b10 : Nat} {c : Nat → Int} {w w' : World} (h : HeldL f b6 b10 c w) (hx : Ext w w') : HeldL f b6 b10 c w' := ⟨h.1.ext hx, h.2.ext hx⟩

end Go.Proofs.Ytadajaoidhbmgaa
