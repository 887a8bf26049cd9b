/-
  Primitives: the document's, plainly; and what one more of them comes to.
-/
import Derived.Test.YtmigakbccmkjoaaFEo
import Derived.Deep.RegionHeldLaw
namespace Go.Proofs.Ytmigakbccmkjoaa
open Go.RowKit Go.Shelf
set_option linter.unusedVariables false
set_option linter.unusedSimpArgs false

/-- 'append' at a step of a region that draws, its run known. -/
theorem step_runP {P : Program} {ops : Array Oper} {o : Oper} {a : Act} {w w' : World} {K : Act → World → Prop} {Q : Exit → Act → World → Prop} {E : Prop} (hgd : o.guard = none) (s x : Operand) (t : TypeId)
    (ho : o.op = .call { callee := .builtin .append, args := #[s, x], argTypes := #[t, t] }) {v vx v' : Value} (hs : a.eval s = v) (hx : a.eval x = vx) (hr : (Builtin.append_ #[t, t] o.type #[v, vx]).run P w = .ok v' w') (h : K (a.put o.dst v') w') :
    if Region.wanted o (yielded ops a.tmps) = true then Oper.wp P o a w K Q else E := by
  have hw : Region.wanted o (yielded ops a.tmps) = true := by simp [Region.wanted, hgd]
  rw [if_pos hw]
  unfold Oper.wp execOp
  simp only [ho, resolve, invoke, builtin, Sem.run_bind, Sem.run_pure, Result.andThen_ok, List.map_toArray, List.map_cons, List.map_nil, hs, hx, hr]
  exact h
/-- The first k primitives. -/
def fP (m : Int) (l : List Int) (k : Nat) : List (Nat → Int) := (List.range k).map (prmF m l)
theorem fP_len (m : Int) (l : List Int) (k : Nat) : (fP m l k).length = k := by simp [fP]
theorem fP_succ (m : Int) (l : List Int) (k : Nat) : fP m l (k + 1) = fP m l k ++ [prmF m l k] := by simp [fP, List.range_succ]
theorem prmL_fP (m : Int) (l : List Int) : prmL m l = fP m l (shpN m l.length).toNat := rfl
/-- What the document's Prims answers. -/
def RpQ (w : World) (m : Int) (l : List Int) (e : Ending) (w' : World) : Prop :=
  ∃ ao cap, e = .returned (.tuple #[.slice ao (prmL m l).length cap, .bool true]) ∧ GO pEnc 59 4 w' w.heap.size (.slice ao (prmL m l).length cap) (prmL m l) ∧ Ext w w'
/-- One more. -/
theorem push_prm {wr w W1 : World} {l : List Int} {m : Int} {k : Nat} {ao : Option Addr} {cap g : Nat} (hG : GO pEnc 59 4 wr w.heap.size (.slice ao k cap) (fP m l k)) (hX : Ext w wr) (hx : Ext wr W1) (hk : k ≤ 1000) {c x0 x1 x2 : Int}
    (hB : Blk W1 g #[.int .i64 c, .int .i64 x0, .int .i64 x1, .int .i64 x2] 59) (hy : pEnc (prmF m l k) = [.int .i64 c, .int .i64 x0, .int .i64 x1, .int .i64 x2]) :
    ∃ ao2 cap2 w9, (Builtin.append_ #[52, 52] 52 #[.slice ao k cap, .slice (some ⟨g, 0, none⟩) 1 1]).run Try.prog W1 = .ok (.slice ao2 (k + 1) cap2) w9 ∧ GO pEnc 59 4 w9 w.heap.size (.slice ao2 (k + 1) cap2) (fP m l (k + 1)) ∧ Ext w w9 := by
  have hG1 := GO.ext hG hx
  have hX1 := hX.trans hx
  obtain ⟨ao2, cap2, N, w9, hN, hrun, r1, r2, r3⟩ := run_append_G (P := Try.prog) (t := 52) 52 infoPrim Try.underlying52 rfl (by decide) (by decide) w.heap.size _ (fP m l k) (prmF m l k) hG1 g 1 59 (by rw [hy]; exact hB) rfl (pEnc_one _) (by rw [fP_len]; omega) hX1.size
  rw [← fP_succ] at hN
  subst hN
  rw [fP_len] at hrun r1 r3
  exact ⟨ao2, cap2, w9, hrun, r1, hX1.grown r2 hX1.size (fun r hr => (hG1.lt r hr).1)⟩
theorem wrapP64 {x : Int} (h0 : -9223372036854775808 ≤ x) (h1 : x ≤ 9223372036854775807) : IntKind.i64.wrap x = x := by
  simp [IntKind.wrap, IntKind.bits, IntKind.signed]
  omega
theorem info3 : Try.prog.cellsOf 3 = 1 := by kernel_rfl
theorem rp_fin {m : Int} {l : List Int} {w w' : World} {ao : Option Addr} {k cap : Nat} (hk : (shpN m l.length).toNat = k) (h : GO pEnc 59 4 w' w.heap.size (.slice ao k cap) (fP m l k)) (hx : Ext w w') : RpQ w m l (.returned (.tuple #[.slice ao k cap, .bool true])) w' := by
  refine ⟨ao, cap, ?_, ?_, hx⟩
  · rw [prmL_fP, hk, fP_len]
  · rw [prmL_fP, hk, fP_len]; exact h
theorem row_ext {lo : Option Addr} {lc : Nat} {w : World} {l : List Int} (hr : Row .i64 w (.slice lo l.length lc) l) (hne : 0 < l.length) : ∃ b off, lo = some ⟨b, off, none⟩ ∧ ∀ wx, Ext w wx → ∀ i (h : i < l.length), wx.cell? ⟨b, off + i, none⟩ = some (.int .i64 l[i]) := by
  obtain ⟨b, off, hlo, hc⟩ := hr.at 0 hne
  refine ⟨b, off, hlo, fun wx hx i h => ?_⟩
  have e := hc i h
  exact (hx.cell (p := ⟨b, off + i, none⟩) (World.block_lt_of_cell? w _ e)).trans e
/-- What a primitive's cells are. -/
theorem prm_cells (m : Int) (l : List Int) (k c : Nat) (hc : shpC m l.length = c) : pEnc (prmF m l k) = [.int .i64 (c : Int), .int .i64 (if 0 < c then l.getD (shpP m l.length k 0).toNat 0 else 0), .int .i64 (if 1 < c then l.getD (shpP m l.length k 1).toNat 0 else 0), .int .i64 (if 2 < c then l.getD (shpP m l.length k 2).toNat 0 else 0)] := by
  subst hc
  rfl
theorem getD_at (l : List Int) (i : Nat) (p : Int) (h : i < l.length) (hp : p.toNat = i) : l.getD p.toNat 0 = l[i] := by
  rw [hp, List.getD_eq_getElem?_getD, List.getElem?_eq_getElem h]
  rfl
theorem prm_1 (l : List Int) (k : Nat) (h : 2 * k + 1 < l.length) : pEnc (prmF 1 l k) = [.int .i64 2, .int .i64 l[2 * k], .int .i64 l[2 * k + 1], .int .i64 0] := by
  rw [prm_cells 1 l k 2 rfl, if_pos (by decide), if_pos (by decide), if_neg (by decide), getD_at l (2 * k) (shpP 1 l.length k 0) (by omega) (show (2 * (k : Int)).toNat = _ by omega), getD_at l (2 * k + 1) (shpP 1 l.length k 1) h (show (2 * (k : Int) + 1).toNat = _ by omega)]
  rfl

theorem prm_0 (l : List Int) (k : Nat) (h : k < l.length) : pEnc (prmF 0 l k) = [.int .i64 1, .int .i64 l[k], .int .i64 0, .int .i64 0] := by
  rw [prm_cells 0 l k 1 rfl, if_pos (by decide), if_neg (by decide), if_neg (by decide), getD_at l k (shpP 0 l.length k 0) h (show ((k : Int)).toNat = _ by omega)]
  rfl
theorem prm_3 (l : List Int) (k : Nat) (h : k + 1 < l.length) : pEnc (prmF 3 l k) = [.int .i64 2, .int .i64 l[k], .int .i64 l[k + 1], .int .i64 0] := by
  rw [prm_cells 3 l k 2 rfl, if_pos (by decide), if_pos (by decide), if_neg (by decide), getD_at l k (shpP 3 l.length k 0) (by omega) (show ((k : Int)).toNat = _ by omega), getD_at l (k + 1) (shpP 3 l.length k 1) h (show ((k : Int) + 1).toNat = _ by omega)]
  rfl
theorem shpC_2 (n : Nat) (h : ¬ n < 2) : shpC 2 n = 2 := by
  show (if n < 2 then 0 else 2) = 2
  rw [if_neg h]
theorem prm_2 (l : List Int) (k : Nat) (h : k + 1 < l.length) : pEnc (prmF 2 l k) = [.int .i64 2, .int .i64 l[k], .int .i64 l[k + 1], .int .i64 0] := by
  rw [prm_cells 2 l k 2 (shpC_2 _ (by omega)), if_pos (by decide), if_pos (by decide), if_neg (by decide), getD_at l k (shpP 2 l.length k 0) (by omega) (show ((k : Int)).toNat = _ by omega), getD_at l (k + 1) (shpP 2 l.length k 1) h (show (((k : Int) + 1) % (l.length : Int)).toNat = _ by rw [Int.emod_eq_of_lt (by omega) (by omega)]; omega)]
  rfl
theorem prm_2b (l : List Int) (h : 2 ≤ l.length) : pEnc (prmF 2 l (l.length - 1)) = [.int .i64 2, .int .i64 l[l.length - 1], .int .i64 l[0], .int .i64 0] := by
  rw [prm_cells 2 l _ 2 (shpC_2 _ (by omega)), if_pos (by decide), if_pos (by decide), if_neg (by decide), getD_at l (l.length - 1) (shpP 2 l.length (l.length - 1) 0) (by omega) (show (((l.length - 1 : Nat) : Int)).toNat = _ by omega), getD_at l 0 (shpP 2 l.length (l.length - 1) 1) (by omega) (show ((((l.length - 1 : Nat) : Int) + 1) % (l.length : Int)).toNat = _ by rw [show (((l.length - 1 : Nat) : Int) + 1) = (l.length : Int) by omega, Int.emod_self]; rfl)]
  rfl
theorem prm_4 (l : List Int) (k : Nat) (h : 3 * k + 2 < l.length) : pEnc (prmF 4 l k) = [.int .i64 3, .int .i64 l[3 * k], .int .i64 l[3 * k + 1], .int .i64 l[3 * k + 2]] := by
  rw [prm_cells 4 l k 3 rfl, if_pos (by decide), if_pos (by decide), if_pos (by decide), getD_at l (3 * k) (shpP 4 l.length k 0) (by omega) (show (3 * (k : Int)).toNat = _ by omega), getD_at l (3 * k + 1) (shpP 4 l.length k 1) (by omega) (show (3 * (k : Int) + 1).toNat = _ by omega), getD_at l (3 * k + 2) (shpP 4 l.length k 2) h (show (3 * (k : Int) + 2).toNat = _ by omega)]
  rfl
theorem prm_6 (l : List Int) (k : Nat) (h : k + 2 < l.length) : pEnc (prmF 6 l k) = [.int .i64 3, .int .i64 l[0], .int .i64 l[k + 1], .int .i64 l[k + 2]] := by
  rw [prm_cells 6 l k 3 rfl, if_pos (by decide), if_pos (by decide), if_pos (by decide), getD_at l 0 (shpP 6 l.length k 0) (by omega) rfl, getD_at l (k + 1) (shpP 6 l.length k 1) (by omega) (show ((k : Int) + 1).toNat = _ by omega), getD_at l (k + 2) (shpP 6 l.length k 2) h (show ((k : Int) + 2).toNat = _ by omega)]
  rfl
theorem prm_5e (l : List Int) (k : Nat) (h : k + 2 < l.length) (hk : k % 2 = 0) : pEnc (prmF 5 l k) = [.int .i64 3, .int .i64 l[k], .int .i64 l[k + 1], .int .i64 l[k + 2]] := by
  have e : shpP 5 l.length k = fun j => if j = 0 then (k : Int) else if j = 1 then (k : Int) + 1 else (k : Int) + 2 := by
    show (if k % 2 = 0 then _ else _) = _
    rw [if_pos hk]
  rw [prm_cells 5 l k 3 rfl, if_pos (by decide), if_pos (by decide), if_pos (by decide), getD_at l k (shpP 5 l.length k 0) (by omega) (by rw [e]; show ((k : Int)).toNat = _; omega), getD_at l (k + 1) (shpP 5 l.length k 1) (by omega) (by rw [e]; show ((k : Int) + 1).toNat = _; omega), getD_at l (k + 2) (shpP 5 l.length k 2) h (by rw [e]; show ((k : Int) + 2).toNat = _; omega)]
  rfl
theorem prm_5o (l : List Int) (k : Nat) (h : k + 2 < l.length) (hk : ¬ k % 2 = 0) : pEnc (prmF 5 l k) = [.int .i64 3, .int .i64 l[k + 1], .int .i64 l[k], .int .i64 l[k + 2]] := by
  have e : shpP 5 l.length k = fun j => if j = 0 then (k : Int) + 1 else if j = 1 then (k : Int) else (k : Int) + 2 := by
    show (if k % 2 = 0 then _ else _) = _
    rw [if_neg hk]
  rw [prm_cells 5 l k 3 rfl, if_pos (by decide), if_pos (by decide), if_pos (by decide), getD_at l (k + 1) (shpP 5 l.length k 0) (by omega) (by rw [e]; show ((k : Int) + 1).toNat = _; omega), getD_at l k (shpP 5 l.length k 1) (by omega) (by rw [e]; show ((k : Int)).toNat = _; omega), getD_at l (k + 2) (shpP 5 l.length k 2) h (by rw [e]; show ((k : Int) + 2).toNat = _; omega)]
  rfl
end Go.Proofs.Ytmigakbccmkjoaa
