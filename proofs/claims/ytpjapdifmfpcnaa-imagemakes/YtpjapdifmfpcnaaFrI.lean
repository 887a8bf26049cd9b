/-
  Images that come in: what they hold.
-/
import Derived.Test.YtpjapdifmfpcnaaFr
import Derived.Test.YtpjapdifmfpcnaaRB
import Derived.Deep.Slices
namespace Go.Proofs.Ytpjapdifmfpcnaa
open Go.ChangeShapes Go.WideShapes Go.ChangeAt Go.RowKit
set_option linter.unusedVariables false
set_option linter.unusedSimpArgs false

theorem cells_img : Try.prog.cellsOf 24 = 6 := by kernel_rfl
theorem cells_lev : Try.prog.cellsOf 48 = 3 := by kernel_rfl
theorem cells_levs : Try.prog.cellsOf 22 = 1 := by kernel_rfl
theorem cells_int : Try.prog.cellsOf 3 = 1 := by kernel_rfl
theorem cells_bytes : Try.prog.cellsOf 27 = 1 := by kernel_rfl
theorem cells_byte : Try.prog.cellsOf 5 = 1 := by kernel_rfl
theorem bytes_lev : Try.prog.bytesOf 48 = 40 := by kernel_rfl
theorem bytes_byte : Try.prog.bytesOf 5 = 1 := by kernel_rfl
theorem byt_wf {x : Int} (h : (Lit.int .u8 x).wf = true) : 0 ≤ x ∧ x ≤ 255 := by
  simp only [Lit.wf, Bool.and_eq_true, decide_eq_true_eq] at h
  exact h

section
variable {H : Type} {enc : TypeId × Value → H}
/-- All that weighs, weighs what there is room for. -/
def Wgt (P : Program) (t : TypeId) (d : DataW H) : Prop := ∀ n ∈ d.weights P t, n ≤ reachBytes
theorem Wgt.arg {P : Program} {ts : List TypeId} {ds : List (DataW H)} {j : Nat} {t : TypeId} {d : DataW H} (h : (DataW.weightsEach P ts ds).all (· ≤ reachBytes) = true) (ht : ts[j]? = some t) (hd : ds[j]? = some d) : Wgt P t d := fun n hn => by
  have := List.all_eq_true.1 h _ (DataW.weights_mem_each ht hd n hn)
  simpa using this
theorem Wgt.part {P : Program} {t : TypeId} {fs : Array Field} {ps : List (DataW H)} (hu : P.underlying t = some (.struct fs)) (h : Wgt P t (.agg ps)) {j : Nat} {s : TypeId} {d : DataW H} (ht : (fs.toList.map (·.type))[j]? = some s) (hd : ps[j]? = some d) : Wgt P s d := fun n hn => by
  refine h n ?_
  simp only [DataW.weights, hu]
  exact DataW.weights_mem_each ht hd n hn
theorem weights_all {P : Program} {e : TypeId} {d : DataW H} {n : Nat} (hn : n ∈ d.weights P e) : ∀ (l : List (DataW H)), d ∈ l → n ∈ DataW.weightsAll P e l
  | x :: r, h => by
    simp only [DataW.weightsAll, List.mem_append]
    rcases List.mem_cons.1 h with rfl | h
    · exact .inl hn
    · exact .inr (weights_all hn r h)
theorem Wgt.elem {P : Program} {t e : TypeId} {xs ys : List (DataW H)} (hu : P.underlying t = some (.slice e)) (h : Wgt P t (.slice xs ys)) {d : DataW H} (hd : d ∈ xs) : Wgt P e d := fun n hn => by
  refine h n ?_
  simp only [DataW.weights, hu, List.mem_cons, List.mem_append]
  exact .inr (.inl (weights_all hn xs hd))
theorem Wgt.len {P : Program} {t e : TypeId} {xs ys : List (DataW H)} (hu : P.underlying t = some (.slice e)) (h : Wgt P t (.slice xs ys)) : xs.length * P.bytesOf e ≤ 140737488351232 := by
  have := h ((xs.length + ys.length) * P.bytesOf e) (by simp [DataW.weights, hu])
  unfold reachBytes at this
  rw [Nat.add_mul] at this
  omega

/-- A slice of bytes within what came in. -/
theorem open_bytes {W : World} {u : Value} {fuel : Nat} {y : DataW H × List MemPlace} (hf : DataW.trod enc Try.prog W 0 (fun _ => true) true fuel 27 [u] = some y) (hw : Wgt Try.prog 27 y.1) :
    ∃ xs : List Int, Row .u8 W u xs ∧ Byt xs ∧ xs.length ≤ 140737488351232 := by
  rcases open_ints Try.underlying27 Try.underlying5 cells_byte hf with ⟨hcs, _⟩ | ⟨x, l, c, zs, hcs, _, hl, hm, hz, hx, hcell, hwz⟩
  · simp at hcs
    subst hcs
    exact ⟨[], Row.nil _ _, by simp [Byt], by simp⟩
  · simp at hcs
    subst hcs
    simp only [if_true] at hz
    have hlen : (zs.take l).length = l := by simp; omega
    have hw2 : l ≤ 140737488351232 := by
      rw [hx] at hw
      have := Wgt.len Try.underlying27 hw
      rw [bytes_byte] at this
      simp only [lits, List.length_map] at this
      rw [hlen] at this
      omega
    refine ⟨zs.take l, ?_, fun n hn => byt_wf (hwz n (List.mem_of_mem_take hn)), by rw [hlen]; exact hw2⟩
    by_cases h0 : l = 0
    · subst h0
      exact .inl ⟨by simp, some x, c, rfl, (fun h => by cases h), hm⟩
    · obtain ⟨b, off, spot⟩ := x
      have hc0 := hcell 0 (by omega)
      have hspot : spot = none := by simpa [Addr.add] using World.cell?_spot hc0
      subst hspot
      refine .inr ⟨?_, b, off, c, by rw [hlen], by rw [hlen]; exact hl, hm, fun i hi => ?_⟩
      · intro h
        rw [h] at hlen
        exact h0 (by simpa using hlen.symm)
      · rw [hlen] at hi
        have hci := hcell i (by omega)
        rw [Addr.add_lit] at hci
        rw [hci]
        have e2 : (zs.take l).getD i 0 = zs.getD i 0 := by simp [List.getD, hi]
        rw [e2]
theorem trod_struct3 {P : Program} {w : World} {base : Nat} {spare : Nat → Bool} {held : Bool} {t : TypeId} {f0 f1 f2 : Field} {fuel : Nat} {cs : List Value} {x : DataW H × List MemPlace} (ht : P.underlying t = some (.struct #[f0, f1, f2])) (h : DataW.trod enc P w base spare held fuel t cs = some x) :
    ∃ y0 y1 y2 n, x.1 = .agg [y0.1, y1.1, y2.1] ∧ cs.length = P.cellsOf t ∧ DataW.trod enc P w base spare held n f0.type ((cs.drop f0.offset).take (P.cellsOf f0.type)) = some y0 ∧ DataW.trod enc P w base spare held n f1.type ((cs.drop f1.offset).take (P.cellsOf f1.type)) = some y1 ∧ DataW.trod enc P w base spare held n f2.type ((cs.drop f2.offset).take (P.cellsOf f2.type)) = some y2 := by
  obtain ⟨xs, n, _, rfl, hl, hlen, hf⟩ := DataW.trod_struct ht h
  match xs, hlen with
  | [y0, y1, y2], _ => exact ⟨y0, y1, y2, n, rfl, hl, by simpa using hf 0 f0 rfl, by simpa using hf 1 f1 rfl, by simpa using hf 2 f2 rfl⟩
theorem trod_struct6 {P : Program} {w : World} {base : Nat} {spare : Nat → Bool} {held : Bool} {t : TypeId} {f0 f1 f2 f3 f4 f5 : Field} {fuel : Nat} {cs : List Value} {x : DataW H × List MemPlace} (ht : P.underlying t = some (.struct #[f0, f1, f2, f3, f4, f5])) (h : DataW.trod enc P w base spare held fuel t cs = some x) :
    ∃ y0 y1 y2 y3 y4 y5 n, x.1 = .agg [y0.1, y1.1, y2.1, y3.1, y4.1, y5.1] ∧ cs.length = P.cellsOf t ∧ DataW.trod enc P w base spare held n f0.type ((cs.drop f0.offset).take (P.cellsOf f0.type)) = some y0 ∧ DataW.trod enc P w base spare held n f1.type ((cs.drop f1.offset).take (P.cellsOf f1.type)) = some y1 ∧ DataW.trod enc P w base spare held n f2.type ((cs.drop f2.offset).take (P.cellsOf f2.type)) = some y2 ∧ DataW.trod enc P w base spare held n f3.type ((cs.drop f3.offset).take (P.cellsOf f3.type)) = some y3 ∧ DataW.trod enc P w base spare held n f4.type ((cs.drop f4.offset).take (P.cellsOf f4.type)) = some y4 ∧ DataW.trod enc P w base spare held n f5.type ((cs.drop f5.offset).take (P.cellsOf f5.type)) = some y5 := by
  obtain ⟨xs, n, _, rfl, hl, hlen, hf⟩ := DataW.trod_struct ht h
  match xs, hlen with
  | [y0, y1, y2, y3, y4, y5], _ => exact ⟨y0, y1, y2, y3, y4, y5, n, rfl, hl, by simpa using hf 0 f0 rfl, by simpa using hf 1 f1 rfl, by simpa using hf 2 f2 rfl, by simpa using hf 3 f3 rfl, by simpa using hf 4 f4 rfl, by simpa using hf 5 f5 rfl⟩
/-- A level within what came in. -/
def LevOk (W : World) (p : Ent) : Prop := Row .u8 W p.2.2.1 p.2.2.2 ∧ Byt p.2.2.2 ∧ p.2.2.2.length ≤ 140737488351232 ∧ I64 p.1 ∧ I64 p.2.1
set_option maxRecDepth 100000 in
theorem open_lev {W : World} {u0 u1 u2 : Value} {fuel : Nat} {y : DataW H × List MemPlace} (hf : DataW.trod enc Try.prog W 0 (fun _ => true) true fuel 48 [u0, u1, u2] = some y) (hw : Wgt Try.prog 48 y.1) :
    ∃ p : Ent, u0 = .int .i64 p.1 ∧ u1 = .int .i64 p.2.1 ∧ u2 = p.2.2.1 ∧ LevOk W p := by
  obtain ⟨y0, y1, y2, n, hx, hlen, t0, t1, t2⟩ := trod_struct3 Try.underlying48 hf
  simp only [cells_int, cells_bytes, List.drop_zero, List.drop_succ_cons, List.take_succ_cons, List.take_zero] at t0 t1 t2
  obtain ⟨A, e0, _, k0⟩ := DataW.trod_int Try.underlying3 t0
  obtain ⟨B, e1, _, k1⟩ := DataW.trod_int Try.underlying3 t1
  rw [hx] at hw
  have hw2 : Wgt Try.prog 27 y2.1 := Wgt.part Try.underlying48 hw (j := 2) rfl rfl
  obtain ⟨bs, hrow, hwf, hln⟩ := open_bytes t2 hw2
  simp only [List.cons.injEq, and_true] at e0 e1
  exact ⟨(A, B, u2, bs), e0, e1, rfl, hrow, hwf, hln, bounds_i64 k0, bounds_i64 k1⟩
set_option maxRecDepth 10000 in
/-- A slice of levels within what came in. -/
theorem open_levs {W : World} {u : Value} {fuel : Nat} {y : DataW H × List MemPlace} (hf : DataW.trod enc Try.prog W 0 (fun _ => true) true fuel 22 [u] = some y) (hw : Wgt Try.prog 22 y.1) :
    ∃ L : List Ent, LR W u L ∧ (∀ p ∈ L, LevOk W p) ∧ L.length ≤ 3518437208780 := by
  rcases Deep.open_slice Try.underlying22 hf with ⟨hcs, _⟩ | ⟨x, l, c, m, n, D, Pl, hcs, _, hl, hm, hmm, hx, hel⟩
  · simp at hcs
    subst hcs
    exact ⟨[], LR.nil _, by simp, by simp⟩
  · simp at hcs
    subst hcs
    simp only [if_true] at hmm
    subst hmm
    rw [hx] at hw
    have each : ∀ i, i < l → ∃ p : Ent, LevOk W p ∧ W.cell? (x.add (i * 3)) = some (.int .i64 p.1) ∧ W.cell? ((x.add (i * 3)).add 1) = some (.int .i64 p.2.1) ∧ W.cell? ((x.add (i * 3)).add 2) = some p.2.2.1 := by
      intro i hi
      obtain ⟨cs', h1, h2⟩ := hel i (by omega)
      rw [cells_lev] at h1
      obtain ⟨_, hl2, hce⟩ := World.cells?_some h1
      match cs', hl2 with
      | [u0, u1, u2], _ =>
        have hc0 := hce 0 (by omega)
        have hc1 := hce 1 (by omega)
        have hc2 := hce 2 (by omega)
        have hwD : Wgt Try.prog 48 (D i) := Wgt.elem Try.underlying22 hw (List.mem_map.2 ⟨i, List.mem_range.2 hi, rfl⟩)
        obtain ⟨p, rfl, rfl, rfl, hp⟩ := open_lev h2 hwD
        refine ⟨p, hp, ?_, hc1, hc2⟩
        have e : (x.add (i * 3)).add 0 = x.add (i * 3) := by unfold Addr.add; split <;> simp_all
        rw [e] at hc0
        exact hc0
    have hinh : Inhabited Ent := ⟨(0, 0, .slice none 0 0, [])⟩
    obtain ⟨F, hF⟩ := Deep.choose_lt (α := Ent) (p := fun i p => LevOk W p ∧ W.cell? (x.add (i * 3)) = some (.int .i64 p.1) ∧ W.cell? ((x.add (i * 3)).add 1) = some (.int .i64 p.2.1) ∧ W.cell? ((x.add (i * 3)).add 2) = some p.2.2.1) (fun i hi => each i hi)
    have hlen : ((List.range l).map F).length = l := by simp
    have hall : ∀ p ∈ (List.range l).map F, LevOk W p := fun p hp => by
      obtain ⟨i, hi, rfl⟩ := List.mem_map.1 hp
      exact (hF i (List.mem_range.1 hi)).1
    refine ⟨(List.range l).map F, ⟨⟨some x, _, by rw [hlen], (fun h => by cases h), by rw [hlen]; exact hl, hm, fun i hi => ?_⟩, fun p hp => (hall p hp).1⟩, hall, ?_⟩
    rw [hlen] at hi
    obtain ⟨b, off, spot⟩ := x
    have hspot : spot = none := by simpa [Addr.add] using World.cell?_spot (hF 0 (by omega)).2.1
    subst hspot
    have h := hF i hi
    simp only [Addr.add_lit] at h
    simp only [List.getElem_map, List.getElem_range]
    exact ⟨b, off, rfl, h.2⟩
    rw [hlen]
    have h8 := Wgt.len Try.underlying22 hw
    rw [bytes_lev] at h8
    simp only [List.length_map, List.length_range] at h8
    omega
/-- An image that came in. -/
structure ImgIn (W : World) (I : Img) (v : Value) (L : List Ent) : Prop where
  lr : LR W v L
  abs : I.L = absL L
  all : ∀ p ∈ L, LevOk W p
  len : L.length ≤ 3518437208780
  f : I64 I.f
  ws : I64 I.ws
  wt : I64 I.wt
  mn : I64 I.mn
  mg : I64 I.mg
theorem array6 {α : Type} {cs : Array α} (h : cs.size = 6) : ∃ c0 c1 c2 c3 c4 c5, cs = #[c0, c1, c2, c3, c4, c5] := by
  obtain ⟨l⟩ := cs
  match l, h with
  | [c0, c1, c2, c3, c4, c5], _ => exact ⟨c0, c1, c2, c3, c4, c5, rfl⟩
set_option maxRecDepth 100000 in
theorem open_img {W : World} {base : Nat} {v : Value} {d : DataW H} {p : List MemPlace} (hv : Value.okWide Try.prog W .any base 24 v) (h : DataW.Trod enc Try.prog W 0 (fun _ => true) true 24 v d p) (hw : Wgt Try.prog 24 d) :
    ∃ (I : Img) (u : Value) (L : List Ent), v = .agg #[.int .i64 I.f, u, .int .i64 I.ws, .int .i64 I.wt, .int .i64 I.mn, .int .i64 I.mg] ∧ ImgIn W I u L := by
  obtain ⟨cs, rfl, hsz⟩ := okWide_struct Try.underlying24 hv
  rw [cells_img] at hsz
  obtain ⟨c0, c1, c2, c3, c4, c5, rfl⟩ := array6 hsz
  obtain ⟨fuel, hf⟩ := h
  obtain ⟨y0, y1, y2, y3, y4, y5, n, hx, hlen, h0, h1, h2, h3, h4, h5⟩ := trod_struct6 Try.underlying24 hf
  simp only [cells_int, cells_levs] at h0 h1 h2 h3 h4 h5
  have t0 : DataW.trod enc Try.prog W 0 (fun _ => true) true n 3 [c0] = some y0 := h0
  have t1 : DataW.trod enc Try.prog W 0 (fun _ => true) true n 22 [c1] = some y1 := h1
  have t2 : DataW.trod enc Try.prog W 0 (fun _ => true) true n 3 [c2] = some y2 := h2
  have t3 : DataW.trod enc Try.prog W 0 (fun _ => true) true n 3 [c3] = some y3 := h3
  have t4 : DataW.trod enc Try.prog W 0 (fun _ => true) true n 3 [c4] = some y4 := h4
  have t5 : DataW.trod enc Try.prog W 0 (fun _ => true) true n 3 [c5] = some y5 := h5
  obtain ⟨A, e0, _, k0⟩ := DataW.trod_int Try.underlying3 t0
  obtain ⟨B, e2, _, k2⟩ := DataW.trod_int Try.underlying3 t2
  obtain ⟨C, e3, _, k3⟩ := DataW.trod_int Try.underlying3 t3
  obtain ⟨D, e4, _, k4⟩ := DataW.trod_int Try.underlying3 t4
  obtain ⟨E, e5, _, k5⟩ := DataW.trod_int Try.underlying3 t5
  simp only [List.cons.injEq, and_true] at e0 e2 e3 e4 e5
  subst e0 e2 e3 e4 e5
  have hd' : d = .agg [y0.1, y1.1, y2.1, y3.1, y4.1, y5.1] := hx
  subst hd'
  have hw2 : Wgt Try.prog 22 y1.1 := Wgt.part Try.underlying24 hw (j := 1) rfl rfl
  obtain ⟨L, hL, hall, hlen2⟩ := open_levs t1 hw2
  exact ⟨⟨A, absL L, B, C, D, E⟩, c1, L, rfl, hL, rfl, hall, hlen2, bounds_i64 k0, bounds_i64 k2, bounds_i64 k3, bounds_i64 k4, bounds_i64 k5⟩
end
end Go.Proofs.Ytpjapdifmfpcnaa
