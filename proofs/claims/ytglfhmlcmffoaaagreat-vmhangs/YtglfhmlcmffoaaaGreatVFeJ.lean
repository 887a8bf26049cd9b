/- Several texts in one. -/
import Derived.Test.YtglfhmlcmffoaaaGreatVRx
import Derived.Test.YtglfhmlcmffoaaaGreatFrJ
import Derived.Test.YtglfhmlcmffoaaaGreatCLJ
import Derived.Deep.RegionHeld3
import Derived.Laws.MakeOwn
import Derived.Deep.Cut
import Derived.Deep.DeepCutAuto
import Derived.Test.YtglfhmlcmffoaaaGreatSGJ
import Derived.Test.YtglfhmlcmffoaaaGreatCEqJ
import Derived.Test.YtglfhmlcmffoaaaGreatVMBJ
import Derived.Deep.QuietTactic
/-
  Surroundings that come in: what they hold.
-/
namespace Go.Proofs.YtglfhmlcmffoaaaGreat
open Go.ChangeShapes Go.WideShapes Go.ChangeAt Go.RowKit
set_option linter.unusedVariables false
set_option linter.unusedSimpArgs false

theorem cells_vecsE : Tryz.prog.cellsOf 25 = 1 := by kernel_rfl
theorem cells_imgsE : Tryz.prog.cellsOf 29 = 1 := by kernel_rfl
theorem cells_vecE : Tryz.prog.cellsOf 28 = 4 := by kernel_rfl
theorem cells_imgE : Tryz.prog.cellsOf 112 = 6 := by kernel_rfl
theorem cells_envE : Tryz.prog.cellsOf 31 = 13 := by kernel_rfl
theorem cells_boolE : Tryz.prog.cellsOf 4 = 1 := by kernel_rfl
theorem bytes_imgE : Tryz.prog.bytesOf 112 = 64 := by kernel_rfl
/-- The slice value v, of vectors of numbers of 32 bits, as it came in. -/
def VIn (w : World) (v : Value) (cs : List (Nat → Int)) : Prop :=
  VRow w v cs ∧ (∀ c ∈ cs, ∀ i, I32 (c i)) ∧ ∃ ao cap, v = .slice ao cs.length cap ∧ (ao = none → cap = 0) ∧ cs.length ≤ cap ∧ cap ≤ maxLen
/-- The same, of images. -/
def GIn (w : World) (v : Value) (G : List (Img × Value × List Ent)) : Prop :=
  GR w v G ∧ ∃ ao cap, v = .slice ao G.length cap ∧ (ao = none → cap = 0) ∧ G.length ≤ cap ∧ cap ≤ maxLen
theorem reg_i32 {cs : List (Nat → Int)} (h : ∀ c ∈ cs, ∀ i, I32 (c i)) (x : Int) (i : Nat) : I32 (reg cs x i) := by
  unfold reg
  by_cases hx : x.toNat < cs.length
  · rw [show cs.getD x.toNat nul = cs[x.toNat] by simp [hx]]
    exact h _ (List.getElem_mem hx) i
  · rw [List.getD_eq_getElem?_getD, List.getElem?_eq_none (by omega)]
    show I32 0
    unfold I32
    omega

section
variable {H : Type} {enc : TypeId × Value → H}
set_option maxRecDepth 10000 in
theorem open_vecs {W : World} {u : Value} {fuel : Nat} {y : DataW H × List MemPlace} (hf : DataW.trod enc Tryz.prog W 0 (fun _ => true) true fuel 25 [u] = some y) : ∃ cs, VIn W u cs := by
  rcases Deep.open_slice Tryz.underlying25 hf with ⟨hcs, _⟩ | ⟨x, l, c, m, n, D, Pl, hcs, _, hl, hm, hmm, hx, hel⟩
  · simp at hcs
    subst hcs
    exact ⟨[], .inl ⟨rfl, _, _, rfl⟩, by simp, none, 0, rfl, fun _ => rfl, Nat.le_refl _, Nat.zero_le _⟩
  · simp at hcs
    subst hcs
    simp only [if_true] at hmm
    subst hmm
    have each : ∀ i, i < l → ∃ c : Nat → Int, (∀ j, I32 (c j)) ∧ ∀ j, j < 4 → W.cell? ((x.add (i * 4)).add j) = some (.int .i32 (c j)) := by
      intro i hi
      obtain ⟨cs', h1, h2⟩ := hel i (by omega)
      rw [cells_vecE] at h1
      obtain ⟨_, hl2, hce⟩ := World.cells?_some h1
      match cs', hl2 with
      | [c0, c1, c2, c3], _ =>
        obtain ⟨a, rfl, rfl, rfl, rfl, hI⟩ := four_cells h2
        refine ⟨a, hI, fun j hj => ?_⟩
        rw [hce j hj]
        rcases (by omega : j = 0 ∨ j = 1 ∨ j = 2 ∨ j = 3) with rfl | rfl | rfl | rfl <;> rfl
    have hinh : Inhabited (Nat → Int) := ⟨nul⟩
    obtain ⟨F, hF⟩ := Deep.choose_lt (α := Nat → Int) (p := fun i c => (∀ j, I32 (c j)) ∧ ∀ j, j < 4 → W.cell? ((x.add (i * 4)).add j) = some (.int .i32 (c j))) (fun i hi => each i hi)
    have hlen : ((List.range l).map F).length = l := by simp
    refine ⟨(List.range l).map F, ?_, ?_, some x, _, by rw [hlen], (fun h => by cases h), by rw [hlen]; exact hl, hm⟩
    · by_cases h0 : l = 0
      · subst h0
        exact .inl ⟨rfl, _, _, rfl⟩
      · obtain ⟨b, off, spot⟩ := x
        have hc0 := (hF 0 (by omega)).2 0 (by omega)
        have hspot : spot = none := by simpa [Addr.add] using World.cell?_spot hc0
        subst hspot
        refine .inr ⟨fun e => h0 (by rw [e] at hlen; simpa using hlen.symm), b, off, _, by rw [hlen], fun i j hi hj => ?_⟩
        have hi' : i < l := by rw [hlen] at hi; exact hi
        have := (hF i hi').2 j hj
        rw [Addr.add_lit, Addr.add_lit] at this
        rw [this]
        simp [hi']
    · intro c hc i
      obtain ⟨k, hk, rfl⟩ := List.mem_map.1 hc
      exact (hF k (List.mem_range.1 hk)).1 i
set_option maxRecDepth 100000 in
theorem open_imgc {W : World} {c0 c1 c2 c3 c4 c5 : Value} {fuel : Nat} {y : DataW H × List MemPlace} (hf : DataW.trod enc Tryz.prog W 0 (fun _ => true) true fuel 112 [c0, c1, c2, c3, c4, c5] = some y) (hw : Wgt Tryz.prog 112 y.1) :
    ∃ (I : Img) (u : Value) (L : List Ent), [c0, c1, c2, c3, c4, c5] = (#[.int .i64 I.f, u, .int .i64 I.ws, .int .i64 I.wt, .int .i64 I.mn, .int .i64 I.mg] : Array Value).toList ∧ ImgIn W I u L := by
  obtain ⟨y0, y1, y2, y3, y4, y5, n, hx, hlen, h0, h1, h2, h3, h4, h5⟩ := trod_struct6 Tryz.underlying112 hf
  simp only [cells_int, cells_levs] at h0 h1 h2 h3 h4 h5
  have t0 : DataW.trod enc Tryz.prog W 0 (fun _ => true) true n 3 [c0] = some y0 := h0
  have t1 : DataW.trod enc Tryz.prog W 0 (fun _ => true) true n 110 [c1] = some y1 := h1
  have t2 : DataW.trod enc Tryz.prog W 0 (fun _ => true) true n 3 [c2] = some y2 := h2
  have t3 : DataW.trod enc Tryz.prog W 0 (fun _ => true) true n 3 [c3] = some y3 := h3
  have t4 : DataW.trod enc Tryz.prog W 0 (fun _ => true) true n 3 [c4] = some y4 := h4
  have t5 : DataW.trod enc Tryz.prog W 0 (fun _ => true) true n 3 [c5] = some y5 := h5
  obtain ⟨A, e0, _, k0⟩ := DataW.trod_int Tryz.underlying3 t0
  obtain ⟨B, e2, _, k2⟩ := DataW.trod_int Tryz.underlying3 t2
  obtain ⟨C, e3, _, k3⟩ := DataW.trod_int Tryz.underlying3 t3
  obtain ⟨D, e4, _, k4⟩ := DataW.trod_int Tryz.underlying3 t4
  obtain ⟨E, e5, _, k5⟩ := DataW.trod_int Tryz.underlying3 t5
  simp only [List.cons.injEq, and_true] at e0 e2 e3 e4 e5
  subst e0 e2 e3 e4 e5
  rw [hx] at hw
  have hw2 : Wgt Tryz.prog 110 y1.1 := Wgt.part Tryz.underlying112 hw (j := 1) rfl rfl
  obtain ⟨L, hL, hall, hlen2⟩ := open_levs t1 hw2
  exact ⟨⟨A, absL L, B, C, D, E⟩, c1, L, rfl, hL, rfl, hall, hlen2, bounds_i64 k0, bounds_i64 k2, bounds_i64 k3, bounds_i64 k4, bounds_i64 k5⟩
set_option maxRecDepth 10000 in
theorem open_imgs {W : World} {u : Value} {fuel : Nat} {y : DataW H × List MemPlace} (hf : DataW.trod enc Tryz.prog W 0 (fun _ => true) true fuel 29 [u] = some y) (hw : Wgt Tryz.prog 29 y.1) : ∃ G, GIn W u G := by
  rcases Deep.open_slice Tryz.underlying29 hf with ⟨hcs, _⟩ | ⟨x, l, c, m, n, D, Pl, hcs, _, hl, hm, hmm, hx, hel⟩
  · simp at hcs
    subst hcs
    exact ⟨[], ⟨none, 0, rfl, fun i hi => by simp at hi⟩, none, 0, rfl, fun _ => rfl, Nat.le_refl _, Nat.zero_le _⟩
  · simp at hcs
    subst hcs
    simp only [if_true] at hmm
    subst hmm
    rw [hx] at hw
    have each : ∀ i, i < l → ∃ q : Img × Value × List Ent, ImgIn W q.1 q.2.1 q.2.2 ∧ ∀ j u, (#[.int .i64 q.1.f, q.2.1, .int .i64 q.1.ws, .int .i64 q.1.wt, .int .i64 q.1.mn, .int .i64 q.1.mg] : Array Value).toList[j]? = some u → W.cell? ((x.add (i * 6)).add j) = some u := by
      intro i hi
      obtain ⟨cs', h1, h2⟩ := hel i (by omega)
      rw [cells_imgE] at h1
      obtain ⟨_, hl2, hce⟩ := World.cells?_some h1
      match cs', hl2 with
      | [d0, d1, d2, d3, d4, d5], _ =>
        have hwD : Wgt Tryz.prog 112 (D i) := Wgt.elem Tryz.underlying29 hw (List.mem_map.2 ⟨i, List.mem_range.2 hi, rfl⟩)
        obtain ⟨I, v, L, e, hI⟩ := open_imgc h2 hwD
        refine ⟨(I, v, L), hI, fun j u hu => ?_⟩
        have hu' : [d0, d1, d2, d3, d4, d5][j]? = some u := by rw [e]; exact hu
        have hj : j < 6 := by simpa using (List.getElem?_eq_some_iff.1 hu').1
        rw [hce j hj]
        exact hu'
    have hinh : Inhabited (Img × Value × List Ent) := ⟨(⟨0, [], 0, 0, 0, 0⟩, .slice none 0 0, [])⟩
    obtain ⟨F, hF⟩ := Deep.choose_lt (α := Img × Value × List Ent) (p := fun i q => ImgIn W q.1 q.2.1 q.2.2 ∧ ∀ j u, (#[.int .i64 q.1.f, q.2.1, .int .i64 q.1.ws, .int .i64 q.1.wt, .int .i64 q.1.mn, .int .i64 q.1.mg] : Array Value).toList[j]? = some u → W.cell? ((x.add (i * 6)).add j) = some u) (fun i hi => each i hi)
    have hlen : ((List.range l).map F).length = l := by simp
    refine ⟨(List.range l).map F, ⟨some x, _, by rw [hlen], fun i hi => ?_⟩, some x, _, by rw [hlen], (fun h => by cases h), by rw [hlen]; exact hl, hm⟩
    have hi' : i < l := by rw [hlen] at hi; exact hi
    obtain ⟨b, off, spot⟩ := x
    have hspot : spot = none := by simpa [Addr.add] using World.cell?_spot ((hF 0 (by omega)).2 0 _ rfl)
    subst hspot
    obtain ⟨h1, h2⟩ := hF i hi'
    simp only [List.getElem_map, List.getElem_range]
    refine ⟨b, off, rfl, fun j v hv => ?_, h1.lr, Nat.le_trans h1.len (by omega), h1.abs, fun p hp => (h1.all p hp).2.1⟩
    have := h2 j v hv
    rw [Addr.add_lit, Addr.add_lit] at this
    exact this
/-- Surroundings that came in. -/
structure EnvIn (W : World) (E : EnvC) (S : Sur) (G : List (Img × Value × List Ent)) : Prop where
  va : VIn W E.va S.att
  vu : VIn W E.vu S.uni
  vv : VIn W E.vv S.vry
  co : E.co = S.co
  fr : E.fr = S.fr
  pt : E.pt = S.pt
  c32 : ∀ i, I32 (S.co i)
  p32 : ∀ i, I32 (S.pt i)
  gi : GIn W E.vi G
theorem array13 {α : Type} {cs : Array α} (h : cs.size = 13) : ∃ c0 c1 c2 c3 c4 c5 c6 c7 c8 c9 c10 c11 c12, cs = #[c0, c1, c2, c3, c4, c5, c6, c7, c8, c9, c10, c11, c12] := by
  obtain ⟨l⟩ := cs
  match l, h with
  | [c0, c1, c2, c3, c4, c5, c6, c7, c8, c9, c10, c11, c12], _ => exact ⟨c0, c1, c2, c3, c4, c5, c6, c7, c8, c9, c10, c11, c12, rfl⟩
set_option maxRecDepth 100000 in
theorem open_env {W : World} {base : Nat} {v : Value} {d : DataW H} {p : List MemPlace} (hv : Value.okWide Tryz.prog W .any base 31 v) (h : DataW.Trod enc Tryz.prog W 0 (fun _ => true) true 31 v d p) (hw : Wgt Tryz.prog 31 d) :
    ∃ (E : EnvC) (S : Sur) (G : List (Img × Value × List Ent)), v = .agg (envA E) ∧ EnvIn W E S G := by
  obtain ⟨cs, rfl, hsz⟩ := okWide_struct Tryz.underlying31 hv
  rw [cells_envE] at hsz
  obtain ⟨c0, c1, c2, c3, c4, c5, c6, c7, c8, c9, c10, c11, c12, rfl⟩ := array13 hsz
  obtain ⟨fuel, hf⟩ := h
  have hf2 : DataW.trod enc Tryz.prog W 0 (fun _ => true) true fuel 31 [c0, c1, c2, c3, c4, c5, c6, c7, c8, c9, c10, c11, c12] = some (d, p) := by simpa [Value.cells] using hf
  obtain ⟨xs, n, _, hx, hl, hlen, hfs⟩ := DataW.trod_struct Tryz.underlying31 hf2
  match xs, hlen with
  | [y0, y1, y2, y3, y4, y5, y6], _ =>
    have t0 : DataW.trod enc Tryz.prog W 0 (fun _ => true) true n 25 [c0] = some y0 := by simpa [cells_vecsE] using hfs 0 _ rfl
    have t1 : DataW.trod enc Tryz.prog W 0 (fun _ => true) true n 25 [c1] = some y1 := by simpa [cells_vecsE] using hfs 1 _ rfl
    have t2 : DataW.trod enc Tryz.prog W 0 (fun _ => true) true n 25 [c2] = some y2 := by simpa [cells_vecsE] using hfs 2 _ rfl
    have t3 : DataW.trod enc Tryz.prog W 0 (fun _ => true) true n 28 [c3, c4, c5, c6] = some y3 := by simpa [cells_vecE] using hfs 3 _ rfl
    have t4 : DataW.trod enc Tryz.prog W 0 (fun _ => true) true n 4 [c7] = some y4 := by simpa [cells_boolE] using hfs 4 _ rfl
    have t5 : DataW.trod enc Tryz.prog W 0 (fun _ => true) true n 28 [c8, c9, c10, c11] = some y5 := by simpa [cells_vecE] using hfs 5 _ rfl
    have t6 : DataW.trod enc Tryz.prog W 0 (fun _ => true) true n 29 [c12] = some y6 := by simpa [cells_imgsE] using hfs 6 _ rfl
    have hd : d = .agg [y0.1, y1.1, y2.1, y3.1, y4.1, y5.1, y6.1] := (Prod.mk.inj hx).1
    subst hd
    have hw2 : Wgt Tryz.prog 29 y6.1 := Wgt.part Tryz.underlying31 hw (j := 6) rfl rfl
    obtain ⟨A, hA⟩ := open_vecs t0
    obtain ⟨B, hB⟩ := open_vecs t1
    obtain ⟨C, hC⟩ := open_vecs t2
    obtain ⟨a, rfl, rfl, rfl, rfl, ha⟩ := four_cells t3
    obtain ⟨z, e4, _⟩ := DataW.trod_bool Tryz.underlying4 t4
    simp only [List.cons.injEq, and_true] at e4
    subst e4
    obtain ⟨q, rfl, rfl, rfl, rfl, hq⟩ := four_cells t5
    obtain ⟨G, hG⟩ := open_imgs t6 hw2
    exact ⟨⟨c0, c1, c2, a, z, q, c12⟩, ⟨A, B, C, a, z, q⟩, G, rfl, hA, hB, hC, rfl, rfl, rfl, ha, hq, hG⟩
end
end Go.Proofs.YtglfhmlcmffoaaaGreat

/-
  few: a code that can be played in time, with room behind its list; what is cut of a row of instructions. What the dump lacks is left out.
-/
namespace Go.Proofs.YtglfhmlcmffoaaaGreat
open Go.RowKit
set_option linter.unusedSimpArgs false
set_option linter.unusedVariables false

def i77 : Nat → Int := fun k => if k = 0 then 77 else 0
theorem wrapIdC {x : Int} (h0 : 0 ≤ x) (h1 : x ≤ 1000000) : IntKind.i64.wrap x = x := by
  simp [IntKind.wrap, IntKind.bits, IntKind.signed]
  omega
theorem IR.lit {w : World} {g : Nat} (h : Blk w g (insA i77) 59) : IR w (.slice (some ⟨g, 0, none⟩) 1 1) [i77] := by
  refine ⟨_, 1, rfl, (fun h => by cases h), Nat.le_refl _, by unfold maxLen; omega, fun i hi => ⟨_, 0, rfl, ?_⟩⟩
  have : i = 0 := by simp at hi; omega
  subst this
  intro j u hu
  exact h.cell (by simpa using hu)
theorem IR.take {w : World} {ao : Option Addr} {n cap : Nat} {L : List (Nat → Int)} (h : IR w (.slice ao n cap) L) (m : Nat) (hm : m ≤ L.length) : IR w (.slice ao m cap) (L.take m) := by
  obtain ⟨ao', cap', e, h1, h2, h3, h4⟩ := h
  cases e
  have hl : (L.take m).length = m := by simp; omega
  refine ⟨ao, cap, by rw [hl], h1, by rw [hl]; omega, h3, fun i hi => ?_⟩
  rw [hl] at hi
  have := h4 i (by omega)
  simpa using this
theorem IR.cellsOf {w : World} {b off n cap : Nat} {L : List (Nat → Int)} (h : IR w (.slice (some ⟨b, off, none⟩) n cap) L) : ∀ j u, (icells L)[j]? = some u → w.cell? ((⟨b, off, none⟩ : Addr).add j) = some u := by
  intro j u hu
  have hjl : j < L.length * 16 := by
    have := (List.getElem?_eq_some_iff.1 hu).1
    rw [icells_len] at this
    exact this
  have hi : j / 16 < L.length := by omega
  obtain ⟨_, _, e, _, _, _, h4⟩ := h
  obtain ⟨b2, o2, e2, hr⟩ := h4 (j / 16) hi
  have e1 := (Value.slice.inj e).1
  rw [← e1] at e2
  cases e2
  have hj : j = j / 16 * 16 + j % 16 := by omega
  rw [hj, icells_get L (j / 16) hi (j % 16) (by omega)] at hu
  have := hr (j % 16) u hu
  rw [Addr.add_lit, hj, ← Nat.add_assoc]
  simpa using this
theorem Blk.grownO {w w' : World} {g : Nat} {cs : Array Value} {t : TypeId} {row : Option Nat} (h : Blk w g cs t) (hg : w.grownBy w' row) (hne : row ≠ some g) : Blk w' g cs t := (hg.block g h.lt (fun e => hne e.symm)).trans h
section
variable {w : World} {o : Oper} {a : Act} {K : Act → World → Prop} {Q : Exit → Act → World → Prop}
theorem wp_make_ins (l c : Operand) (hop : o.op = Op.makeSlice 22 l c) (base n : Nat) (hl : a.eval l = .int .i64 0) (hc : a.eval c = .int .i64 ((n : Nat) : Int)) (hn : n ≤ 1000000) (hb : base ≤ w.heap.size)
    (h : ∀ w', OI w' base (.slice (some ⟨w.heap.size, 0, none⟩) 0 n) [] → w.grownBy w' none → K (a.put o.dst (.slice (some ⟨w.heap.size, 0, none⟩) 0 n)) w') : o.wp Tryz.prog a w K Q := by
  obtain ⟨i0, hi, hz0, hz1, hz2⟩ := info_all infoI
  obtain ⟨w', hrun, r1, r2⟩ := run_make_own (P := Tryz.prog) w base 22 59 i0 _ 16 Tryz.underlying22 hi hz0 hz1 .i64 .i64 n (by rw [hz2]; omega) (by unfold maxLen; omega) hb
  unfold Oper.wp
  simp [execOp, hop, hl, hc, hrun, Result.andThen]
  exact h w' r1 r2
theorem wp_append_inss (s x : Operand) (ho : o.op = .call { callee := .builtin .append, args := #[s, x], argTypes := #[22, 22] }) (base : Nat) (v : Value) (L M : List (Nat → Int)) (hs : a.eval s = v)
    (hown : OI w base v L) (ao : Option Addr) (c : Nat) (hx : a.eval x = .slice ao M.length c) (hrow : IR w (.slice ao M.length c) M) (hL : L.length + M.length ≤ 1000000) (hbase : base ≤ w.heap.size)
    (h : ∀ v' w', OI w' base v' (L ++ M) → w.grownBy w' v.ownBlock → K (a.put o.dst v') w') : o.wp Tryz.prog a w K Q := by
  obtain ⟨i0, hi, hz0, hz1, hz2⟩ := info_all infoI
  cases ao with
  | none =>
    obtain ⟨_, _, e, h0, _, _, h4⟩ := hrow
    have e1 := (Value.slice.inj e).1
    have e3 := (Value.slice.inj e).2.2
    have hM : M = [] := by
      cases M with
      | nil => rfl
      | cons t r =>
        obtain ⟨b, off, e5, _⟩ := h4 0 (by simp)
        rw [← e1] at e5
        cases e5
    subst hM
    have hc0 := h0 e1.symm
    rw [← e3] at hc0
    subst hc0
    have hrun := run_append_owned_none (P := Tryz.prog) (w := w) base 22 o.type 59 i0 16 Tryz.underlying22 hi v _ _ hown
    unfold Oper.wp
    simp [execOp, ho, resolve, invoke, builtin, hs, hx, hrun, Result.andThen]
    exact h v w (by rw [List.append_nil]; exact hown) (World.grownBy.refl _ _)
  | some ad =>
    refine wp_append_own w s x 22 ho base 59 i0 _ 16 112 Tryz.underlying22 hi hz0 hz1 hz2 rfl (by decide) v L.length (icells L) hs hown ad M.length c (icells M) hx (icells_len M) ?_ (icells_ones M) (by unfold maxLen; omega) (by omega) hbase ?_
    · intro j u hu
      have hne : 0 < M.length := by
        have := (List.getElem?_eq_some_iff.1 hu).1
        rw [icells_len] at this
        omega
      obtain ⟨_, _, e, _, _, _, h4⟩ := id hrow
      obtain ⟨b, off, e5, _⟩ := h4 0 hne
      have e1 := (Value.slice.inj e).1
      rw [← e1] at e5
      cases e5
      exact hrow.cellsOf j u hu
    · intro v' w' h1 h2 _
      rw [← icells_append, ← List.length_append] at h1
      exact h v' w' h1 h2
theorem wp_build_ins (x : Operand) (ho : o.op = .buildSlice 22 1 #[(0, x)]) (hx : a.eval x = .agg (insA i77)) (h : K (a.put o.dst (.slice (some ⟨w.heap.size, 0, none⟩) 1 1)) (w.alloc (.cells (insA i77) 59))) : o.wp Tryz.prog a w K Q := by
  obtain ⟨i0, hi, hz0, hz1, hz2⟩ := info_all infoI
  refine wp_buildSlice 22 59 1 _ ho _ i0 _ Tryz.underlying22 hi hz0 (by rw [hz1]; omega) (by rw [hz1]; omega) ?_ h
  rw [show (#[(0, x)] : Array (Nat × Operand)).map (fun (i, x) => (i, a.eval x)) = #[(0, .agg (insA i77))] by simp [hx], hz1]
  kernel_rfl
end

/-- A code, its list cut. -/
def fewC (C : Cod) : Cod := ⟨C.stage, C.regs, C.attr, C.unif, C.vary, C.ins.take 4097⟩
def FewQ (w : World) (C : Cod) (e : Ending) (w' : World) : Prop := ∃ am cm, e = .returned (.agg #[.int .i64 ((fewC C)).stage, .slice am (fewC C).ins.length cm, .int .i64 ((fewC C)).regs, .int .i64 ((fewC C)).attr, .int .i64 ((fewC C)).unif, .int .i64 ((fewC C)).vary]) ∧ OI w' w.heap.size (.slice am ((fewC C).ins.length + 1) cm) ((fewC C).ins ++ [i77]) ∧ Ext w w'

end Go.Proofs.YtglfhmlcmffoaaaGreat

/-
  Codes that may be: what follows for their instructions.
-/
namespace Go.Proofs.YtglfhmlcmffoaaaGreat
open Go.RowKit
set_option linter.unusedVariables false
set_option linter.unusedSimpArgs false

/-- What few answers, as a code that is read. -/
theorem few_ir {w w' : World} {C : Cod} {am : Option Addr} {cm : Nat} (h : OI w' w.heap.size (.slice am ((fewC C).ins.length + 1) cm) ((fewC C).ins ++ [i77])) : IR w' (.slice am (fewC C).ins.length cm) (fewC C).ins := by
  have h1 := h.ir
  have h2 := h1.take (fewC C).ins.length (by simp)
  simpa using h2
theorem few_ok {C : Cod} (h : ∀ I ∈ C.ins, OkI I) : ∀ I ∈ (fewC C).ins, OkI I := fun I hI => h I (List.mem_of_mem_take hI)
end Go.Proofs.YtglfhmlcmffoaaaGreat

/-
  Codes: which are the same, plainly.
-/
namespace Go.Proofs.YtglfhmlcmffoaaaGreat
open Go.RowKit
set_option linter.unusedVariables false
set_option linter.unusedSimpArgs false

def sameTo (A B : List (Nat → Int)) (m : Nat) : Bool := (List.range m).all fun k => sameI (A.getD k zI) (B.getD k zI)
def sameL (A B : List (Nat → Int)) : Bool := decide (A.length = B.length) && sameTo A B A.length
def sameC (C D : Cod) : Bool := C.stage == D.stage && (C.regs == D.regs && (C.attr == D.attr && (C.unif == D.unif && (C.vary == D.vary && sameL C.ins D.ins))))
theorem sameTo_succ (A B : List (Nat → Int)) (m : Nat) : sameTo A B (m + 1) = (sameTo A B m && sameI (A.getD m zI) (B.getD m zI)) := by
  unfold sameTo
  rw [List.range_succ, List.all_append]
  simp
theorem sameTo_false {A B : List (Nat → Int)} {k n : Nat} (h : sameI (A.getD k zI) (B.getD k zI) = false) (hk : k < n) : sameTo A B n = false := by
  unfold sameTo
  rw [List.all_eq_false]
  exact ⟨k, List.mem_range.2 hk, by rw [h]; decide⟩

theorem sameC_hd (C D : Cod) : sameC C D = ((C.stage == D.stage && (C.regs == D.regs && (C.attr == D.attr && (C.unif == D.unif && (C.vary == D.vary && (C.ins.length : Int) == (D.ins.length : Int)))))) && sameL C.ins D.ins) := by
  unfold sameC
  have h : sameL C.ins D.ins = ((C.ins.length : Int) == (D.ins.length : Int) && sameL C.ins D.ins) := by
    by_cases e : C.ins.length = D.ins.length
    · rw [e]; simp
    · have e2 : sameL C.ins D.ins = false := by unfold sameL; rw [decide_eq_false e]; rfl
      rw [e2]; simp
  conv => lhs; rw [h]
  cases (C.stage == D.stage) <;> cases (C.regs == D.regs) <;> cases (C.attr == D.attr) <;> cases (C.unif == D.unif) <;> cases (C.vary == D.vary) <;> simp
end Go.Proofs.YtglfhmlcmffoaaaGreat

/-
  Codes: a code in memory of its own; the document's Same. What the dump lacks is left out.
-/
namespace Go.Proofs.YtglfhmlcmffoaaaGreat
open Go.RowKit
set_option linter.unusedVariables false
set_option linter.unusedSimpArgs false

section
variable {w : World} {ops : Array Oper} {rest : List Oper} {o : Oper} {a : Act} {Q : Exit → Act → World → Prop}
theorem wpList_build_none (hgd : o.guard = none) (ho : o.op = .buildSlice 22 0 #[]) (base : Nat) (hb : base ≤ w.heap.size)
    (h : ∀ w', OI w' base (.slice (some ⟨w.heap.size, 0, none⟩) 0 0) [] → w' = w.alloc (.cells #[] 59) → wpList Tryz.prog ops Q rest (a.put o.dst (.slice (some ⟨w.heap.size, 0, none⟩) 0 0)) w') : wpList Tryz.prog ops Q (o :: rest) a w := by
  refine wpList_plain hgd fun K hK => ?_
  obtain ⟨i0, hi, hz0, hz1, hz2⟩ := info_all infoI
  unfold Oper.wp
  simp [execOp, ho, Instr.buildSlice, run_underlying, run_sizeOf, Tryz.underlying22, hi, hz1, Instr.fill, newRow, newObj, Result.andThen]
  rw [show (Array.map (fun x => (default : Value)) (Array.range 0)) = #[] from by simp]
  refine hK _ _ (h (w.alloc (.cells #[] 59)) ?_ rfl)
  exact ⟨rfl, .inr ⟨w.heap.size, 0, #[], rfl, hb, heap_alloc_last w _, Nat.le_refl _, Nat.zero_le _, rfl, rfl⟩⟩
theorem wpList_append_inss (hgd : o.guard = none) (s x : Operand) (ho : o.op = .call { callee := .builtin .append, args := #[s, x], argTypes := #[22, 22] }) (base : Nat) (v : Value) (L M : List (Nat → Int)) (hs : a.eval s = v)
    (hown : OI w base v L) (ao : Option Addr) (c : Nat) (hx : a.eval x = .slice ao M.length c) (hrow : IR w (.slice ao M.length c) M) (hL : L.length + M.length ≤ 1000000) (hbase : base ≤ w.heap.size)
    (h : ∀ v' w', OI w' base v' (L ++ M) → w.grownBy w' v.ownBlock → wpList Tryz.prog ops Q rest (a.put o.dst v') w') : wpList Tryz.prog ops Q (o :: rest) a w :=
  wpList_plain hgd fun K hK => wp_append_inss s x ho base v L M hs hown ao c hx hrow hL hbase fun v' w' h1 h2 => hK _ _ (h v' w' h1 h2)
end

set_option maxRecDepth 10000 in
set_option maxHeartbeats 8000000 in
theorem refSame_any (C D : Cod) (v u : Value) (w : World) (hA : IR w v C.ins) (hB : IR w u D.ins) : Calls Tryz.prog 15 #[.agg #[.int .i64 (C).stage, v, .int .i64 (C).regs, .int .i64 (C).attr, .int .i64 (C).unif, .int .i64 (C).vary], .agg #[.int .i64 (D).stage, u, .int .i64 (D).regs, .int .i64 (D).attr, .int .i64 (D).unif, .int .i64 (D).vary]] w fun e w' => e = .returned (.bool (sameC C D)) ∧ Ext w w' := by
  have HA := hide hA
  have HB := hide hB
  obtain ⟨ao, ca, rfl, _, ha1, ha2, _⟩ := hA
  obtain ⟨bo, cb, rfl, _, hb1, hb2, _⟩ := hB
  unfold maxLen at ha2 hb2
  have E := hide (sameC_hd C D)
  have HX : Hid (Ext w ((w.alloc (.cells #[.int .i64 (C).stage, .slice ao C.ins.length ca, .int .i64 (C).regs, .int .i64 (C).attr, .int .i64 (C).unif, .int .i64 (C).vary] 24)).alloc (.cells #[.int .i64 (D).stage, .slice bo D.ins.length cb, .int .i64 (D).regs, .int .i64 (D).attr, .int .i64 (D).unif, .int .i64 (D).vary] 24))) := ((Ext.refl w).alloc _).alloc _
  have HCA : Hid (Blk ((w.alloc (.cells #[.int .i64 (C).stage, .slice ao C.ins.length ca, .int .i64 (C).regs, .int .i64 (C).attr, .int .i64 (C).unif, .int .i64 (C).vary] 24)).alloc (.cells #[.int .i64 (D).stage, .slice bo D.ins.length cb, .int .i64 (D).regs, .int .i64 (D).attr, .int .i64 (D).unif, .int .i64 (D).vary] 24)) w.heap.size #[.int .i64 (C).stage, .slice ao C.ins.length ca, .int .i64 (C).regs, .int .i64 (C).attr, .int .i64 (C).unif, .int .i64 (C).vary] 24) := (Blk.new w _ _).alloc _
  have HCB : Hid (Blk ((w.alloc (.cells #[.int .i64 (C).stage, .slice ao C.ins.length ca, .int .i64 (C).regs, .int .i64 (C).attr, .int .i64 (C).unif, .int .i64 (C).vary] 24)).alloc (.cells #[.int .i64 (D).stage, .slice bo D.ins.length cb, .int .i64 (D).regs, .int .i64 (D).attr, .int .i64 (D).unif, .int .i64 (D).vary] 24)) (w.heap.size + 1) #[.int .i64 (D).stage, .slice bo D.ins.length cb, .int .i64 (D).regs, .int .i64 (D).attr, .int .i64 (D).unif, .int .i64 (D).vary] 24) := Blk.here (by simp)
  have E2 : Hid (sameL C.ins D.ins = (decide (C.ins.length = D.ins.length) && sameTo C.ins D.ins C.ins.length)) := rfl
  generalize sameC C D = z at *
  generalize sameL C.ins D.ins = sl at *
  go_enter Tryz.func15, Tryz.ntmps15
  go_upto_region 1 with fail
  generalize ((w.alloc (.cells #[.int .i64 (C).stage, .slice ao C.ins.length ca, .int .i64 (C).regs, .int .i64 (C).attr, .int .i64 (C).unif, .int .i64 (C).vary] 24)).alloc (.cells #[.int .i64 (D).stage, .slice bo D.ins.length cb, .int .i64 (D).regs, .int .i64 (D).attr, .int .i64 (D).unif, .int .i64 (D).vary] 24)) = w2 at HCA HCB HX ⊢
  obtain ⟨p0, p1, p2, p3, p4, p5⟩ := cellC (unhide HCA)
  obtain ⟨q0, q1, q2, q3, q4, q5⟩ := cellC (unhide HCB)
  by_cases d0 : C.stage = D.stage
  case neg =>
    have EQ : Hid (z = false) := by rw [Hid, unhide E]; simp [d0]
    have b0 : (C.stage != D.stage) = true := by simp; exact d0
    clear E E2 d0
    go_wp2
    go_ret
    rw [unhide EQ]
    exact ⟨rfl, unhide HX⟩
  case pos =>
  have b0 : (C.stage != D.stage) = false := by simp [d0]
  by_cases d1 : C.regs = D.regs
  case neg =>
    have EQ : Hid (z = false) := by rw [Hid, unhide E]; simp [d1]
    have b1 : (C.regs != D.regs) = true := by simp; exact d1
    clear E E2 d1
    go_wp2
    go_ret
    rw [unhide EQ]
    exact ⟨rfl, unhide HX⟩
  case pos =>
  have b1 : (C.regs != D.regs) = false := by simp [d1]
  by_cases d2 : C.attr = D.attr
  case neg =>
    have EQ : Hid (z = false) := by rw [Hid, unhide E]; simp [d2]
    have b2 : (C.attr != D.attr) = true := by simp; exact d2
    clear E E2 d2
    go_wp2
    go_ret
    rw [unhide EQ]
    exact ⟨rfl, unhide HX⟩
  case pos =>
  have b2 : (C.attr != D.attr) = false := by simp [d2]
  by_cases d3 : C.unif = D.unif
  case neg =>
    have EQ : Hid (z = false) := by rw [Hid, unhide E]; simp [d3]
    have b3 : (C.unif != D.unif) = true := by simp; exact d3
    clear E E2 d3
    go_wp2
    go_ret
    rw [unhide EQ]
    exact ⟨rfl, unhide HX⟩
  case pos =>
  have b3 : (C.unif != D.unif) = false := by simp [d3]
  by_cases d4 : C.vary = D.vary
  case neg =>
    have EQ : Hid (z = false) := by rw [Hid, unhide E]; simp [d4]
    have b4 : (C.vary != D.vary) = true := by simp; exact d4
    clear E E2 d4
    go_wp2
    go_ret
    rw [unhide EQ]
    exact ⟨rfl, unhide HX⟩
  case pos =>
  have b4 : (C.vary != D.vary) = false := by simp [d4]
  by_cases d5 : (C.ins.length : Int) = (D.ins.length : Int)
  case neg =>
    have EQ : Hid (z = false) := by rw [Hid, unhide E]; simp [d5]
    have b5 : ((C.ins.length : Int) != (D.ins.length : Int)) = true := by simp; exact d5
    clear E E2 d5
    go_wp2
    go_ret
    rw [unhide EQ]
    exact ⟨rfl, unhide HX⟩
  case pos =>
  have b5 : ((C.ins.length : Int) != (D.ins.length : Int)) = false := by simp [d5]
  have el : C.ins.length = D.ins.length := by omega
  have EQ : Hid (z = sameTo C.ins D.ins C.ins.length) := by
    rw [Hid, unhide E, unhide E2, decide_eq_true el]
    simp [d0, d1, d2, d3, d4, d5]
  have HL := hide el
  rw [← el] at HB hb1 HCB q1 b5
  clear E E2 d0 d1 d2 d3 d4 d5 el
  go_upto_region 4 with fail
  generalize C.ins = A at *
  generalize D.ins = B at *
  clear p0 p2 p3 p4 p5 q0 q2 q3 q4 q5 b0 b1 b2 b3 b4 b5
  go_loopw [51] (fun iv wr => ∃ k : Nat, k ≤ A.length ∧ iv = .int .i64 (k : Int) ∧ Ext w2 wr ∧ sameTo A B k = true) (fun iv _ => A.length - (intOf iv).toNat)
  case atStart => exact ⟨0, Nat.zero_le _, rfl, Ext.refl _, rfl⟩
  case round =>
    obtain ⟨k, hk, rfl, hx, hs⟩ := hrel
    have X := hide ((unhide HX).trans hx)
    have XW := hide hx
    have HCA := hide ((unhide HCA).ext hx)
    have HCB := hide ((unhide HCB).ext hx)
    have HS0 := hide hs
    clear hx hs p1 q1
    by_cases hlt : k < A.length
    · have hlB : k < B.length := by rw [← unhide HL]; exact hlt
      have hkn : (k : Int) < (A.length : Int) := by omega
      obtain ⟨_, _, e1, _, _, _, hat⟩ := (unhide HA).ext (unhide X)
      have e1' := (Value.slice.inj e1).1
      subst e1'
      obtain ⟨ba, oa, rfl, hra⟩ := hat k hlt
      obtain ⟨_, _, e2, _, _, _, hbt⟩ := (unhide HB).ext (unhide X)
      have e2' := (Value.slice.inj e2).1
      subst e2'
      obtain ⟨bb, ob, rfl, hrb⟩ := hbt k hlB
      have HRA := hide hra
      have HRB := hide hrb
      have HSU := hide (sameTo_succ A B k)
      have HSF := hide (fun h => sameTo_false (A := A) (B := B) (k := k) (n := A.length) h hlt)
      rw [show A.getD k zI = A[k] by simp [hlt], show B.getD k zI = B[k] by simp [hlB]] at HSU HSF
      have HEQ := hide (fun wx => eqI A[k] B[k] wx)
      generalize A[k] = x at *
      generalize B[k] = y at *
      clear hra hrb hat hbt e1 e2
      generalize hsm : sameI x y = sm at *
      clear hsm
      cases sm
      case false =>
        have EF := hide (unhide HSF (by first | rfl | trivial))
        go_upto_region 6 with fail
        refine wp_region_noPanic ?_
        refine wp_region_held_drew (S := fun wx => Ext wr wx) (by kernel_rfl) ((Ext.refl _).drew) (fun HS => ?_)
        refine wpAnyH_take (i := 0) (oi := { dst := some 54, op := Op.fieldAddr _ (Operand.tmp 2) 1, type := _, pos := _, after := _, guard := none }) (v := .pointer (some ⟨w.heap.size, 1, none⟩)) rfl (by kernel_rfl) (by kernel_rfl) (by kernel_rfl) (fun _ _ _ h => h) (Or.inl ⟨by rfl, fun _ _ => rfl⟩) HS ?_
        simp only [Act.put, List.setIfInBounds_toArray, List.set_cons_zero, List.set_cons_succ]
        refine wpAnyH_take (i := 1) (oi := { dst := some 55, op := Op.load _ (Operand.tmp 54), type := _, pos := _, after := _, guard := none }) (v := .slice (some ⟨ba, oa, none⟩) A.length ca) rfl (by kernel_rfl) (by kernel_rfl) (by kernel_rfl) (fun _ _ _ h => h) (Or.inl ⟨by rfl, fun wx hx => by have h1 := (cellC ((unhide HCA).ext hx)).2.1; go_simp⟩) HS ?_
        simp only [Act.put, List.setIfInBounds_toArray, List.set_cons_zero, List.set_cons_succ]
        refine wpAnyH_take (i := 2) (oi := { dst := some 56, op := Op.move (Operand.tmp 5), type := _, pos := _, after := _, guard := none }) (v := .int .i64 (k : Int)) rfl (by kernel_rfl) (by kernel_rfl) (by kernel_rfl) (fun _ _ _ h => h) (Or.inl ⟨by rfl, fun _ _ => rfl⟩) HS ?_
        simp only [Act.put, List.setIfInBounds_toArray, List.set_cons_zero, List.set_cons_succ]
        refine wpAnyH_take (i := 3) (oi := { dst := some 57, op := Op.indexAddr _ (Operand.tmp 55) (Operand.tmp 56), type := _, pos := _, after := _, guard := none }) (v := .pointer (some ⟨ba, oa + k * 16, none⟩)) rfl (by kernel_rfl) (by kernel_rfl) (by kernel_rfl) (fun _ _ _ h => h) (Or.inl ⟨by rfl, fun wx hx => by go_simp⟩) HS ?_
        simp only [Act.put, List.setIfInBounds_toArray, List.set_cons_zero, List.set_cons_succ]
        refine wpAnyH_take (i := 4) (oi := { dst := some 58, op := Op.load _ (Operand.tmp 57), type := _, pos := _, after := _, guard := none }) (v := .agg (insA x)) rfl (by kernel_rfl) (by kernel_rfl) (by kernel_rfl) (fun _ _ _ h => h) (yieldsIf_load_mid (by rfl) 59 (.tmp 57) rfl ba (oa + k * 16) rfl (insA x).toList _ (fun wx hx => rng_ext (unhide HRA) hx) Tryz.underlying59 rfl sizeI16) HS ?_
        simp only [Act.put, List.setIfInBounds_toArray, List.set_cons_zero, List.set_cons_succ]
        refine wpAnyH_take (i := 5) (oi := { dst := some 59, op := Op.fieldAddr _ (Operand.tmp 3) 1, type := _, pos := _, after := _, guard := none }) (v := .pointer (some ⟨w.heap.size + 1, 1, none⟩)) rfl (by kernel_rfl) (by kernel_rfl) (by kernel_rfl) (fun _ _ _ h => h) (Or.inl ⟨by rfl, fun _ _ => rfl⟩) HS ?_
        simp only [Act.put, List.setIfInBounds_toArray, List.set_cons_zero, List.set_cons_succ]
        refine wpAnyH_take (i := 6) (oi := { dst := some 60, op := Op.load _ (Operand.tmp 59), type := _, pos := _, after := _, guard := none }) (v := .slice (some ⟨bb, ob, none⟩) A.length cb) rfl (by kernel_rfl) (by kernel_rfl) (by kernel_rfl) (fun _ _ _ h => h) (Or.inl ⟨by rfl, fun wx hx => by have h1 := (cellC ((unhide HCB).ext hx)).2.1; go_simp⟩) HS ?_
        simp only [Act.put, List.setIfInBounds_toArray, List.set_cons_zero, List.set_cons_succ]
        refine wpAnyH_take (i := 7) (oi := { dst := some 61, op := Op.move (Operand.tmp 5), type := _, pos := _, after := _, guard := none }) (v := .int .i64 (k : Int)) rfl (by kernel_rfl) (by kernel_rfl) (by kernel_rfl) (fun _ _ _ h => h) (Or.inl ⟨by rfl, fun _ _ => rfl⟩) HS ?_
        simp only [Act.put, List.setIfInBounds_toArray, List.set_cons_zero, List.set_cons_succ]
        refine wpAnyH_take (i := 8) (oi := { dst := some 62, op := Op.indexAddr _ (Operand.tmp 60) (Operand.tmp 61), type := _, pos := _, after := _, guard := none }) (v := .pointer (some ⟨bb, ob + k * 16, none⟩)) rfl (by kernel_rfl) (by kernel_rfl) (by kernel_rfl) (fun _ _ _ h => h) (Or.inl ⟨by rfl, fun wx hx => by go_simp⟩) HS ?_
        simp only [Act.put, List.setIfInBounds_toArray, List.set_cons_zero, List.set_cons_succ]
        refine wpAnyH_take (i := 9) (oi := { dst := some 63, op := Op.load _ (Operand.tmp 62), type := _, pos := _, after := _, guard := none }) (v := .agg (insA y)) rfl (by kernel_rfl) (by kernel_rfl) (by kernel_rfl) (fun _ _ _ h => h) (yieldsIf_load_mid (by rfl) 59 (.tmp 62) rfl bb (ob + k * 16) rfl (insA y).toList _ (fun wx hx => rng_ext (unhide HRB) hx) Tryz.underlying59 rfl sizeI16) HS ?_
        simp only [Act.put, List.setIfInBounds_toArray, List.set_cons_zero, List.set_cons_succ]
        refine wpAnyH_take (i := 10) (oi := { dst := some 64, op := Op.binOp BinOp.neq _ (Operand.tmp 58) (Operand.tmp 63) _, type := _, pos := _, after := _, guard := none }) (v := .bool true) rfl (by kernel_rfl) (by kernel_rfl) (by kernel_rfl) (fun _ _ _ h => h) (Or.inl ⟨by rfl, fun wx hx => exec_ne _ _ (.tmp 58) (.tmp 63) _ _ _ _ false rfl rfl rfl grdI (unhide HEQ wx)⟩) HS ?_
        simp only [Act.put, List.setIfInBounds_toArray, List.set_cons_zero, List.set_cons_succ]
        refine wpAnyH_done (by kernel_rfl) ?_ _
        refine NoPanic.normal ?_
        have HX9 := hide ((unhide X).trans HS)
        go_wp2
        go_ret
        rw [unhide EQ, unhide EF]
        exact ⟨rfl, unhide HX9⟩
      case true =>
        have ET : Hid (sameTo A B (k + 1) = true) := by rw [Hid, unhide HSU, unhide HS0]; rfl
        go_upto_region 6 with fail
        refine wp_region_noPanic ?_
        refine wp_region_held_drew (S := fun wx => Ext wr wx) (by kernel_rfl) ((Ext.refl _).drew) (fun HS => ?_)
        refine wpAnyH_take (i := 0) (oi := { dst := some 54, op := Op.fieldAddr _ (Operand.tmp 2) 1, type := _, pos := _, after := _, guard := none }) (v := .pointer (some ⟨w.heap.size, 1, none⟩)) rfl (by kernel_rfl) (by kernel_rfl) (by kernel_rfl) (fun _ _ _ h => h) (Or.inl ⟨by rfl, fun _ _ => rfl⟩) HS ?_
        simp only [Act.put, List.setIfInBounds_toArray, List.set_cons_zero, List.set_cons_succ]
        refine wpAnyH_take (i := 1) (oi := { dst := some 55, op := Op.load _ (Operand.tmp 54), type := _, pos := _, after := _, guard := none }) (v := .slice (some ⟨ba, oa, none⟩) A.length ca) rfl (by kernel_rfl) (by kernel_rfl) (by kernel_rfl) (fun _ _ _ h => h) (Or.inl ⟨by rfl, fun wx hx => by have h1 := (cellC ((unhide HCA).ext hx)).2.1; go_simp⟩) HS ?_
        simp only [Act.put, List.setIfInBounds_toArray, List.set_cons_zero, List.set_cons_succ]
        refine wpAnyH_take (i := 2) (oi := { dst := some 56, op := Op.move (Operand.tmp 5), type := _, pos := _, after := _, guard := none }) (v := .int .i64 (k : Int)) rfl (by kernel_rfl) (by kernel_rfl) (by kernel_rfl) (fun _ _ _ h => h) (Or.inl ⟨by rfl, fun _ _ => rfl⟩) HS ?_
        simp only [Act.put, List.setIfInBounds_toArray, List.set_cons_zero, List.set_cons_succ]
        refine wpAnyH_take (i := 3) (oi := { dst := some 57, op := Op.indexAddr _ (Operand.tmp 55) (Operand.tmp 56), type := _, pos := _, after := _, guard := none }) (v := .pointer (some ⟨ba, oa + k * 16, none⟩)) rfl (by kernel_rfl) (by kernel_rfl) (by kernel_rfl) (fun _ _ _ h => h) (Or.inl ⟨by rfl, fun wx hx => by go_simp⟩) HS ?_
        simp only [Act.put, List.setIfInBounds_toArray, List.set_cons_zero, List.set_cons_succ]
        refine wpAnyH_take (i := 4) (oi := { dst := some 58, op := Op.load _ (Operand.tmp 57), type := _, pos := _, after := _, guard := none }) (v := .agg (insA x)) rfl (by kernel_rfl) (by kernel_rfl) (by kernel_rfl) (fun _ _ _ h => h) (yieldsIf_load_mid (by rfl) 59 (.tmp 57) rfl ba (oa + k * 16) rfl (insA x).toList _ (fun wx hx => rng_ext (unhide HRA) hx) Tryz.underlying59 rfl sizeI16) HS ?_
        simp only [Act.put, List.setIfInBounds_toArray, List.set_cons_zero, List.set_cons_succ]
        refine wpAnyH_take (i := 5) (oi := { dst := some 59, op := Op.fieldAddr _ (Operand.tmp 3) 1, type := _, pos := _, after := _, guard := none }) (v := .pointer (some ⟨w.heap.size + 1, 1, none⟩)) rfl (by kernel_rfl) (by kernel_rfl) (by kernel_rfl) (fun _ _ _ h => h) (Or.inl ⟨by rfl, fun _ _ => rfl⟩) HS ?_
        simp only [Act.put, List.setIfInBounds_toArray, List.set_cons_zero, List.set_cons_succ]
        refine wpAnyH_take (i := 6) (oi := { dst := some 60, op := Op.load _ (Operand.tmp 59), type := _, pos := _, after := _, guard := none }) (v := .slice (some ⟨bb, ob, none⟩) A.length cb) rfl (by kernel_rfl) (by kernel_rfl) (by kernel_rfl) (fun _ _ _ h => h) (Or.inl ⟨by rfl, fun wx hx => by have h1 := (cellC ((unhide HCB).ext hx)).2.1; go_simp⟩) HS ?_
        simp only [Act.put, List.setIfInBounds_toArray, List.set_cons_zero, List.set_cons_succ]
        refine wpAnyH_take (i := 7) (oi := { dst := some 61, op := Op.move (Operand.tmp 5), type := _, pos := _, after := _, guard := none }) (v := .int .i64 (k : Int)) rfl (by kernel_rfl) (by kernel_rfl) (by kernel_rfl) (fun _ _ _ h => h) (Or.inl ⟨by rfl, fun _ _ => rfl⟩) HS ?_
        simp only [Act.put, List.setIfInBounds_toArray, List.set_cons_zero, List.set_cons_succ]
        refine wpAnyH_take (i := 8) (oi := { dst := some 62, op := Op.indexAddr _ (Operand.tmp 60) (Operand.tmp 61), type := _, pos := _, after := _, guard := none }) (v := .pointer (some ⟨bb, ob + k * 16, none⟩)) rfl (by kernel_rfl) (by kernel_rfl) (by kernel_rfl) (fun _ _ _ h => h) (Or.inl ⟨by rfl, fun wx hx => by go_simp⟩) HS ?_
        simp only [Act.put, List.setIfInBounds_toArray, List.set_cons_zero, List.set_cons_succ]
        refine wpAnyH_take (i := 9) (oi := { dst := some 63, op := Op.load _ (Operand.tmp 62), type := _, pos := _, after := _, guard := none }) (v := .agg (insA y)) rfl (by kernel_rfl) (by kernel_rfl) (by kernel_rfl) (fun _ _ _ h => h) (yieldsIf_load_mid (by rfl) 59 (.tmp 62) rfl bb (ob + k * 16) rfl (insA y).toList _ (fun wx hx => rng_ext (unhide HRB) hx) Tryz.underlying59 rfl sizeI16) HS ?_
        simp only [Act.put, List.setIfInBounds_toArray, List.set_cons_zero, List.set_cons_succ]
        refine wpAnyH_take (i := 10) (oi := { dst := some 64, op := Op.binOp BinOp.neq _ (Operand.tmp 58) (Operand.tmp 63) _, type := _, pos := _, after := _, guard := none }) (v := .bool false) rfl (by kernel_rfl) (by kernel_rfl) (by kernel_rfl) (fun _ _ _ h => h) (Or.inl ⟨by rfl, fun wx hx => exec_ne _ _ (.tmp 58) (.tmp 63) _ _ _ _ true rfl rfl rfl grdI (unhide HEQ wx)⟩) HS ?_
        simp only [Act.put, List.setIfInBounds_toArray, List.set_cons_zero, List.set_cons_succ]
        refine wpAnyH_done (by kernel_rfl) ?_ _
        refine NoPanic.normal ?_
        have HX9 := hide ((unhide XW).trans HS)
        go_wp2
        go_roundw
        case rel => exact ⟨k + 1, by omega, by go_num, unhide HX9, unhide ET⟩
        case measure => simp [intOf]; omega
    · obtain rfl : k = A.length := by omega
      go_wp2
      go_ret
      rw [unhide EQ, unhide HS0]
      exact ⟨rfl, unhide X⟩
end Go.Proofs.YtglfhmlcmffoaaaGreat

/-
  Results that are the same: slices.Equal of vectors, vm's Same, the document's Same.
-/
namespace Go.Proofs.YtglfhmlcmffoaaaGreat
open Go.RowKit
set_option linter.unusedVariables false
set_option linter.unusedSimpArgs false

/-- Are two vectors the same? -/
def same4 (a b : Nat → Int) : Bool := a 0 == b 0 && (a 1 == b 1 && (a 2 == b 2 && a 3 == b 3))
theorem same4_iff (a b : Nat → Int) : same4 a b = true ↔ l4 a = l4 b := by
  unfold same4 l4
  simp only [Bool.and_eq_true, beq_iff_eq, List.cons.injEq, and_true]
theorem same4_self (a : Nat → Int) : same4 a a = true := (same4_iff a a).2 rfl
theorem eqP (a b : Nat → Int) (w : World) : (Op.equalIn 10000 28 (.agg #[.int .i32 (a 0), .int .i32 (a 1), .int .i32 (a 2), .int .i32 (a 3)]) (.agg #[.int .i32 (b 0), .int .i32 (b 1), .int .i32 (b 2), .int .i32 (b 3)])).run Tryz.prog w = .ok (same4 a b) w := eqV _ _ _ _ _ _ _ _ w
/-- Are two rows of vectors the same? -/
def sameR (V U : List (Nat → Int)) : Bool := decide (V.map l4 = U.map l4)
theorem sameR_self (V : List (Nat → Int)) : sameR V V = true := decide_eq_true rfl
theorem VRow.cells {w : World} {ao : Option Addr} {n cap : Nat} {L : List (Nat → Int)} (h : VRow w (.slice ao n cap) L) (k : Nat) (hk : k < L.length) :
    ∃ b off, ao = some ⟨b, off, none⟩ ∧ (w.cell? ⟨b, off + k * 4, none⟩ = some (.int .i32 (L[k] 0)) ∧ w.cell? ⟨b, off + k * 4 + 1, none⟩ = some (.int .i32 (L[k] 1)) ∧ w.cell? ⟨b, off + k * 4 + 2, none⟩ = some (.int .i32 (L[k] 2)) ∧ w.cell? ⟨b, off + k * 4 + 3, none⟩ = some (.int .i32 (L[k] 3))) := by
  obtain ⟨b, off, e, hc⟩ := h.at k hk
  have hd : L.getD k nul = L[k] := by simp [hk]
  refine ⟨b, off, e, ?_⟩
  rw [← hd]
  exact ⟨hc k 0 hk (by omega), hc k 1 hk (by omega), hc k 2 hk (by omega), hc k 3 hk (by omega)⟩

set_option maxRecDepth 10000 in
set_option maxHeartbeats 2000000 in
theorem eqVs_any (ao ap : Option Addr) (cap cbp : Nat) (xs ys : List (Nat → Int)) (w : World) (hr : VRow w (.slice ao xs.length cap) xs) (hs : VRow w (.slice ap ys.length cbp) ys) (hlen : xs.length ≤ 1000000) :
    Calls Tryz.prog 32 #[.slice ao xs.length cap, .slice ap ys.length cbp] w fun e w' => e = .returned (.bool (sameR xs ys)) ∧ Ext w w' := by
  have HR := hide hr
  have HS := hide hs
  have HSR := hide (show sameR xs ys = decide (xs.map l4 = ys.map l4) from rfl)
  clear hr hs
  obtain ⟨z, hz⟩ : ∃ z, sameR xs ys = z := ⟨_, rfl⟩
  rw [hz] at HSR ⊢
  clear hz
  by_cases el : xs.length = ys.length
  case neg =>
    have E : Hid (z = false) := by rw [Hid, unhide HSR]; exact decide_eq_false (fun c => el (by simpa using congrArg List.length c))
    have d0 : ((xs.length : Int) != (ys.length : Int)) = true := by simp; omega
    clear el
    go_enter Tryz.func32, Tryz.ntmps32
    go_wp2
    go_ret
    rw [unhide E]
    exact ⟨rfl, Ext.refl _⟩
  case pos =>
  have HL := hide el
  rw [← el] at HS ⊢
  clear el
  go_enter Tryz.func32, Tryz.ntmps32
  go_wp2
  go_loopw [13] (fun iv wr => ∃ k n : Nat, k ≤ xs.length ∧ iv = .int .i64 (k : Int) ∧ wr = w.drewN n ∧ Hid ((xs.take k).map l4 = (ys.take k).map l4)) (fun iv _ => xs.length - (intOf iv).toNat)
  case atStart => exact ⟨0, 0, Nat.zero_le _, rfl, rfl, rfl⟩
  case round =>
    obtain ⟨k, n, hk, rfl, rfl, HT⟩ := hrel
    by_cases hlt : k < xs.length
    · have hkn : (k : Int) < (xs.length : Int) := by omega
      have hkM : k < ys.length := by rw [← unhide HL]; exact hlt
      obtain ⟨b, off, ea, c0, c1, c2, c3⟩ := (unhide HR).cells k hlt
      obtain ⟨b', off', ea', d0, d1, d2, d3⟩ := (unhide HS).cells k hkM
      subst ea
      subst ea'
      obtain ⟨x, hx⟩ : ∃ x, xs[k] = x := ⟨_, rfl⟩
      obtain ⟨y, hy⟩ : ∃ y, ys[k] = y := ⟨_, rfl⟩
      rw [hx] at c0 c1 c2 c3
      rw [hy] at d0 d1 d2 d3
      have HNE : Hid (same4 x y = false → z = false) := fun hne => by
        rw [unhide HSR]
        refine decide_eq_false fun c => ?_
        have h1 : (xs.map l4)[k]? = (ys.map l4)[k]? := by rw [c]
        rw [List.getElem?_map, List.getElem?_map, List.getElem?_eq_getElem hlt, List.getElem?_eq_getElem hkM, hx, hy] at h1
        have h2 := (same4_iff x y).2 (by simpa using h1)
        rw [hne] at h2
        cases h2
      have HEQ : Hid (same4 x y = true → (xs.take (k + 1)).map l4 = (ys.take (k + 1)).map l4) := fun heq => by
        rw [List.take_succ_eq_append_getElem hlt, List.take_succ_eq_append_getElem hkM, List.map_append, List.map_append, unhide HT, hx, hy, List.map_cons, List.map_cons, (same4_iff x y).1 heq]
      have hE : ∀ w, (Op.equalIn 10000 28 (.agg #[.int .i32 (x 0), .int .i32 (x 1), .int .i32 (x 2), .int .i32 (x 3)]) (.agg #[.int .i32 (y 0), .int .i32 (y 1), .int .i32 (y 2), .int .i32 (y 3)])).run Tryz.prog w = .ok (same4 x y) w := eqP x y
      clear hx hy
      obtain ⟨p, hp⟩ : ∃ p, same4 x y = p := ⟨_, rfl⟩
      rw [hp] at HNE HEQ hE
      clear hp
      cases p
      case false =>
        have E := hide (unhide HNE rfl)
        clear HNE HEQ
        go_upto_region 6 with fail
        go_quiet (fail)
        go_wp2
        go_ret
        rw [unhide E]
        exact ⟨rfl, ((Ext.refl w).drewN n).drewN _⟩
      case true =>
        have E := hide (unhide HEQ rfl)
        clear HNE HEQ
        go_upto_region 6 with fail
        go_quiet (fail)
        go_wp2
        go_roundw
        case rel => exact ⟨k + 1, n + nq, by omega, by go_num, by first | rfl | exact drewN_drewN _ _ _, unhide E⟩
        case measure => simp [intOf]; omega
    · obtain rfl : k = xs.length := by omega
      have E : Hid (z = true) := by
        rw [Hid, unhide HSR]
        have h1 := unhide HT
        rw [List.take_of_length_le (by omega), List.take_of_length_le (by rw [unhide HL]; omega)] at h1
        exact decide_eq_true h1
      clear HT
      go_wp2
      go_ret
      rw [unhide E]
      exact ⟨rfl, (Ext.refl w).drewN n⟩

/-- Are two results the same? -/
def sameO (A B : OutC) (V U : List (Nat → Int)) : Bool := same4 A.po B.po && ((A.sz == B.sz) && (same4 A.cl B.cl && ((A.dc == B.dc) && sameR V U)))
theorem outA_cells {w : World} {b : Nat} {A : OutC} {t : TypeId} (h : Blk w b (outA A) t) : (w.cell? ⟨b, 0, none⟩ = some (.int .i32 (A.po 0)) ∧ w.cell? ⟨b, 1, none⟩ = some (.int .i32 (A.po 1)) ∧ w.cell? ⟨b, 2, none⟩ = some (.int .i32 (A.po 2)) ∧ w.cell? ⟨b, 3, none⟩ = some (.int .i32 (A.po 3))) ∧ w.cell? ⟨b, 4, none⟩ = some (.int .i32 A.sz) ∧ w.cell? ⟨b, 5, none⟩ = some A.vy ∧ (w.cell? ⟨b, 6, none⟩ = some (.int .i32 (A.cl 0)) ∧ w.cell? ⟨b, 7, none⟩ = some (.int .i32 (A.cl 1)) ∧ w.cell? ⟨b, 8, none⟩ = some (.int .i32 (A.cl 2)) ∧ w.cell? ⟨b, 9, none⟩ = some (.int .i32 (A.cl 3))) ∧ w.cell? ⟨b, 10, none⟩ = some (.bool A.dc) :=
  ⟨⟨h.cell rfl, h.cell rfl, h.cell rfl, h.cell rfl⟩, h.cell rfl, h.cell rfl, ⟨h.cell rfl, h.cell rfl, h.cell rfl, h.cell rfl⟩, h.cell rfl⟩

set_option maxRecDepth 10000 in
set_option maxHeartbeats 4000000 in
theorem vmSame_any (A B : OutC) (V U : List (Nat → Int)) (w : World) (hA : VRow w A.vy V) (hB : VRow w B.vy U) (hlen : V.length ≤ 1000000) :
    Calls Tryz.prog 20 #[.agg (outA A), .agg (outA B)] w fun e w' => e = .returned (.bool (sameO A B V U)) ∧ Ext w w' := by
  have HX := hide (show Ext w ((w.alloc (.cells (outA A) 36)).alloc (.cells (outA B) 36)) from ((Ext.refl w).alloc _).alloc _)
  have HA := hide (show Blk ((w.alloc (.cells (outA A) 36)).alloc (.cells (outA B) 36)) w.heap.size (outA A) 36 from (Blk.new w _ _).alloc _)
  have HB := hide (show Blk ((w.alloc (.cells (outA A) 36)).alloc (.cells (outA B) 36)) (w.heap.size + 1) (outA B) 36 from Blk.at (by simp))
  obtain ⟨aa, ca, eA⟩ := hA.shape
  obtain ⟨ab, cb, eB⟩ := hB.shape
  have HV : Hid (∀ wx, Ext w wx → Calls Tryz.prog 32 #[.slice aa V.length ca, .slice ab U.length cb] wx fun e w' => e = .returned (.bool (sameR V U)) ∧ Ext wx w') := fun wx hx => eqVs_any aa ab ca cb V U wx (by rw [← eA]; exact hA.ext hx) (by rw [← eB]; exact hB.ext hx) hlen
  have E := hide (show sameO A B V U = (same4 A.po B.po && ((A.sz == B.sz) && (same4 A.cl B.cl && ((A.dc == B.dc) && sameR V U)))) from rfl)
  obtain ⟨z, hz⟩ : ∃ z, sameO A B V U = z := ⟨_, rfl⟩
  rw [hz] at E ⊢
  clear hA hB hz
  have hE1 : ∀ w, (Op.equalIn 10000 28 (.agg #[.int .i32 (A.po 0), .int .i32 (A.po 1), .int .i32 (A.po 2), .int .i32 (A.po 3)]) (.agg #[.int .i32 (B.po 0), .int .i32 (B.po 1), .int .i32 (B.po 2), .int .i32 (B.po 3)])).run Tryz.prog w = .ok (same4 A.po B.po) w := eqP _ _
  have hE2 : ∀ w, (Op.equalIn 10000 28 (.agg #[.int .i32 (A.cl 0), .int .i32 (A.cl 1), .int .i32 (A.cl 2), .int .i32 (A.cl 3)]) (.agg #[.int .i32 (B.cl 0), .int .i32 (B.cl 1), .int .i32 (B.cl 2), .int .i32 (B.cl 3)])).run Tryz.prog w = .ok (same4 A.cl B.cl) w := eqP _ _
  obtain ⟨p1, hp1⟩ : ∃ p, same4 A.po B.po = p := ⟨_, rfl⟩
  obtain ⟨p2, hp2⟩ : ∃ p, same4 A.cl B.cl = p := ⟨_, rfl⟩
  obtain ⟨p3, hp3⟩ : ∃ p, sameR V U = p := ⟨_, rfl⟩
  rw [hp1] at hE1 E
  rw [hp2] at hE2 E
  rw [hp3] at HV E
  clear hp1 hp2 hp3
  go_enter Tryz.func20, Tryz.ntmps20
  go_upto_region 1 with fail
  generalize hw2 : ((w.alloc (.cells (outA A) 36)).alloc (.cells (outA B) 36)) = w2 at HX HA HB
  try rw [show ((w.alloc (.cells (outA A) 36)).alloc (.cells (outA B) 36)) = w2 from hw2]
  clear hw2
  have HVX := hide (fun wx (hx : Ext w2 wx) => unhide HV wx ((unhide HX).trans hx))
  have HV2 := hide (unhide HVX w2 (Ext.refl _))
  obtain ⟨⟨a0, a1, a2, a3⟩, a4, a5, ⟨a6, a7, a8, a9⟩, a10⟩ := outA_cells (unhide HA)
  obtain ⟨⟨b0, b1, b2, b3⟩, b4, b5, ⟨b6, b7, b8, b9⟩, b10⟩ := outA_cells (unhide HB)
  rw [eA] at a5
  rw [eB] at b5
  clear HV HVX HA HB
  clear eA eB
  cases p1
  case false =>
    have E2 : Hid (z = false) := by rw [Hid, unhide E]; rfl
    clear E
    go_wp2
    go_ret
    rw [unhide E2]
    exact ⟨rfl, unhide HX⟩
  case true =>
  by_cases h4 : A.sz = B.sz
  case neg =>
    have d4 : (A.sz == B.sz) = false := by simp [h4]
    have E2 : Hid (z = false) := by rw [Hid, unhide E, d4]; rfl
    clear E h4
    go_wp2
    go_ret
    rw [unhide E2]
    exact ⟨rfl, unhide HX⟩
  case pos =>
  have d4 : (A.sz == B.sz) = true := by simp [h4]
  cases p2
  case false =>
    have E2 : Hid (z = false) := by rw [Hid, unhide E, d4]; rfl
    clear E h4
    go_wp2
    go_ret
    rw [unhide E2]
    exact ⟨rfl, unhide HX⟩
  case true =>
  by_cases h5 : A.dc = B.dc
  case neg =>
    have d5 : (A.dc == B.dc) = false := by simp [h5]
    have E2 : Hid (z = false) := by rw [Hid, unhide E, d4, d5]; rfl
    clear E h4 h5
    go_wp2
    go_ret
    rw [unhide E2]
    exact ⟨rfl, unhide HX⟩
  case pos =>
  have d5 : (A.dc == B.dc) = true := by simp [h5]
  have E2 : Hid (z = p3) := by rw [Hid, unhide E, d4, d5]; simp
  clear E h4 h5
  go_wp2_with (go_at_call 32; refine (unhide HV2).mono ?_; rintro e w3 ⟨rfl, hx3⟩; have X3 := hide hx3; clear hx3)
  go_ret
  rw [unhide E2]
  exact ⟨by simp, (unhide HX).trans (unhide X3)⟩

set_option maxRecDepth 10000 in
set_option maxHeartbeats 4000000 in
theorem ref15Same_any (A B : OutC) (V U : List (Nat → Int)) (w : World) (hA : VRow w A.vy V) (hB : VRow w B.vy U) (hlen : V.length ≤ 1000000) :
    Calls Tryz.prog 17 #[.agg (outA A), .agg (outA B)] w fun e w' => e = .returned (.bool (sameO A B V U)) ∧ Ext w w' := by
  have HX := hide (show Ext w ((w.alloc (.cells (outA A) 36)).alloc (.cells (outA B) 36)) from ((Ext.refl w).alloc _).alloc _)
  have HA := hide (show Blk ((w.alloc (.cells (outA A) 36)).alloc (.cells (outA B) 36)) w.heap.size (outA A) 36 from (Blk.new w _ _).alloc _)
  have HB := hide (show Blk ((w.alloc (.cells (outA A) 36)).alloc (.cells (outA B) 36)) (w.heap.size + 1) (outA B) 36 from Blk.at (by simp))
  obtain ⟨aa, ca, eA⟩ := hA.shape
  obtain ⟨ab, cb, eB⟩ := hB.shape
  have HRV : Hid (VRow ((w.alloc (.cells (outA A) 36)).alloc (.cells (outA B) 36)) (.slice aa V.length ca) V) := by rw [← eA]; exact hA.ext (unhide HX)
  have HRU : Hid (VRow ((w.alloc (.cells (outA A) 36)).alloc (.cells (outA B) 36)) (.slice ab U.length cb) U) := by rw [← eB]; exact hB.ext (unhide HX)
  have E := hide (show sameO A B V U = (same4 A.po B.po && ((A.sz == B.sz) && (same4 A.cl B.cl && ((A.dc == B.dc) && sameR V U)))) from rfl)
  have HSR := hide (show sameR V U = decide (V.map l4 = U.map l4) from rfl)
  obtain ⟨z, hz⟩ : ∃ z, sameO A B V U = z := ⟨_, rfl⟩
  rw [hz] at E ⊢
  clear hA hB hz
  have hE1 : ∀ w, (Op.equalIn 10000 28 (.agg #[.int .i32 (A.po 0), .int .i32 (A.po 1), .int .i32 (A.po 2), .int .i32 (A.po 3)]) (.agg #[.int .i32 (B.po 0), .int .i32 (B.po 1), .int .i32 (B.po 2), .int .i32 (B.po 3)])).run Tryz.prog w = .ok (same4 A.po B.po) w := eqP _ _
  have hE2 : ∀ w, (Op.equalIn 10000 28 (.agg #[.int .i32 (A.cl 0), .int .i32 (A.cl 1), .int .i32 (A.cl 2), .int .i32 (A.cl 3)]) (.agg #[.int .i32 (B.cl 0), .int .i32 (B.cl 1), .int .i32 (B.cl 2), .int .i32 (B.cl 3)])).run Tryz.prog w = .ok (same4 A.cl B.cl) w := eqP _ _
  obtain ⟨p1, hp1⟩ : ∃ p, same4 A.po B.po = p := ⟨_, rfl⟩
  obtain ⟨p2, hp2⟩ : ∃ p, same4 A.cl B.cl = p := ⟨_, rfl⟩
  obtain ⟨p3, hp3⟩ : ∃ p, sameR V U = p := ⟨_, rfl⟩
  rw [hp1] at hE1 E
  rw [hp2] at hE2 E
  rw [hp3] at HSR E
  clear hp1 hp2 hp3
  go_enter Tryz.func17, Tryz.ntmps17
  go_upto_region 1 with fail
  generalize hw2 : ((w.alloc (.cells (outA A) 36)).alloc (.cells (outA B) 36)) = w2 at HX HA HB HRV HRU
  try rw [show ((w.alloc (.cells (outA A) 36)).alloc (.cells (outA B) 36)) = w2 from hw2]
  clear hw2
  obtain ⟨⟨a0, a1, a2, a3⟩, a4, a5, ⟨a6, a7, a8, a9⟩, a10⟩ := outA_cells (unhide HA)
  obtain ⟨⟨b0, b1, b2, b3⟩, b4, b5, ⟨b6, b7, b8, b9⟩, b10⟩ := outA_cells (unhide HB)
  rw [eA] at a5
  rw [eB] at b5
  clear HA HB eA eB
  by_cases el : V.length = U.length
  case neg =>
    have E2 : Hid (z = false) := by
      have : p3 = false := by rw [unhide HSR]; exact decide_eq_false (fun c => el (by simpa using congrArg List.length c))
      rw [Hid, unhide E, this]
      simp
    have d0 : ((V.length : Int) != (U.length : Int)) = true := by simp; omega
    clear el E HSR
    go_wp2
    go_ret
    rw [unhide E2]
    exact ⟨rfl, unhide HX⟩
  case pos =>
  have HL := hide el
  have d0 : ((V.length : Int) != (U.length : Int)) = false := by simp [el]
  clear el
  go_wp2
  go_loopw [5] (fun iv wr => ∃ k n : Nat, k ≤ V.length ∧ iv = .int .i64 (k : Int) ∧ wr = w2.drewN n ∧ Hid ((V.take k).map l4 = (U.take k).map l4)) (fun iv _ => V.length - (intOf iv).toNat)
  case atStart => exact ⟨0, 0, Nat.zero_le _, rfl, rfl, rfl⟩
  case round =>
    obtain ⟨k, n, hk, rfl, rfl, HT⟩ := hrel
    by_cases hlt : k < V.length
    · have hkn : (k : Int) < (V.length : Int) := by omega
      have hkM : k < U.length := by rw [← unhide HL]; exact hlt
      have hkMi : (k : Int) < (U.length : Int) := by omega
      obtain ⟨b, off, ea, x0, x1, x2, x3⟩ := (unhide HRV).cells k hlt
      obtain ⟨b', off', ea', y0, y1, y2, y3⟩ := (unhide HRU).cells k hkM
      subst ea
      subst ea'
      obtain ⟨x, hx⟩ : ∃ x, V[k] = x := ⟨_, rfl⟩
      obtain ⟨y, hy⟩ : ∃ y, U[k] = y := ⟨_, rfl⟩
      rw [hx] at x0 x1 x2 x3
      rw [hy] at y0 y1 y2 y3
      have HNE : Hid (same4 x y = false → p3 = false) := fun hne => by
        rw [unhide HSR]
        refine decide_eq_false fun c => ?_
        have h1 : (V.map l4)[k]? = (U.map l4)[k]? := by rw [c]
        rw [List.getElem?_map, List.getElem?_map, List.getElem?_eq_getElem hlt, List.getElem?_eq_getElem hkM, hx, hy] at h1
        have h2 := (same4_iff x y).2 (by simpa using h1)
        rw [hne] at h2
        cases h2
      have HEQ : Hid (same4 x y = true → (V.take (k + 1)).map l4 = (U.take (k + 1)).map l4) := fun heq => by
        rw [List.take_succ_eq_append_getElem hlt, List.take_succ_eq_append_getElem hkM, List.map_append, List.map_append, unhide HT, hx, hy, List.map_cons, List.map_cons, (same4_iff x y).1 heq]
      have hE3 : ∀ w, (Op.equalIn 10000 28 (.agg #[.int .i32 (x 0), .int .i32 (x 1), .int .i32 (x 2), .int .i32 (x 3)]) (.agg #[.int .i32 (y 0), .int .i32 (y 1), .int .i32 (y 2), .int .i32 (y 3)])).run Tryz.prog w = .ok (same4 x y) w := eqP x y
      clear hx hy
      obtain ⟨p, hp⟩ : ∃ p, same4 x y = p := ⟨_, rfl⟩
      rw [hp] at HNE HEQ hE3
      clear hp
      cases p
      case false =>
        have E2 : Hid (z = false) := by rw [Hid, unhide E, unhide HNE rfl]; simp
        clear HNE HEQ
        go_upto_region 6 with fail
        go_quiet (fail)
        go_wp2
        go_ret
        rw [unhide E2]
        exact ⟨rfl, ((unhide HX).drewN n).drewN _⟩
      case true =>
        have E2 := hide (unhide HEQ rfl)
        clear HNE HEQ
        go_upto_region 6 with fail
        go_quiet (fail)
        go_wp2
        go_roundw
        case rel => exact ⟨k + 1, n + nq, by omega, by go_num, by first | rfl | exact drewN_drewN _ _ _, unhide E2⟩
        case measure => simp [intOf]; omega
    · obtain rfl : k = V.length := by omega
      have E3 : Hid (p3 = true) := by
        rw [Hid, unhide HSR]
        have h1 := unhide HT
        rw [List.take_of_length_le (by omega), List.take_of_length_le (by rw [unhide HL]; omega)] at h1
        exact decide_eq_true h1
      have E4 : Hid (z = (p1 && ((A.sz == B.sz) && (p2 && (A.dc == B.dc))))) := by rw [Hid, unhide E, unhide E3, Bool.and_true]
      clear HT E E3
      have HX9 := hide ((unhide HX).drewN n)
      cases p1
      case false =>
        have E2 : Hid (z = false) := by rw [Hid, unhide E4]; rfl
        clear E4
        go_wp2
        go_ret
        rw [unhide E2]
        exact ⟨rfl, unhide HX9⟩
      case true =>
      by_cases h4 : A.sz = B.sz
      case neg =>
        have d4 : (A.sz == B.sz) = false := by simp [h4]
        have E2 : Hid (z = false) := by rw [Hid, unhide E4, d4]; rfl
        clear E4 h4
        go_wp2
        go_ret
        rw [unhide E2]
        exact ⟨rfl, unhide HX9⟩
      case pos =>
      have d4 : (A.sz == B.sz) = true := by simp [h4]
      cases p2
      case false =>
        have E2 : Hid (z = false) := by rw [Hid, unhide E4, d4]; rfl
        clear E4 h4
        go_wp2
        go_ret
        rw [unhide E2]
        exact ⟨rfl, unhide HX9⟩
      case true =>
      obtain ⟨p5, hp5⟩ : ∃ p, (A.dc == B.dc) = p := ⟨_, rfl⟩
      have E2 : Hid (z = p5) := by rw [Hid, unhide E4, d4, hp5]; simp
      clear E4 h4
      go_wp2
      go_ret
      rw [unhide E2]
      exact ⟨by first | rfl | simp, unhide HX9⟩
theorem sameO_self (A : OutC) (V : List (Nat → Int)) : sameO A A V V = true := by
  unfold sameO
  rw [same4_self, same4_self, sameR_self]
  simp
end Go.Proofs.YtglfhmlcmffoaaaGreat
