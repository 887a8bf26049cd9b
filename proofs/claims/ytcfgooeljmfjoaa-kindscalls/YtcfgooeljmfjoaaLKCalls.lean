/-
  KindsCalls: what comes of whatever call of whatever types, and its number, is as the document says, or refused; for every name and row of types.
-/
import Derived.Test.YtcfgooeljmfjoaaKV
import Derived.Test.YtcfgooeljmfjoaaKZ
import Derived.Test.YtcfgooeljmfjoaaFrK
import Derived.Deep.Strs
import Derived.Laws.AppendOwn
import Derived.Laws.AppendOwnNone
namespace Go.Proofs.Ytcfgooeljmfjoaa
open Go.ChangeShapes Go.WideShapes Go.ChangeAt Go.RowKit
open Go.ChangeMaps (open_string)
set_option linter.unusedSimpArgs false
set_option linter.unusedVariables false

/-- A row of types, however long. -/
def TyA (w : World) (ao : Option Addr) (L : List Ty) : Prop := ∀ i (h : i < L.length), ∃ b off, ao = some ⟨b, off, none⟩ ∧ w.cell? ⟨b, off + i * 2, none⟩ = some (.int .i64 L[i].1) ∧ w.cell? ⟨b, off + i * 2 + 1, none⟩ = some (.int .i64 L[i].2)
theorem TyA.ext {w w' : World} {ao : Option Addr} {L : List Ty} (h : TyA w ao L) (hx : Ext w w') : TyA w' ao L := by
  intro i hi
  obtain ⟨b, off, e, h0, h1⟩ := h i hi
  exact ⟨b, off, e, cell_ext hx h0, cell_ext hx h1⟩
theorem TyA.row {w : World} {ao : Option Addr} {cap : Nat} {L : List Ty} (h : TyA w ao L) (hl : L.length ≤ 1000) : TyR w (.slice ao L.length cap) L := ⟨ao, cap, rfl, hl, h⟩
def ycell (t : Ty) : List Value := [.int .i64 t.1, .int .i64 t.2]
def ycells (L : List Ty) : List Value := L.flatMap ycell
theorem ycells_len (L : List Ty) : (ycells L).length = L.length * 2 := by
  induction L with
  | nil => rfl
  | cons x r ih =>
    unfold ycells at ih ⊢
    rw [List.flatMap_cons, List.length_append, ih]
    simp [ycell]
    omega
theorem ycells_get : ∀ (L : List Ty) (i : Nat) (h : i < L.length) (j : Nat), j < 2 → (ycells L)[i * 2 + j]? = (ycell L[i])[j]?
  | x :: r, 0, _, j, hj => by
    have e : ycells (x :: r) = ycell x ++ ycells r := rfl
    rw [e, List.getElem?_append_left (by simp [ycell]; omega)]
    simp
  | x :: r, i + 1, h, j, hj => by
    have ih := ycells_get r i (by simpa using h) j hj
    have e : ycells (x :: r) = ycell x ++ ycells r := rfl
    have el : (ycell x).length = 2 := rfl
    rw [e, List.getElem?_append_right (by omega), el, show (i + 1) * 2 + j - 2 = i * 2 + j by omega]
    simpa using ih
theorem ycells_ones (L : List Ty) : ∀ u ∈ ycells L, u.oneCell' = true := by
  intro u hu
  unfold ycells at hu
  obtain ⟨x, _, hx⟩ := List.mem_flatMap.1 hu
  simp [ycell] at hx
  rcases hx with rfl | rfl <;> rfl
theorem infoY : ∃ i, Try.prog.info? 25 = some i ∧ i.zero = some (.agg #[.int .i64 0, .int .i64 0]) ∧ i.size = 2 ∧ i.bytes = 16 := by
  have h : (Try.prog.info? 25).map (fun i => (i.zero, i.size, i.bytes)) = some (some (.agg #[.int .i64 0, .int .i64 0]), 2, 16) := by kernel_rfl
  cases hq : Try.prog.info? 25 with
  | none => rw [hq] at h; cases h
  | some i =>
    rw [hq] at h
    simp only [Option.map_some, Option.some.injEq, Prod.mk.injEq] at h
    exact ⟨i, rfl, h.1, h.2.1, h.2.2⟩
theorem own_tyA {w : World} {base : Nat} {v : Value} {L : List Ty} (h : w.ownsRow base 25 2 v L.length (ycells L)) : ∃ ao cap, v = .slice ao L.length cap ∧ TyA w ao L := by
  have h0 := h
  rcases h.2 with ⟨e, h0⟩ | ⟨g, cap, cur, e, hb, hg, hnc, hcm, hcs, htake⟩
  · exact ⟨none, 0, by rw [h0]; exact e, fun i hi => by omega⟩
  · refine ⟨_, cap, e, fun i hi => ⟨g, 0, rfl, ?_⟩⟩
    have hc := World.ownsRow.cells h0 (g := g) (by rw [e]; rfl)
    have hj : ∀ j u, j < 2 → (ycell L[i])[j]? = some u → w.cell? ⟨g, 0 + i * 2 + j, none⟩ = some u := fun j u h5 hu => by
      have := hc (i * 2 + j) u (by rw [ycells_get L i hi j h5]; exact hu)
      rw [Addr.add_lit] at this
      rw [Nat.add_assoc]
      exact this
    exact ⟨hj 0 _ (by omega) rfl, hj 1 _ (by omega) rfl⟩
/-- A copy of a row of types. -/
theorem wpList_append_tys {w : World} {ops : Array Oper} {rest : List Oper} {o : Oper} {a : Act} {Q : Exit → Act → World → Prop} (hgd : o.guard = none) (s x : Operand)
    (ho : o.op = .call { callee := .builtin .append, args := #[s, x], argTypes := #[22, 22] }) (base : Nat) (v : Value) (M : List Ty) (hs : a.eval s = v)
    (hown : w.ownsRow base 25 2 v 0 []) (ao : Option Addr) (c : Nat) (hx : a.eval x = .slice ao M.length c) (hao : ao = none → c = 0) (hrow : TyA w ao M) (hL : M.length ≤ 1000) (hbase : base ≤ w.heap.size)
    (h : ∀ ao' c' w', TyA w' ao' M → w.grownBy w' v.ownBlock → wpList Try.prog ops Q rest (a.put o.dst (.slice ao' M.length c')) w') : wpList Try.prog ops Q (o :: rest) a w := by
  obtain ⟨i0, hi, hz0, hz1, hz2⟩ := infoY
  cases ao with
  | none =>
    have hM : M = [] := by
      cases M with
      | nil => rfl
      | cons t r =>
        obtain ⟨b, off, e, _⟩ := hrow 0 (by simp)
        cases e
    subst hM
    have hc0 := hao rfl
    subst hc0
    refine wpList_append_own_none hgd s x 22 ho base 25 i0 2 Try.underlying22 hi v _ _ hs hown hx ?_
    obtain ⟨ao', c', rfl, ha⟩ := own_tyA (L := []) hown
    exact h ao' c' w ha (World.grownBy.refl _ _)
  | some ad =>
    refine wpList_append_own w hgd s x 22 ho base 25 i0 _ 2 16 Try.underlying22 hi hz0 hz1 hz2 rfl (by decide) v 0 [] hs hown ad M.length c (ycells M) hx (ycells_len M) ?_ (ycells_ones M) (by unfold maxLen; omega) (by omega) hbase ?_
    · intro j u hu
      have hjl : j < (ycells M).length := (List.getElem?_eq_some_iff.1 hu).1
      rw [ycells_len] at hjl
      have hdm : j / 2 < M.length := by omega
      obtain ⟨b, off, e, h0, h1⟩ := hrow (j / 2) hdm
      cases e
      rw [Addr.add_lit]
      have hj : j = j / 2 * 2 + j % 2 := by omega
      have hu2 := hu
      rw [hj, ycells_get M (j / 2) hdm (j % 2) (by omega)] at hu2
      have h5 : j % 2 = 0 ∨ j % 2 = 1 := by omega
      have e1 : off + j = off + j / 2 * 2 + j % 2 := by omega
      rw [e1]
      rcases h5 with h5 | h5
      · rw [h5] at hu2 ⊢; simp [ycell] at hu2; rw [← hu2]; exact h0
      · rw [h5] at hu2 ⊢; simp [ycell] at hu2; rw [← hu2]; exact h1
    · intro v' w' h1 h2 _
      rw [List.nil_append, Nat.zero_add] at h1
      obtain ⟨ao', c', rfl, ha⟩ := own_tyA h1
      exact h ao' c' w' ha h2
theorem some_num (n : Byts8) : (fnP n).isSome = decide (0 < numT n) := by
  unfold numT
  cases hf : fnP n with
  | none => rfl
  | some f =>
    have h3 := fn_mem fns n f hf
    have hall : ∀ p ∈ fns, (0 : Int) < p.2.1 := by decide
    have := hall (n, f) h3
    simp only [Option.isSome_some]
    rw [decide_eq_true this]
set_option maxHeartbeats 8000000 in
set_option maxRecDepth 100000 in
theorem kindsCalls_any (n : Byts8) (A : List Ty) (ao : Option Addr) (cap : Nat) (w : World) (hn : n.length ≤ maxLen) (hao : ao = none → cap = 0) (hcap : A.length ≤ cap) (hA : TyA w ao A) :
    Calls Try.prog 3 #[.string ⟨n.toArray⟩, .slice ao A.length cap] w fun e w' => e = .returned (.bool true) ∧ Ext w w' := by
  have HW := hide wakes13_any
  have HA := hide hA
  have HAO := hide hao
  clear hA hao
  by_cases hlong : A.length ≤ 1000
  · have HC := hide (fun ao' c' w' (h : TyA w' ao' A) => callT_any n A (.slice ao' A.length c') w' hn (h.row hlong))
    have HR := hide (fun w' (h : TyA w' ao A) => refCall_any n A (.slice ao A.length cap) w' (h.row hlong) (by intro x y z e; cases e; exact hcap))
    rw [callR_eq] at HR
    have HB := hide (fun w' => builtin_any n w' hn)
    rw [some_num] at HB
    have HN := hide (refNumber13_any n)
    generalize callT n A = U at *
    generalize numT n = f at *
    obtain ⟨U1, U2, U3⟩ := U
    dsimp only at HC HR
    have hl2 : ¬ (1000 : Int) < (A.length : Int) := by omega
    go_enter Try.func3, Try.ntmps3
    go_wp2_with fail
    refine (unhide HW _).mono ?_
    rintro e w1 ⟨rfl, hx1⟩
    have X1 := hide hx1
    have HA1 := hide ((unhide HA).ext hx1)
    clear hx1 HW HA
    have HMADE : Hid ((w1.alloc (.cells #[] 25)).ownsRow w1.heap.size 25 2 (.slice (some ⟨w1.heap.size, 0, none⟩) 0 0) 0 []) := World.ownsRow_made w1 #[] 0 (Nat.le_refl _) (Nat.zero_le _) rfl
    go_wp2_with (at_builtin; refine wpList_append_tys rfl (.tmp 18) (.tmp 19) rfl w1.heap.size _ A rfl (unhide HMADE) ao cap rfl (unhide HAO) ((unhide HA1).ext ((Ext.refl _).alloc _)) hlong ?c2 ?_)
    case c2 => simp
    intro ao2 c2 w2 hO2 hg2
    have hx12 : Ext w1 w2 := Below.trans ((Ext.refl _).alloc _) (grown_below hg2 (by simp) (fun g hg => by simp [Value.ownBlock] at hg; omega))
    have X2 := hide ((unhide X1).trans hx12)
    have HA2 := hide ((unhide HA1).ext hx12)
    have HO2 := hide hO2
    clear hO2 hg2 hx12 HMADE HA1 X1
    go_wp2_with fail
    refine (unhide HC _ _ _ (unhide HO2)).mono ?_
    rintro e w3 ⟨rfl, hx3⟩
    have B3 := hide (Blk.new w3 #[.int .i64 (U1).1, .int .i64 (U1).2] 25)
    have X3 := hide (((unhide X2).trans hx3).alloc (.cells #[.int .i64 (U1).1, .int .i64 (U1).2] 25))
    have HA3 := hide (((unhide HA2).ext hx3).ext ((Ext.refl w3).alloc (.cells #[.int .i64 (U1).1, .int .i64 (U1).2] 25)))
    clear hx3 X2 HA2 HO2 HC
    go_upto_region 6 with fail
    generalize w3.alloc (.cells #[.int .i64 (U1).1, .int .i64 (U1).2] 25) = w4 at B3 X3 HA3 ⊢
    generalize w3.heap.size = r5 at *
    go_wp2_with fail
    refine (unhide HR _ (unhide HA3)).mono ?_
    rintro e w5 ⟨rfl, hx5⟩
    have B5 := hide (((unhide B3).ext hx5).alloc (.cells #[.int .i64 (U1).1, .int .i64 (U1).2] 25))
    have D5 := hide (Blk.new w5 #[.int .i64 (U1).1, .int .i64 (U1).2] 25)
    have X5 := hide (((unhide X3).trans hx5).alloc (.cells #[.int .i64 (U1).1, .int .i64 (U1).2] 25))
    clear hx5 B3 X3 HA3 HR
    go_upto_region 7 with fail
    generalize w5.alloc (.cells #[.int .i64 (U1).1, .int .i64 (U1).2] 25) = w6 at B5 D5 X5 ⊢
    generalize w5.heap.size = r8 at *
    obtain ⟨b0, b1⟩ := (unhide B5).two
    obtain ⟨e0, e1⟩ := (unhide D5).two
    go_wp2_with fail
    refine (unhide HB _).mono ?_
    rintro e w7 ⟨rfl, hx7⟩
    have X7 := hide ((unhide X5).trans hx7)
    clear hx7
    go_wp2_with fail
    refine (unhide HN _).mono ?_
    rintro e w8 ⟨rfl, hx8⟩
    have X8 := hide ((unhide X7).trans hx8)
    clear hx8
    go_wp2
    go_ret
    exact ⟨by simp, unhide X8⟩
  · have hl2 : (1000 : Int) < (A.length : Int) := by omega
    go_enter Try.func3, Try.ntmps3
    go_wp2_with fail
    refine (unhide HW _).mono ?_
    rintro e w1 ⟨rfl, hx1⟩
    have X1 := hide hx1
    clear hx1
    go_wp2
    go_ret
    exact ⟨rfl, unhide X1⟩

section
variable {H : Type} {enc : TypeId × Value → H}
theorem cells_ty : Try.prog.cellsOf 25 = 2 := by kernel_rfl
set_option maxRecDepth 100000 in
theorem open_tys {W : World} {base : Nat} {v : Value} {d : DataW H} {p : List MemPlace}
    (hv : Value.okWide Try.prog W .any base 22 v) (h : DataW.Trod enc Try.prog W 0 (fun _ => true) true 22 v d p) :
    ∃ (L : List Ty) (ao : Option Addr) (cap : Nat), v = .slice ao L.length cap ∧ (ao = none → cap = 0) ∧ L.length ≤ cap ∧ TyA W ao L := by
  obtain ⟨a, len, cap, rfl⟩ := okWide_slice Try.underlying22 hv
  obtain ⟨fuel, hf⟩ := h
  rcases Deep.open_slice Try.underlying22 hf with ⟨hcs, _⟩ | ⟨x, l, c, m, n, D, Pl, hcs, _, hl, hm, hmm, hx, hel⟩
  · simp [Value.cells] at hcs
    obtain ⟨rfl, rfl, rfl⟩ := hcs
    exact ⟨[], none, 0, rfl, fun _ => rfl, Nat.le_refl _, fun i hi => by simp at hi⟩
  · simp [Value.cells] at hcs
    obtain ⟨rfl, rfl, rfl⟩ := hcs
    simp only [if_true] at hmm
    subst hmm
    have each : ∀ i, i < len → ∃ y : Ty, W.cell? (x.add (i * 2)) = some (.int .i64 y.1) ∧ W.cell? ((x.add (i * 2)).add 1) = some (.int .i64 y.2) := by
      intro i hi
      obtain ⟨cs', h1, h2⟩ := hel i (by omega)
      rw [cells_ty] at h1
      obtain ⟨_, hl2, hce⟩ := World.cells?_some h1
      match cs', hl2 with
      | [u0, u1], _ =>
        have hc0 := hce 0 (by omega)
        have hc1 := hce 1 (by omega)
        obtain ⟨t, rfl, rfl⟩ := two_ints (by kernel_rfl) h2
        refine ⟨t, ?_, hc1⟩
        have e : (x.add (i * 2)).add 0 = x.add (i * 2) := by unfold Addr.add; split <;> simp_all
        rw [e] at hc0
        exact hc0
    have hinh : Inhabited Ty := ⟨⟨0, 0⟩⟩
    obtain ⟨F, hF⟩ := Deep.choose_lt (α := Ty) (p := fun i y => W.cell? (x.add (i * 2)) = some (.int .i64 y.1) ∧ W.cell? ((x.add (i * 2)).add 1) = some (.int .i64 y.2)) (fun i hi => each i hi)
    have hlen : ((List.range len).map F).length = len := by simp
    refine ⟨(List.range len).map F, some x, _, by rw [hlen], (fun h => by cases h), by rw [hlen]; exact hl, fun i hi => ?_⟩
    rw [hlen] at hi
    obtain ⟨b, off, spot⟩ := x
    have hspot : spot = none := by simpa [Addr.add] using World.cell?_spot (hF 0 (by omega)).1
    subst hspot
    have h := hF i hi
    simp only [Addr.add_lit] at h
    simp only [List.getElem_map, List.getElem_range]
    exact ⟨b, off, rfl, h.1, h.2⟩
end

theorem kindsCalls_owes (H : Type) (enc : TypeId × Value → H) (W : World) (base : Nat) (args : Array Value) (ds : List (DataW H)) (p : List MemPlace) : Owes H enc Try.prog 3 Try.f3 Rows.kindsCallsSpec W base args ds p := by
  intro hval hA hsz
  rw [Try.params3] at hA hval hsz
  obtain ⟨v0, vs0, d0, ds0, p0, q0, hargs, rfl, rfl, h0, r0⟩ := trodAll_cons hA
  obtain ⟨v1, vs1, d1, ds1, p1, q1, rfl, rfl, rfl, h1, r1⟩ := trodAll_cons r0
  obtain ⟨rfl, rfl, rfl⟩ := trodAll_nil r1
  obtain rfl : args = #[v0, v1] := by cases args; simp_all
  obtain ⟨s, rfl, rfl, rfl, ws⟩ := open_string Try.underlying9 (hval 0 9 v0 rfl rfl) h0
  obtain ⟨L, ao, cap, rfl, hao, hcap, hT⟩ := open_tys (hval 1 22 v1 rfl rfl) h1
  have hpw := kindsCalls_any s.data.toList L ao cap W (by simpa using ws) hao hcap hT
  rw [ba_back] at hpw
  exact ⟨⟨rfl, rfl, rfl⟩, hpw⟩

set_option maxRecDepth 100000 in
theorem kindsCalls_lifted (os : Os) (started : os.Started) (H : Type) (enc : TypeId × Value → H) :
    ReturnsInHanded {} Try.checked os 3 .any (Rows.kindsCallsSpec.pre6 enc Try.prog Try.f3 [] false) (Rows.kindsCallsSpec.post enc Try.prog Try.f3 false true false false) :=
  lift_law (C := Try.checked) own laidOut started (by kernel_rfl) Try.func3 (T := 4) rfl Try.underlying4 rfl (by kernel_rfl)
    (ChangeSpec.witness6 (enc := enc) (C := Try.checked) false ⟨#[], #[.string ⟨#[]⟩, .slice none 0 0], []⟩ 8 (by kernel_rfl) (by kernel_rfl) (by kernel_rfl) (by kernel_rfl)) (kindsCalls_owes H enc)

theorem kindsCalls_holds : Rows.KindsCallsSaid :=
  OpenClaim.holds_of_wide 3 Try.f3 rfl rfl rfl rfl rfl rfl rfl ⟨rfl, rfl, rfl, rfl, rfl⟩ rfl rfl rfl rfl rfl (by kernel_rfl) Try.func3 (by kernel_rfl)
    (of_decide_eq_true (by kernel_rfl)) (by unfold Func.isWrapper; rw [if_neg (of_decide_eq_false (by kernel_rfl))]; exact ⟨rfl, rfl⟩)
    (fun os started H enc _ => kindsCalls_lifted os started H enc)
#print axioms kindsCalls_holds
end Go.Proofs.Ytcfgooeljmfjoaa
