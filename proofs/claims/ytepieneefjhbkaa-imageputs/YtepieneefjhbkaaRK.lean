/-
  Images: Put, both ways in one; what a law of Put plays.
-/
import Derived.Test.YtepieneefjhbkaaKY
import Derived.Test.YtepieneefjhbkaaRI
import Derived.Test.YtepieneefjhbkaaRJ
import Derived.Great.BuildSlice
namespace Go.Proofs.Ytepieneefjhbkaa
open Go.ChangeShapes Go.WideShapes Go.ChangeAt Go.RowKit
set_option linter.unusedVariables false
set_option linter.unusedSimpArgs false

section
variable {w : World} {v : Value} {L : List Ent} {I : Img}
theorem put_all (h : LR w v L) (hL : L.length ≤ 1000) (hA : I.L = absL L) (hbL : ∀ p ∈ L, p.2.2.2.length ≤ 140737488355328) (lv f W H : Int) (bo : Option Addr) (bcap : Nat) (bs : List Int) (hr : Row .u8 w (.slice bo bs.length bcap) bs) :
    Calls Try.prog 11 #[.agg #[.int .i64 I.f, v, .int .i64 I.ws, .int .i64 I.wt, .int .i64 I.mn, .int .i64 I.mg], .int .i64 lv, .int .i64 f, .agg #[.int .i64 W, .int .i64 H, .slice bo bs.length bcap]] w fun e w' => ∃ ao cap L', e = .returned (.tuple #[.agg #[.int .i64 (putI I lv f W H bs).f, .slice ao L'.length cap, .int .i64 (putI I lv f W H bs).ws, .int .i64 (putI I lv f W H bs).wt, .int .i64 (putI I lv f W H bs).mn, .int .i64 (putI I lv f W H bs).mg], .int .i64 (putE I lv f W H bs.length)]) ∧
      LO w' w.heap.size (.slice ao L'.length cap) L' ∧ absL L' = (putI I lv f W H bs).L ∧ Ext w w' := by
  by_cases hE : putE I lv f W H bs.length = 0
  · obtain ⟨z1, z2, z3, z4, z5, z6⟩ := putE_zero hE
    obtain ⟨k, rfl⟩ := Int.eq_ofNat_of_zero_le z2.1
    obtain ⟨W, rfl⟩ := Int.eq_ofNat_of_zero_le (show 0 ≤ W by omega)
    obtain ⟨H, rfl⟩ := Int.eq_ofNat_of_zero_le (show 0 ≤ H by omega)
    obtain ⟨s, hs⟩ := Int.eq_ofNat_of_zero_le (show 0 ≤ sizI f by have := siz_bd f; omega)
    have hn : ((W : Int) * H * sizI f).toNat = W * H * s := by rw [hs]; exact Int.toNat_natCast (W * H * s)
    refine (put_good (I := I) h hL hA hbL k f W H s bo bcap bs hr hE (by omega) (by omega) (by omega) hs ?_ _ rfl).mono ?_
    · rcases z6 with z6 | z6
      · exact .inl z6
      · rw [hs] at z6
        exact .inr (by exact_mod_cast z6)
    · rintro e w' ⟨ao, cap, L', rfl, h1, h2, h3⟩
      refine ⟨ao, cap, L', ?_, h1, ?_, h3⟩
      · unfold putI
        rw [if_pos hE, hE]
      · unfold putI
        rw [if_pos hE, h2]
        show _ = putL _ _ _
        rw [hn]
        rfl
  · refine (put_bad (I := I) h hL hA lv f W H bo bcap bs hr hE).mono ?_
    rintro e w' ⟨rfl, h3⟩
    refine ⟨none, 0, [], ?_, LO.nil _ _, ?_, h3⟩
    · unfold putI
      rw [if_neg hE]
      rfl
    · unfold putI
      rw [if_neg hE]
      rfl

theorem refPut_all (h : LR w v L) (hL : L.length ≤ 1000) (hA : I.L = absL L) (hbL : ∀ p ∈ L, p.2.2.2.length ≤ 140737488355328) (lv f W H : Int) (bo : Option Addr) (bcap : Nat) (bs : List Int) (hr : Row .u8 w (.slice bo bs.length bcap) bs) :
    Calls Try.prog 12 #[.agg #[.int .i64 I.f, v, .int .i64 I.ws, .int .i64 I.wt, .int .i64 I.mn, .int .i64 I.mg], .int .i64 lv, .int .i64 f, .agg #[.int .i64 W, .int .i64 H, .slice bo bs.length bcap]] w fun e w' => ∃ ao cap L', e = .returned (.tuple #[.agg #[.int .i64 (putI I lv f W H bs).f, .slice ao L'.length cap, .int .i64 (putI I lv f W H bs).ws, .int .i64 (putI I lv f W H bs).wt, .int .i64 (putI I lv f W H bs).mn, .int .i64 (putI I lv f W H bs).mg], .int .i64 (putE I lv f W H bs.length)]) ∧
      LO w' w.heap.size (.slice ao L'.length cap) L' ∧ absL L' = (putI I lv f W H bs).L ∧ Ext w w' := by
  by_cases hE : putE I lv f W H bs.length = 0
  · obtain ⟨z1, z2, z3, z4, z5, z6⟩ := putE_zero hE
    obtain ⟨k, rfl⟩ := Int.eq_ofNat_of_zero_le z2.1
    obtain ⟨W, rfl⟩ := Int.eq_ofNat_of_zero_le (show 0 ≤ W by omega)
    obtain ⟨H, rfl⟩ := Int.eq_ofNat_of_zero_le (show 0 ≤ H by omega)
    obtain ⟨s, hs⟩ := Int.eq_ofNat_of_zero_le (show 0 ≤ sizI f by have := siz_bd f; omega)
    have hn : ((W : Int) * H * sizI f).toNat = W * H * s := by rw [hs]; exact Int.toNat_natCast (W * H * s)
    refine (refPut_good (I := I) h hL hA hbL k f W H s bo bcap bs hr hE (by omega) (by omega) (by omega) hs ?_ _ rfl).mono ?_
    · rcases z6 with z6 | z6
      · exact .inl z6
      · rw [hs] at z6
        exact .inr (by exact_mod_cast z6)
    · rintro e w' ⟨ao, cap, L', rfl, h1, h2, h3⟩
      refine ⟨ao, cap, L', ?_, h1, ?_, h3⟩
      · unfold putI
        rw [if_pos hE, hE]
      · unfold putI
        rw [if_pos hE, h2]
        show _ = putL _ _ _
        rw [hn]
        rfl
  · refine (refPut_bad (I := I) h hA lv f W H bo bcap bs hr hE).mono ?_
    rintro e w' ⟨rfl, h3⟩
    refine ⟨none, 0, [], ?_, LO.nil _ _, ?_, h3⟩
    · unfold putI
      rw [if_neg hE]
      rfl
    · unfold putI
      rw [if_neg hE]
      rfl
end

theorem byt_zero (n : Nat) : Byt (List.replicate n 0) := fun x hx => by
  obtain ⟨_, rfl⟩ := List.mem_replicate.1 hx
  omega
theorem putI_byt {I : Img} {lv f W H : Int} {bs : List Int} (hb : ∀ p ∈ I.L, Byt p.2.2) (h : Byt bs) : ∀ p ∈ (putI I lv f W H bs).L, Byt p.2.2 := by
  intro p hp
  unfold putI at hp
  split at hp
  · rcases List.mem_or_eq_of_mem_set hp with hp | rfl
    · rcases List.mem_append.1 hp with hp | hp
      · split at hp
        · exact hb p hp
        · cases hp
      · obtain ⟨_, rfl⟩ := List.mem_replicate.1 hp
        intro x hx
        cases hx
    · show Byt (fillB _ _)
      unfold fillB
      split
      · exact byt_zero _
      · exact h
  · cases hp
theorem putI_len {I : Img} {lv f W H : Int} {bs : List Int} (hl : I.L.length ≤ 9) : (putI I lv f W H bs).L.length ≤ 9 := by
  unfold putI
  split
  case isTrue hE =>
    obtain ⟨z1, z2, z3, z4, z5, z6⟩ := putE_zero hE
    show (putL _ _ _).length ≤ 9
    unfold putL
    rw [List.length_set, List.length_append, List.length_replicate]
    split
    · omega
    · show 0 + (_ + 1 - 0) ≤ 9
      omega
  case isFalse => exact Nat.zero_le _

theorem Row.upto {k : IntKind} {w : World} {ao : Option Addr} {n cap : Nat} {xs : List Int} (h : Row k w (.slice ao n cap) xs) (m : Nat) (hm : m ≤ xs.length) : Row k w (.slice ao m cap) (xs.take m) := by
  have hl : (xs.take m).length = m := by simp; omega
  rcases h with ⟨rfl, ao, cap, e, h0, hc⟩ | ⟨hne, b, off, cap, e, hlc, hc, hce⟩
  · cases e
    obtain rfl : m = 0 := by simpa using hm
    exact .inl ⟨rfl, _, _, rfl, h0, hc⟩
  · cases e
    by_cases h0 : m = 0
    · subst h0
      exact .inl ⟨rfl, _, _, rfl, (fun h => by cases h), hc⟩
    · refine .inr ⟨fun h => h0 (by rw [h] at hl; exact hl.symm), b, off, cap, by rw [hl], by rw [hl]; omega, hc, fun i hi => ?_⟩
      rw [hl] at hi
      rw [hce i (by omega)]
      simp [List.getD, hi]
theorem Own.headP {k : IntKind} {w : World} {base n : Nat} {e : TypeId} {v : Value} {xs : List Int} (h : Own k w base e v xs) (hl : xs.length = n) (hn : 0 < n) : ∃ g cap, v = .slice (some ⟨g, 0, none⟩) n cap ∧ n ≤ cap ∧ cap ≤ 9223372036854775807 ∧ base ≤ g ∧ g < w.heap.size := by
  subst hl
  rcases h.2 with ⟨e1, h0⟩ | ⟨g, c, cur, e1, hb, hg, hnc, hcm, hcs, htake⟩
  · omega
  · exact ⟨g, c, e1, hnc, by unfold maxLen at hcm; omega, hb, (Array.getElem?_eq_some_iff.1 hg).1⟩
/-- 'make([]T, 0, n)', as one operation. -/
theorem wp_make_Own {P : Program} (w : World) {o : Oper} {a : Act} {K : Act → World → Prop} {Q : Exit → Act → World → Prop} (l c : Operand) (t : TypeId) (hop : o.op = Op.makeSlice t l c)
    (base : Nat) (e : TypeId) (i : TypeInfo) (z : Value) (k : IntKind) (h1 : P.underlying t = some (.slice e)) (h2 : P.info? e = some i) (h3 : i.zero = some z) (h4 : i.size = 1)
    (kl kc : IntKind) (n : Nat) (hl : a.eval l = .int kl 0) (hc : a.eval c = .int kc (n : Int)) (b2 : i.bytes * n ≤ 281474976710656) (b3 : n ≤ maxLen) (b4 : base ≤ w.heap.size)
    (hK : ∀ v' w', Own k w' base e v' [] → w.grownBy w' none → K (a.put o.dst v') w') : o.wp P a w K Q := by
  obtain ⟨w', hrun, r1, r2⟩ := run_make_own (P := P) w base t e i z 1 h1 h2 h3 h4 kl kc n b2 b3 b4
  unfold Oper.wp
  simp [execOp, hop, hl, hc, hrun, Result.andThen]
  exact hK _ w' r1 r2
/-- 'append(out, xs...)', as one operation. -/
theorem wp_append_Own {P : Program} {w : World} {o : Oper} {a : Act} {K : Act → World → Prop} {Q : Exit → Act → World → Prop} (s x : Operand) (t : TypeId)
    (ho : o.op = .call { callee := .builtin .append, args := #[s, x], argTypes := #[t, t] })
    (base : Nat) (e : TypeId) (i : TypeInfo) (k : IntKind) (bytes : Nat) (ht : P.underlying t = some (.slice e)) (hi : P.info? e = some i) (hz : i.zero = some (.int k 0))
    (hsize : i.size = 1) (hby : i.bytes = bytes) (v : Value) (xs : List Int) (hs : a.eval s = v) (hown : Own k w base e v xs)
    (vx : Value) (ys : List Int) (hx : a.eval x = vx) (hrow : Row k w vx ys) (h63 : xs.length + ys.length ≤ maxLen) (hbytes : (xs.length + ys.length) * bytes ≤ 140737488355328) (hbase : base ≤ w.heap.size)
    (h : ∀ v' w', Own k w' base e v' (xs ++ ys) → w.grownBy w' v.ownBlock → K (a.put o.dst v') w') : o.wp P a w K Q := by
  have fin : ∀ v' w', w'.ownsRow base e 1 v' (xs.length + ys.length) (xs.map (Value.int k) ++ ys.map (Value.int k)) → Own k w' base e v' (xs ++ ys) := by
    intro v' w' h1
    unfold Own
    rw [List.length_append, List.map_append]
    exact h1
  rcases hrow with ⟨rfl, ao, cap, rfl, h0, hm⟩ | ⟨hne, b, off, cap, rfl, hl, hm, hc⟩
  · cases ao with
    | none =>
      obtain rfl := h0 rfl
      have hrun := run_append_owned_none (P := P) (w := w) base t o.type e i 1 ht hi v _ _ hown
      unfold Oper.wp
      simp [execOp, ho, resolve, invoke, builtin, hs, hx, hrun, Result.andThen]
      exact h v w (by rw [List.append_nil]; exact hown) (World.grownBy.refl _ _)
    | some ad =>
      refine wp_append_own w s x t ho base e i (.int k 0) 1 bytes ht hi hz hsize hby rfl (by decide) v _ _ hs hown ad 0 cap [] hx rfl (by simp) (by simp) h63 hbytes hbase ?_
      intro v' w' h1 h2 _
      exact h v' w' (fin v' w' h1) h2
  · refine wp_append_own w s x t ho base e i (.int k 0) 1 bytes ht hi hz hsize hby rfl (by decide) v _ _ hs hown ⟨b, off, none⟩ ys.length cap (ys.map (Value.int k)) hx (by simp) (Row.news hc) (ints_oneCell _ _) h63 hbytes hbase ?_
    intro v' w' h1 h2 _
    exact h v' w' (fin v' w' h1) h2
theorem wp_build_one {P : Program} {w : World} {o : Oper} {a : Act} {K : Act → World → Prop} {Q : Exit → Act → World → Prop} (t e : TypeId) (k : IntKind) (c : Int) (ho : o.op = .buildSlice t 1 #[(0, .const (.int k c))])
    (i : TypeInfo) (z : Value) (hu : P.underlying t = some (.slice e)) (hi : P.info? e = some i) (hz : i.zero = some z) (hsz : i.size = 1)
    (h : K (a.put o.dst (.slice (some ⟨w.heap.size, 0, none⟩) 1 1)) (w.alloc (.cells #[.int k c] e))) : o.wp P a w K Q := by
  refine wp_buildSlice t e 1 _ ho _ i z hu hi hz (by rw [hsz]; omega) (by rw [hsz]; omega) ?_ h
  rw [parts_eval a #[(0, .const (.int k c))] k [c] rfl, hsz]
  exact Great.fill_flat [.int k c] _ (fun v hv => by obtain rfl : v = .int k c := (by simpa using hv); rfl) (by simp)
theorem Blk.five {w : World} {b : Nat} {a0 a1 a2 a3 a4 : Value} {t : TypeId} (h : Blk w b #[a0, a1, a2, a3, a4] t) :
    w.cell? ⟨b, 0, none⟩ = some a0 ∧ w.cell? ⟨b, 1, none⟩ = some a1 ∧ w.cell? ⟨b, 2, none⟩ = some a2 ∧ w.cell? ⟨b, 3, none⟩ = some a3 ∧ w.cell? ⟨b, 4, none⟩ = some a4 :=
  ⟨h.cell rfl, h.cell rfl, h.cell rfl, h.cell rfl, h.cell rfl⟩
theorem row_one {w : World} {g : Nat} {c : Int} {t : TypeId} (h : Blk w g #[.int .u8 c] t) : Row .u8 w (.slice (some ⟨g, 0, none⟩) 1 1) [c] := by
  refine .inr ⟨by simp, g, 0, 1, rfl, Nat.le_refl _, by unfold maxLen; omega, fun i hi => ?_⟩
  obtain rfl : i = 0 := by simpa using hi
  exact h.cell rfl
theorem ext_by {w w1 w2 : World} {v : Value} {xs : List Int} {base : Nat} {e : TypeId} (h : Ext w w1) (ho : Own .u8 w1 base e v xs) (hb : w.heap.size ≤ base) (hg : w1.grownBy w2 v.ownBlock) : Ext w w2 := by
  refine h.grown hg h.size ?_
  intro k hk
  have := (ho.lt k hk).1
  omega
theorem blk_by {w1 w2 : World} {v : Value} {g : Nat} {cs : Array Value} {t : TypeId} (h : Blk w1 g cs t) (hg : w1.grownBy w2 v.ownBlock) (hne : ∀ b, v.ownBlock = some b → g ≠ b) : Blk w2 g cs t :=
  (hg.block g h.lt (fun e => hne _ e.symm rfl)).trans h

section
variable {H : Type} {enc : TypeId × Value → H}
theorem cells_put : Try.prog.cellsOf 29 = 5 := by kernel_rfl
theorem array5 {α : Type} {cs : Array α} (h : cs.size = 5) : ∃ c0 c1 c2 c3 c4, cs = #[c0, c1, c2, c3, c4] := by
  obtain ⟨l⟩ := cs
  match l, h with
  | [c0, c1, c2, c3, c4], _ => exact ⟨c0, c1, c2, c3, c4, rfl⟩
set_option maxRecDepth 100000 in
theorem open_put {W : World} {base : Nat} {v : Value} {d : DataW H} {p : List MemPlace} (hv : Value.okWide Try.prog W .any base 29 v) (h : DataW.Trod enc Try.prog W 0 (fun _ => true) true 29 v d p) (hw : Wgt Try.prog 29 d) :
    ∃ (lv f : Int) (q : Ent), v = .agg #[.int .i64 lv, .int .i64 f, .int .i64 q.1, .int .i64 q.2.1, q.2.2.1] ∧ LevOk W q := by
  obtain ⟨cs, rfl, hsz⟩ := okWide_struct Try.underlying29 hv
  rw [cells_put] at hsz
  obtain ⟨c0, c1, c2, c3, c4, rfl⟩ := array5 hsz
  obtain ⟨fuel, hf⟩ := h
  obtain ⟨y0, y1, y2, n, hx, hlen, h0, h1, h2⟩ := trod_struct3 Try.underlying29 hf
  simp only [cells_int, cells_lev] at h0 h1 h2
  have t0 : DataW.trod enc Try.prog W 0 (fun _ => true) true n 3 [c0] = some y0 := h0
  have t1 : DataW.trod enc Try.prog W 0 (fun _ => true) true n 3 [c1] = some y1 := h1
  have t2 : DataW.trod enc Try.prog W 0 (fun _ => true) true n 27 [c2, c3, c4] = some y2 := h2
  obtain ⟨A, e0, _, k0⟩ := DataW.trod_int Try.underlying3 t0
  obtain ⟨B, e1, _, k1⟩ := DataW.trod_int Try.underlying3 t1
  simp only [List.cons.injEq, and_true] at e0 e1
  subst e0 e1
  have hd' : d = .agg [y0.1, y1.1, y2.1] := hx
  subst hd'
  have hw2 : Wgt Try.prog 27 y2.1 := Wgt.part Try.underlying29 hw (j := 2) rfl rfl
  obtain ⟨q, rfl, rfl, rfl, hq⟩ := open_lev t2 hw2
  exact ⟨A, B, q, rfl, hq⟩
end
end Go.Proofs.Ytepieneefjhbkaa
