/-
  Images: the walk of Sub: a piece is put.
-/
import Derived.Test.YtpjapdifmfpcnaaJG
namespace Go.Proofs.Ytpjapdifmfpcnaa
open Go.RowKit Go.Shelf
set_option linter.unusedVariables false
set_option linter.unusedSimpArgs false
attribute [local go_sem] Oper.semAt_some

/-- Pixels laid one by one, from number i on, at these places. -/
def subL (s : Nat) (b : List Int) : List Int → Nat → List Nat → List Int
  | xs, _, [] => xs
  | xs, i, p :: r => subL s b (layB xs (p * s) (cellL s b i)) (i + 1) r
theorem subL_snoc (s : Nat) (b : List Int) (p : Nat) : ∀ (l : List Nat) (xs : List Int) (i : Nat), subL s b xs i (l ++ [p]) = layB (subL s b xs i l) (p * s) (cellL s b (i + l.length))
  | [], xs, i => rfl
  | q :: r, xs, i => by
    show subL s b (layB xs (q * s) (cellL s b i)) (i + 1) (r ++ [p]) = _
    rw [subL_snoc s b p r]
    show layB (subL s b _ _ r) _ (cellL s b (i + 1 + r.length)) = layB (subL s b _ _ r) _ (cellL s b (i + (r.length + 1)))
    rw [Nat.add_assoc, Nat.add_comm 1]
theorem subK_list (s : Nat) (b xs : List Int) (q : Nat → Nat) : ∀ n, subK s xs q b n = subL s b xs 0 ((List.range n).map q)
  | 0 => rfl
  | n + 1 => by
    rw [subK, subK_list s b xs q n, List.range_succ, List.map_append]
    show _ = subL s b xs 0 ((List.range n).map q ++ [q n])
    rw [subL_snoc]
    simp
theorem subL_len (s : Nat) (b : List Int) : ∀ (l : List Nat) (xs : List Int) (i : Nat), (∀ p ∈ l, (p + 1) * s ≤ xs.length) → (i + l.length) * s ≤ b.length → (subL s b xs i l).length = xs.length
  | [], _, _, _, _ => rfl
  | q :: r, xs, i, h, hb => by
    have h1 : (i + 1) * s ≤ b.length := Nat.le_trans (Nat.mul_le_mul_right _ (by simp)) hb
    have h2 := h q (by simp)
    rw [Nat.succ_mul] at h2
    have hl : (layB xs (q * s) (cellL s b i)).length = xs.length := layB_len (by rw [cellL_len h1]; exact h2)
    show (subL s b (layB xs (q * s) (cellL s b i)) (i + 1) r).length = _
    rw [subL_len s b r _ _ (fun p hp => by rw [hl]; exact h p (by simp [hp])) (by rw [Nat.add_assoc, Nat.add_comm 1]; simpa using hb), hl]

/-- 'copy' at a step of a region that draws, its run known. -/
theorem step_copy {P : Program} {ops : Array Oper} {o : Oper} {a : Act} {w w' : World} {K : Act → World → Prop} {Q : Exit → Act → World → Prop} {E : Prop} (hgd : o.guard = none) (s x : Operand) (t : TypeId)
    (ho : o.op = .call { callee := .builtin .copy, args := #[s, x], argTypes := #[t, t] }) {v vx v' : Value} (hs : a.eval s = v) (hx : a.eval x = vx) (hr : ∀ ty, (Builtin.copy_ #[t, t] ty #[v, vx]).run P w = .ok v' w') (h : K (a.put o.dst v') w') :
    if Region.wanted o (yielded ops a.tmps) = true then Oper.wp P o a w K Q else E := by
  have hw : Region.wanted o (yielded ops a.tmps) = true := by simp [Region.wanted, hgd]
  rw [if_pos hw]
  unfold Oper.wp execOp
  simp only [ho, resolve, invoke, builtin, Sem.run_bind, Sem.run_pure, Result.andThen_ok, List.map_toArray, List.map_cons, List.map_nil, hs, hx, hr]
  exact h
/-- The bytes of one level are turned. -/
theorem LO.turnAt {w w' : World} {base g n cap : Nat} {A B : List Ent} {x : Ent} (h : LO w base (.slice (some ⟨g, 0, none⟩) n cap) (A ++ x :: B)) {b bn bcap : Nat} (hx : x.2.2.1 = .slice (some ⟨b, 0, none⟩) bn bcap) (hgr : w.grownBy w' (some b)) {ys : List Int} (hset : Own .u8 w' base 5 x.2.2.1 ys) :
    LO w' base (.slice (some ⟨g, 0, none⟩) n cap) (A ++ (x.1, x.2.1, x.2.2.1, ys) :: B) := by
  obtain ⟨g2, cur, e, hn, hb, hcur⟩ := h.blk (by simp; omega)
  cases e
  subst hn
  have hox := h.bys x (by simp)
  have hne : b ≠ g := own_ne hcur hox b (by rw [hx]; rfl)
  have e9 : (A ++ (x.1, x.2.1, x.2.2.1, ys) :: B).length = (A ++ x :: B).length := by simp
  have hal := h.alone
  rw [List.pairwise_append, List.pairwise_cons] at hal
  have hxb : x.2.2.1.ownBlock = some b := by rw [hx]; rfl
  have hoth : ∀ p, p ∈ A ++ B → p.2.2.1.ownBlock ≠ some b := fun p hp e => by
    rcases List.mem_append.1 hp with hp | hp
    · exact hal.2.2 p hp x (by simp) b e hxb
    · exact hal.2.1.1 p hp b hxb e
  refine ⟨?_, fun p hp => ?_, ?_⟩
  · rw [e9]
    have h8 := World.ownsRow.kept h.own hgr (.inr (fun e => by simp [Value.ownBlock] at e; exact hne e.symm))
    have e8 : lcells (A ++ (x.1, x.2.1, x.2.2.1, ys) :: B) = lcells (A ++ x :: B) := by
      rw [lcells_append, lcells_append]
      rfl
    rw [e8]
    exact h8
  · have hp' : p ∈ A ++ B ∨ p = (x.1, x.2.1, x.2.2.1, ys) := by
      simp at hp ⊢
      rcases hp with h1 | h1 | h1
      · exact .inl (.inl h1)
      · exact .inr h1
      · exact .inl (.inr h1)
    rcases hp' with hp' | rfl
    · have hp2 := h.bys p (by simp at hp' ⊢; rcases hp' with h1 | h1 <;> simp [h1])
      exact hp2.grown hgr (fun b2 hb2 e => hoth p hp' (by rw [hb2, e]))
    · exact hset
  · rw [List.pairwise_append, List.pairwise_cons]
    refine ⟨hal.1, ⟨hal.2.1.1, hal.2.1.2⟩, fun p hp q hq b2 hb2 => ?_⟩
    rcases List.mem_cons.1 hq with rfl | hq
    · exact hal.2.2 p hp x (by simp) b2 hb2
    · exact hal.2.2 p hp q (by simp [hq]) b2 hb2

theorem CellsKept.lo {W W' : World} {base : Nat} {v : Value} {L : List Ent} (h : CellsKept W W') (ho : LO W base v L) : LO W' base v L := by
  refine ⟨?_, fun p hp => h.own (ho.bys p hp), ho.alone⟩
  obtain ⟨h1, h2⟩ := ho.own
  refine ⟨h1, ?_⟩
  rcases h2 with h2 | ⟨g, c, cur, e, hb, hg, r⟩
  · exact .inl h2
  · exact .inr ⟨g, c, cur, e, hb, h g cur _ (0, 0) hg, r⟩
/-- How far Sub has come. -/
structure SbI (w4 W : World) (By : Nat) (I : Img) (g n cap : Nat) (A B : List Ent) (x : Ent) (Bi Bl : Nat) (ys : List Int) (m : Nat) : Prop where
  ext : Ext w4 W
  blk : Blk W By #[.int .i64 I.f, .slice (some ⟨g, 0, none⟩) n cap, .int .i64 I.ws, .int .i64 I.wt, .int .i64 I.mn, .int .i64 I.mg] 24
  lo : LO W w4.heap.size (.slice (some ⟨g, 0, none⟩) n cap) (A ++ (x.1, x.2.1, x.2.2.1, ys) :: B)
  cnt : Blk W Bi #[.int .i64 (m : Int)] 3
  lev : Blk W Bl #[.int .i64 x.1, .int .i64 x.2.1, x.2.2.1] 48

theorem SbI.exts {w4 W W' : World} {By g n cap Bi Bl m : Nat} {I : Img} {A B : List Ent} {x : Ent} {ys : List Int} (h : SbI w4 W By I g n cap A B x Bi Bl ys m) (hx : Ext W W') : SbI w4 W' By I g n cap A B x Bi Bl ys m :=
  ⟨h.ext.trans hx, h.blk.ext hx, h.lo.ext hx, h.cnt.ext hx, h.lev.ext hx⟩
theorem SbI.kept {w4 W W' : World} {By g n cap Bi Bl m B0 : Nat} {I : Img} {A B : List Ent} {x : Ent} {ys : List Int} {row : Option Nat} (h : SbI w4 W By I g n cap A B x Bi Bl ys m) (hg : W.grownBy W' row) (hr : ∀ r, row = some r → B0 ≤ r ∧ ∃ o : Obj, W.heap[r]? = some o ∧ o.isCells = false) (h4 : w4.heap.size ≤ B0) : SbI w4 W' By I g n cap A B x Bi Bl ys m := by
  refine ⟨h.ext.grown hg h.ext.size (fun r e => by have := (hr r e).1; omega), blk_kept h.blk hg (fun r e => (hr r e).2), ⟨?_, fun p hp => own_kept (h.lo.bys p hp) hg (fun r e => (hr r e).2), h.lo.alone⟩, blk_kept h.cnt hg (fun r e => (hr r e).2), blk_kept h.lev hg (fun r e => (hr r e).2)⟩
  refine World.ownsRow.kept h.lo.own hg (.inr fun e => ?_)
  obtain ⟨_, o, ho, hc⟩ := hr g e.symm
  obtain ⟨g2, cur, e2, _, _, hcur⟩ := h.lo.blk (by simp; omega)
  cases e2
  rw [hcur] at ho
  cases ho
  cases hc

section
variable {w : World} {v : Value} {L : List Ent} {I : Img}
set_option maxRecDepth 10000 in
set_option maxHeartbeats 1000000 in
theorem sub_bad (h : LR w v L) (hL : L.length ≤ 1000) (hA : I.L = absL L) (lv X Y pw ph : Int) (qo : Option Addr) (qn qcap : Nat) (hE : pieceE I lv X Y pw ph ≠ 0) :
    Calls Try.prog 9 #[.agg #[.int .i64 I.f, v, .int .i64 I.ws, .int .i64 I.wt, .int .i64 I.mn, .int .i64 I.mg], .int .i64 lv, .agg #[.int .i64 X, .int .i64 Y, .int .i64 pw, .int .i64 ph], .slice qo qn qcap] w fun e w' => e = .returned (.tuple #[.agg #[.int .i64 zimg.f, .slice none 0 0, .int .i64 zimg.ws, .int .i64 zimg.wt, .int .i64 zimg.mn, .int .i64 zimg.mg], .int .i64 (pieceE I lv X Y pw ph)]) ∧ Ext w w' := by
  obtain ⟨ao, cap, rfl, hao, hlc, hcm, _⟩ := h.shape
  have HH := hide h
  have HA := hide hA
  have hX1 := ((((Ext.refl w).alloc (.cells #[.int .i64 I.f, .slice ao L.length cap, .int .i64 I.ws, .int .i64 I.wt, .int .i64 I.mn, .int .i64 I.mg] 24)).alloc (.cells #[.int .i64 X, .int .i64 Y, .int .i64 pw, .int .i64 ph] 26)).alloc (.cells #[.slice qo qn qcap] 27)).alloc (.cells #[.int .i64 0, .slice none 0 0, .int .i64 0, .int .i64 0, .int .i64 0, .int .i64 0] 24)
  have hR1 : Blk ((((w.alloc (.cells #[.int .i64 I.f, .slice ao L.length cap, .int .i64 I.ws, .int .i64 I.wt, .int .i64 I.mn, .int .i64 I.mg] 24)).alloc (.cells #[.int .i64 X, .int .i64 Y, .int .i64 pw, .int .i64 ph] 26)).alloc (.cells #[.slice qo qn qcap] 27)).alloc (.cells #[.int .i64 0, .slice none 0 0, .int .i64 0, .int .i64 0, .int .i64 0, .int .i64 0] 24)) (w.heap.size + 1 + 1 + 1) #[.int .i64 0, .slice none 0 0, .int .i64 0, .int .i64 0, .int .i64 0, .int .i64 0] 24 := Blk.at (by simp)
  have H1 := hide (And.intro hX1 hR1)
  have hne : (pieceE I lv X Y pw ph != 0) = true := by rw [bne_iff_ne]; exact hE
  clear h hA hao hcm hX1 hR1 hE
  go_enter Try.func9, Try.ntmps9
  go_wp2_with fail
  refine (pieceRefusal_any (I := I) ((unhide HH).ext (unhide H1).1) hL (unhide HA) lv X Y pw ph).mono ?_
  rintro e w2 ⟨rfl, hx2⟩
  have HX := hide (And.intro ((unhide H1).1.trans hx2) ((unhide H1).2.ext hx2))
  clear hx2
  obtain ⟨z0, z1, z2, z3, z4, z5⟩ := (unhide HX).2.six
  obtain ⟨f0, f1, f2, f3, f4, f5⟩ := (unhide HX).2.frees
  have hB7 := (unhide HX).2.put6 (.int .i64 0) (.slice none 0 0) (.int .i64 0) (.int .i64 0) (.int .i64 0) (.int .i64 0)
  have hg7 := grown_put6 w2 (w.heap.size + 1 + 1 + 1) (.int .i64 0) (.slice none 0 0) (.int .i64 0) (.int .i64 0) (.int .i64 0) (.int .i64 0)
  have hX7 : Ext w _ := below_grown (unhide HX).1 hg7 (unhide HX).1.size (by omega)
  have H7 := hide (And.intro hB7 hX7)
  clear hB7 hg7 hX7
  go_wp2
  obtain ⟨r0, r1, r2, r3, r4, r5⟩ := (unhide H7).1.six
  refine bodyPost_ret (v := .tuple #[.agg #[.int .i64 0, .slice none 0 0, .int .i64 0, .int .i64 0, .int .i64 0, .int .i64 0], .int .i64 (pieceE I lv X Y pw ph)]) (by simp [results, Try.results9, go_sem, r0, r1, r2, r3, r4, r5]) rfl ?_
  exact ⟨rfl, (unhide H7).2⟩

set_option maxRecDepth 10000 in
set_option maxHeartbeats 1000000 in
theorem sub_short (h : LR w v L) (hL : L.length ≤ 1000) (hA : I.L = absL L) (k X Y pw ph s W H : Nat) (hk : k < L.length) (hs : sizI I.f = (s : Int)) (hs0 : s ≠ 0) (hW : L[k].1 = (W : Int)) (hH : L[k].2.1 = (H : Int)) (hW1 : 1 ≤ W) (hH1 : 1 ≤ H) (hW6 : W ≤ 64) (hH6 : H ≤ 64)
    (hx : X + pw ≤ W) (hy : Y + ph ≤ H) (hlen : L[k].2.2.2.length = W * H * s) (hE : pieceE I k X Y pw ph = 0) (qo : Option Addr) (qcap : Nat) (qs : List Int) (hq : Row .u8 w (.slice qo qs.length qcap) qs) (hne : qs.length ≠ pw * ph * s) :
    Calls Try.prog 9 #[.agg #[.int .i64 I.f, v, .int .i64 I.ws, .int .i64 I.wt, .int .i64 I.mn, .int .i64 I.mg], .int .i64 (k : Int), .agg #[.int .i64 (X : Int), .int .i64 (Y : Int), .int .i64 (pw : Int), .int .i64 (ph : Int)], .slice qo qs.length qcap] w fun e w' => e = .returned (.tuple #[.agg #[.int .i64 zimg.f, .slice none 0 0, .int .i64 zimg.ws, .int .i64 zimg.wt, .int .i64 zimg.mn, .int .i64 zimg.mg], .int .i64 7]) ∧ Ext w w' := by
  obtain ⟨_, _, _, hs4⟩ := chs_sum hs hs0
  obtain ⟨ao, cap, rfl, hao, hlc, hcm, _⟩ := h.shape
  obtain ⟨_, _, eq9, _, hqc, hqm⟩ := hq.shape
  cases eq9
  have hqm2 : qcap ≤ 9223372036854775807 := by unfold maxLen at hqm; omega
  have HA := hide hA
  have HH := hide h
  have HE := hide hE
  have HQ := hide hq
  have HLEN := hide hlen
  have HSZ : Hid (∀ wx, Calls Try.prog 25 #[.int .i64 I.f] wx fun e w' => e = .returned (.int .i64 (s : Int)) ∧ Ext wx w') := fun wx => by rw [← hs]; exact size_any I.f wx
  have hX1 := ((((Ext.refl w).alloc (.cells #[.int .i64 I.f, .slice ao L.length cap, .int .i64 I.ws, .int .i64 I.wt, .int .i64 I.mn, .int .i64 I.mg] 24)).alloc (.cells #[.int .i64 (X : Int), .int .i64 (Y : Int), .int .i64 (pw : Int), .int .i64 (ph : Int)] 26)).alloc (.cells #[.slice qo qs.length qcap] 27)).alloc (.cells #[.int .i64 0, .slice none 0 0, .int .i64 0, .int .i64 0, .int .i64 0, .int .i64 0] 24)
  have hB1 : Blk ((((w.alloc (.cells #[.int .i64 I.f, .slice ao L.length cap, .int .i64 I.ws, .int .i64 I.wt, .int .i64 I.mn, .int .i64 I.mg] 24)).alloc (.cells #[.int .i64 (X : Int), .int .i64 (Y : Int), .int .i64 (pw : Int), .int .i64 (ph : Int)] 26)).alloc (.cells #[.slice qo qs.length qcap] 27)).alloc (.cells #[.int .i64 0, .slice none 0 0, .int .i64 0, .int .i64 0, .int .i64 0, .int .i64 0] 24)) w.heap.size #[.int .i64 I.f, .slice ao L.length cap, .int .i64 I.ws, .int .i64 I.wt, .int .i64 I.mn, .int .i64 I.mg] 24 := (((Blk.new w _ _).alloc _).alloc _).alloc _
  have hP1 : Blk ((((w.alloc (.cells #[.int .i64 I.f, .slice ao L.length cap, .int .i64 I.ws, .int .i64 I.wt, .int .i64 I.mn, .int .i64 I.mg] 24)).alloc (.cells #[.int .i64 (X : Int), .int .i64 (Y : Int), .int .i64 (pw : Int), .int .i64 (ph : Int)] 26)).alloc (.cells #[.slice qo qs.length qcap] 27)).alloc (.cells #[.int .i64 0, .slice none 0 0, .int .i64 0, .int .i64 0, .int .i64 0, .int .i64 0] 24)) (w.heap.size + 1) #[.int .i64 (X : Int), .int .i64 (Y : Int), .int .i64 (pw : Int), .int .i64 (ph : Int)] 26 := Blk.alloc (Blk.alloc (Blk.at (by simp)) _) _
  have hQ1 : Blk ((((w.alloc (.cells #[.int .i64 I.f, .slice ao L.length cap, .int .i64 I.ws, .int .i64 I.wt, .int .i64 I.mn, .int .i64 I.mg] 24)).alloc (.cells #[.int .i64 (X : Int), .int .i64 (Y : Int), .int .i64 (pw : Int), .int .i64 (ph : Int)] 26)).alloc (.cells #[.slice qo qs.length qcap] 27)).alloc (.cells #[.int .i64 0, .slice none 0 0, .int .i64 0, .int .i64 0, .int .i64 0, .int .i64 0] 24)) (w.heap.size + 1 + 1) #[.slice qo qs.length qcap] 27 := Blk.alloc (Blk.at (by simp)) _
  have hR1 : Blk ((((w.alloc (.cells #[.int .i64 I.f, .slice ao L.length cap, .int .i64 I.ws, .int .i64 I.wt, .int .i64 I.mn, .int .i64 I.mg] 24)).alloc (.cells #[.int .i64 (X : Int), .int .i64 (Y : Int), .int .i64 (pw : Int), .int .i64 (ph : Int)] 26)).alloc (.cells #[.slice qo qs.length qcap] 27)).alloc (.cells #[.int .i64 0, .slice none 0 0, .int .i64 0, .int .i64 0, .int .i64 0, .int .i64 0] 24)) (w.heap.size + 1 + 1 + 1) #[.int .i64 0, .slice none 0 0, .int .i64 0, .int .i64 0, .int .i64 0, .int .i64 0] 24 := Blk.at (by simp)
  have H1 := hide (And.intro hX1 (And.intro hB1 (And.intro hP1 (And.intro hQ1 hR1))))
  have hkn : (k : Int) < (L.length : Int) := by omega
  have m1 : pw * ph ≤ 64 * 64 := Nat.mul_le_mul (by omega) (by omega)
  have m2 : pw * ph * s ≤ 4096 * 4 := Nat.mul_le_mul m1 hs4
  have e1 : (pw : Int) * (ph : Int) = ((pw * ph : Nat) : Int) := by simp
  have e2 : (pw : Int) * (ph : Int) * (s : Int) = ((pw * ph * s : Nat) : Int) := by simp
  have b1 : (pw : Int) * (ph : Int) ≤ 4096 := by omega
  have b0 : 0 ≤ (pw : Int) * (ph : Int) := by omega
  have b2 : (pw : Int) * (ph : Int) * (s : Int) ≤ 16384 := by omega
  have b3 : 0 ≤ (pw : Int) * (ph : Int) * (s : Int) := by omega
  have hne2 : ((qs.length : Int) != (pw : Int) * (ph : Int) * (s : Int)) = true := by rw [bne_iff_ne, e2]; omega
  have hql : (qs.length : Int) ≤ 9223372036854775807 := by omega
  clear h hA hao hcm hX1 hB1 hP1 hQ1 hR1 hE hq hlen hs hW hH e1 e2 hne
  go_enter Try.func9, Try.ntmps9
  go_wp2_with fail
  refine (pieceRefusal_any (I := I) ((unhide HH).ext (unhide H1).1) hL (unhide HA) k X Y pw ph).mono ?_
  rintro e w2 ⟨rfl, hx2⟩
  rw [unhide HE]
  have H2 := hide (And.intro ((unhide H1).1.trans hx2) (And.intro ((unhide H1).2.1.ext hx2) (And.intro ((unhide H1).2.2.1.ext hx2) (And.intro ((unhide H1).2.2.2.1.ext hx2) ((unhide H1).2.2.2.2.ext hx2)))))
  clear H1 hx2
  obtain ⟨q0, q1, q2, q3, q4, q5⟩ := (unhide H2).2.1.six
  go_wp2_with fail
  refine (unhide HSZ _).mono ?_
  rintro e w3 ⟨rfl, hx3⟩
  have hx4 := hx3.alloc (.cells #[.int .i64 (s : Int)] 3)
  have H4 := hide (And.intro ((unhide H2).1.trans hx4) (And.intro ((unhide H2).2.1.ext hx4) (And.intro ((unhide H2).2.2.1.ext hx4) (And.intro ((unhide H2).2.2.2.1.ext hx4) (And.intro ((unhide H2).2.2.2.2.ext hx4) (Blk.new w3 #[.int .i64 (s : Int)] 3))))))
  have hz2 := (unhide H2).2.2.2.2.lt
  have hz3 := hx3.size
  clear hx3 hx4 H2 q0 q1 q2 q3 q4 q5
  obtain ⟨p0, p1, p2, p3⟩ := (unhide H4).2.2.1.four
  have u0 := (unhide H4).2.2.2.1.cell (i := 0) rfl
  have s0 := (unhide H4).2.2.2.2.2.cell (i := 0) rfl
  obtain ⟨z0, z1, z2, z3, z4, z5⟩ := (unhide H4).2.2.2.2.1.six
  obtain ⟨f0, f1, f2, f3, f4, f5⟩ := (unhide H4).2.2.2.2.1.frees
  have hB7 := (unhide H4).2.2.2.2.1.put6 (.int .i64 0) (.slice none 0 0) (.int .i64 0) (.int .i64 0) (.int .i64 0) (.int .i64 0)
  have hg7 := grown_put6 (w3.alloc (.cells #[.int .i64 (s : Int)] 3)) (w.heap.size + 1 + 1 + 1) (.int .i64 0) (.slice none 0 0) (.int .i64 0) (.int .i64 0) (.int .i64 0) (.int .i64 0)
  have hX7 : Ext w _ := below_grown (unhide H4).1 hg7 (unhide H4).1.size (by omega)
  have H7 := hide (And.intro hB7 hX7)
  clear hB7 hg7 hX7
  go_wp2
  obtain ⟨r0, r1, r2, r3, r4, r5⟩ := (unhide H7).1.six
  refine bodyPost_ret (v := .tuple #[.agg #[.int .i64 0, .slice none 0 0, .int .i64 0, .int .i64 0, .int .i64 0, .int .i64 0], .int .i64 7]) (by simp [results, Try.results9, go_sem, r0, r1, r2, r3, r4, r5]) rfl ?_
  exact ⟨rfl, (unhide H7).2⟩

set_option maxRecDepth 100000 in
set_option maxHeartbeats 4000000 in
theorem sub_good (h : LR w v L) (hL : L.length ≤ 1000) (hA : I.L = absL L) (k X Y pw ph s W H : Nat) (hk : k < L.length) (hs : sizI I.f = (s : Int)) (hs0 : s ≠ 0) (hW : L[k].1 = (W : Int)) (hH : L[k].2.1 = (H : Int)) (hW1 : 1 ≤ W) (hH1 : 1 ≤ H) (hW6 : W ≤ 64) (hH6 : H ≤ 64)
    (hx : X + pw ≤ W) (hy : Y + ph ≤ H) (hlen : L[k].2.2.2.length = W * H * s) (hE : pieceE I k X Y pw ph = 0) (qo : Option Addr) (qcap : Nat) (qs : List Int) (hq : Row .u8 w (.slice qo qs.length qcap) qs) (hqn : qs.length = pw * ph * s) (hbL : ∀ p ∈ L, p.2.2.2.length ≤ 140737488355328) :
    Calls Try.prog 9 #[.agg #[.int .i64 I.f, v, .int .i64 I.ws, .int .i64 I.wt, .int .i64 I.mn, .int .i64 I.mg], .int .i64 (k : Int), .agg #[.int .i64 (X : Int), .int .i64 (Y : Int), .int .i64 (pw : Int), .int .i64 (ph : Int)], .slice qo qs.length qcap] w fun e w' => ∃ ao cap L', e = .returned (.tuple #[.agg #[.int .i64 I.f, .slice ao L'.length cap, .int .i64 I.ws, .int .i64 I.wt, .int .i64 I.mn, .int .i64 I.mg], .int .i64 0]) ∧
      LO w' w.heap.size (.slice ao L'.length cap) L' ∧ absL L' = (absL L).set k ((W : Int), (H : Int), subK s L[k].2.2.2 (pq W X Y pw) qs (pw * ph)) ∧ Ext w w' := by
  obtain ⟨_, _, _, hs4⟩ := chs_sum hs hs0
  obtain ⟨ao, cap, rfl, hao, hlc, hcm, _⟩ := h.shape
  obtain ⟨_, _, eq9, _, hqc, hqm⟩ := hq.shape
  cases eq9
  have hqm2 : qcap ≤ 9223372036854775807 := by unfold maxLen at hqm; omega
  have HA := hide hA
  have HH := hide h
  have HE := hide hE
  have HQ := hide hq
  have HLEN := hide hlen
  have HSZ : Hid (∀ wx, Calls Try.prog 25 #[.int .i64 I.f] wx fun e w' => e = .returned (.int .i64 (s : Int)) ∧ Ext wx w') := fun wx => by rw [← hs]; exact size_any I.f wx
  have hX1 := ((((Ext.refl w).alloc (.cells #[.int .i64 I.f, .slice ao L.length cap, .int .i64 I.ws, .int .i64 I.wt, .int .i64 I.mn, .int .i64 I.mg] 24)).alloc (.cells #[.int .i64 (X : Int), .int .i64 (Y : Int), .int .i64 (pw : Int), .int .i64 (ph : Int)] 26)).alloc (.cells #[.slice qo qs.length qcap] 27)).alloc (.cells #[.int .i64 0, .slice none 0 0, .int .i64 0, .int .i64 0, .int .i64 0, .int .i64 0] 24)
  have hB1 : Blk ((((w.alloc (.cells #[.int .i64 I.f, .slice ao L.length cap, .int .i64 I.ws, .int .i64 I.wt, .int .i64 I.mn, .int .i64 I.mg] 24)).alloc (.cells #[.int .i64 (X : Int), .int .i64 (Y : Int), .int .i64 (pw : Int), .int .i64 (ph : Int)] 26)).alloc (.cells #[.slice qo qs.length qcap] 27)).alloc (.cells #[.int .i64 0, .slice none 0 0, .int .i64 0, .int .i64 0, .int .i64 0, .int .i64 0] 24)) w.heap.size #[.int .i64 I.f, .slice ao L.length cap, .int .i64 I.ws, .int .i64 I.wt, .int .i64 I.mn, .int .i64 I.mg] 24 := (((Blk.new w _ _).alloc _).alloc _).alloc _
  have hP1 : Blk ((((w.alloc (.cells #[.int .i64 I.f, .slice ao L.length cap, .int .i64 I.ws, .int .i64 I.wt, .int .i64 I.mn, .int .i64 I.mg] 24)).alloc (.cells #[.int .i64 (X : Int), .int .i64 (Y : Int), .int .i64 (pw : Int), .int .i64 (ph : Int)] 26)).alloc (.cells #[.slice qo qs.length qcap] 27)).alloc (.cells #[.int .i64 0, .slice none 0 0, .int .i64 0, .int .i64 0, .int .i64 0, .int .i64 0] 24)) (w.heap.size + 1) #[.int .i64 (X : Int), .int .i64 (Y : Int), .int .i64 (pw : Int), .int .i64 (ph : Int)] 26 := Blk.alloc (Blk.alloc (Blk.at (by simp)) _) _
  have hQ1 : Blk ((((w.alloc (.cells #[.int .i64 I.f, .slice ao L.length cap, .int .i64 I.ws, .int .i64 I.wt, .int .i64 I.mn, .int .i64 I.mg] 24)).alloc (.cells #[.int .i64 (X : Int), .int .i64 (Y : Int), .int .i64 (pw : Int), .int .i64 (ph : Int)] 26)).alloc (.cells #[.slice qo qs.length qcap] 27)).alloc (.cells #[.int .i64 0, .slice none 0 0, .int .i64 0, .int .i64 0, .int .i64 0, .int .i64 0] 24)) (w.heap.size + 1 + 1) #[.slice qo qs.length qcap] 27 := Blk.alloc (Blk.at (by simp)) _
  have hR1 : Blk ((((w.alloc (.cells #[.int .i64 I.f, .slice ao L.length cap, .int .i64 I.ws, .int .i64 I.wt, .int .i64 I.mn, .int .i64 I.mg] 24)).alloc (.cells #[.int .i64 (X : Int), .int .i64 (Y : Int), .int .i64 (pw : Int), .int .i64 (ph : Int)] 26)).alloc (.cells #[.slice qo qs.length qcap] 27)).alloc (.cells #[.int .i64 0, .slice none 0 0, .int .i64 0, .int .i64 0, .int .i64 0, .int .i64 0] 24)) (w.heap.size + 1 + 1 + 1) #[.int .i64 0, .slice none 0 0, .int .i64 0, .int .i64 0, .int .i64 0, .int .i64 0] 24 := Blk.at (by simp)
  have H1 := hide (And.intro hX1 (And.intro hB1 (And.intro hP1 (And.intro hQ1 hR1))))
  have hkn : (k : Int) < (L.length : Int) := by omega
  have m1 : pw * ph ≤ 64 * 64 := Nat.mul_le_mul (by omega) (by omega)
  have m2 : pw * ph * s ≤ 4096 * 4 := Nat.mul_le_mul m1 hs4
  have e1 : (pw : Int) * (ph : Int) = ((pw * ph : Nat) : Int) := by simp
  have e2 : (pw : Int) * (ph : Int) * (s : Int) = ((pw * ph * s : Nat) : Int) := by simp
  have b1 : (pw : Int) * (ph : Int) ≤ 4096 := by omega
  have b0 : 0 ≤ (pw : Int) * (ph : Int) := by omega
  have b2 : (pw : Int) * (ph : Int) * (s : Int) ≤ 16384 := by omega
  have b3 : 0 ≤ (pw : Int) * (ph : Int) * (s : Int) := by omega
  have hne2 : ((qs.length : Int) != (pw : Int) * (ph : Int) * (s : Int)) = false := by rw [e2, hqn]; simp
  have HQN := hide hqn
  have HBL := hide hbL
  have HWH := hide (And.intro hW hH)
  clear h hA hao hcm hX1 hB1 hP1 hQ1 hR1 hE hq hlen hs hW hH e1 e2 hqn hbL
  refine (callsIn_wide (n := 9)).1 ?_
  refine callsIn_of_wp_marks Try.func9 rfl trivial ?_ rfl
  simp only [Try.ntmps9, List.size_toArray, List.length_cons, List.length_nil, Nat.reduceAdd, Nat.reduceSub, Array.replicate_succ, Array.replicate_zero, List.push_toArray, List.append_toArray, List.nil_append, List.cons_append]
  refine wpIn_wide.2 ?_
  go_wp2_with fail
  refine (pieceRefusal_any (I := I) ((unhide HH).ext (unhide H1).1) hL (unhide HA) k X Y pw ph).mono ?_
  rintro e w2 ⟨rfl, hx2⟩
  rw [unhide HE]
  have H2 := hide (And.intro ((unhide H1).1.trans hx2) (And.intro ((unhide H1).2.1.ext hx2) (And.intro ((unhide H1).2.2.1.ext hx2) (And.intro ((unhide H1).2.2.2.1.ext hx2) ((unhide H1).2.2.2.2.ext hx2)))))
  clear H1 hx2
  obtain ⟨q0, q1, q2, q3, q4, q5⟩ := (unhide H2).2.1.six
  go_wp2_with fail
  refine (unhide HSZ _).mono ?_
  rintro e w3 ⟨rfl, hx3⟩
  have hx4 := hx3.alloc (.cells #[.int .i64 (s : Int)] 3)
  have H4 := hide (And.intro ((unhide H2).1.trans hx4) (And.intro ((unhide H2).2.1.ext hx4) (And.intro ((unhide H2).2.2.1.ext hx4) (And.intro ((unhide H2).2.2.2.1.ext hx4) (And.intro ((unhide H2).2.2.2.2.ext hx4) (Blk.new w3 #[.int .i64 (s : Int)] 3))))))
  have hz2 := (unhide H2).2.2.2.2.lt
  have hz3 := hx3.size
  clear hx3 hx4 H2 q0 q1 q2 q3 q4 q5
  obtain ⟨p0, p1, p2, p3⟩ := (unhide H4).2.2.1.four
  have u0 := (unhide H4).2.2.2.1.cell (i := 0) rfl
  have s0 := (unhide H4).2.2.2.2.2.cell (i := 0) rfl
  obtain ⟨q0, q1, q2, q3, q4, q5⟩ := (unhide H4).2.1.six
  go_wp2_with fail
  clear q0 q1 q2 q3 q4 q5 p0 p1 p2 p3 u0 s0
  generalize w3.alloc (.cells #[.int .i64 (s : Int)] 3) = w4 at H4 ⊢
  refine (duplicate_any (I := I) ((unhide HH).ext (unhide H4).1) (by omega) (unhide HBL)).mono ?_
  rintro e w5 ⟨ao5, cap5, D0, rfl, hlo5, habs5, hx5⟩
  have hDl : D0.length = L.length := by
    have h5 := congrArg List.length habs5
    rw [absL_len, absL_len] at h5
    exact h5
  have hkD : k < D0.length := by omega
  obtain ⟨g, off, bo, bcap, eg, eb, c0, c1, c2, hrx⟩ := hlo5.lr.at k hkD
  obtain ⟨g2, cur, eg2, _, hgb, hcur⟩ := hlo5.blk (by omega)
  rw [eg] at eg2
  cases eg2
  subst eg
  have hax : absE D0[k] = absE L[k] := by
    have h5 := congrArg (fun l => l.getD k noLev) habs5
    rw [absL_getD D0 k hkD, absL_getD L k hk] at h5
    exact h5
  have hx1 : D0[k].1 = (W : Int) := by rw [← (unhide HWH).1]; exact congrArg (·.1) hax
  have hx2 : D0[k].2.1 = (H : Int) := by rw [← (unhide HWH).2]; exact congrArg (·.2.1) hax
  have hx3 : D0[k].2.2.2 = L[k].2.2.2 := congrArg (·.2.2) hax
  have hsp : D0 = D0.take k ++ D0[k] :: D0.drop (k + 1) := by
    rw [List.getElem_cons_drop, List.take_append_drop]
  have hal : (D0.take k).length = k := by simp; omega
  obtain ⟨A, hA9⟩ : ∃ A, A = D0.take k := ⟨_, rfl⟩
  obtain ⟨B, hB9⟩ : ∃ B, B = D0.drop (k + 1) := ⟨_, rfl⟩
  obtain ⟨x, hx9⟩ : ∃ x, x = D0[k] := ⟨_, rfl⟩
  rw [← hA9] at hal
  rw [← hA9, ← hB9, ← hx9] at hsp
  have HFA : Hid (∀ ys : List Int, absL (A ++ (x.1, x.2.1, x.2.2.1, ys) :: B) = (absL L).set k ((W : Int), (H : Int), ys)) := fun ys => by
    rw [← habs5, hsp, absL_append, absL_append]
    have h6 : (absL A).length = k := by rw [absL_len, hal]
    rw [List.set_append_right _ _ (by omega), h6, Nat.sub_self]
    show absL A ++ ((x.1, x.2.1, ys) :: absL B) = absL A ++ (((W : Int), (H : Int), ys) :: absL B)
    rw [hx9, hx1, hx2]
  simp only [Nat.zero_add] at c0 c1 c2
  rw [hx1] at c0
  rw [hx2] at c1
  rw [← hx9] at hx1 hx2 hx3 eb hrx c2
  have hbl : x.2.2.2.length = W * H * s := by rw [hx3]; exact unhide HLEN
  have hbp : 0 < x.2.2.2.length := by
    rw [hbl]
    exact Nat.mul_pos (Nat.mul_pos hW1 hH1) (by omega)
  have hox := hlo5.bys x (by rw [hx9]; exact List.getElem_mem hkD)
  obtain ⟨gb, ebo⟩ : ∃ gb, bo = some ⟨gb, 0, none⟩ := by
    rcases hox.2 with ⟨e1, h0⟩ | ⟨g3, c3, cur3, e1, _⟩
    · omega
    · rw [eb] at e1
      cases e1
      exact ⟨_, rfl⟩
  subst ebo
  obtain ⟨_, _, ev9, _, hbc, hbm⟩ := hrx.shape
  cases ev9
  have hbm2 : bcap ≤ 9223372036854775807 := by unfold maxLen at hbm; omega
  have hkn2 : (k : Int) < (D0.length : Int) := by omega
  have hx6 := (Ext.refl w5).alloc (.cells #[.int .i64 I.f, .slice (some ⟨g, 0, none⟩) D0.length cap5, .int .i64 I.ws, .int .i64 I.wt, .int .i64 I.mn, .int .i64 I.mg] 24)
  have hB6 := Blk.new w5 #[.int .i64 I.f, .slice (some ⟨g, 0, none⟩) D0.length cap5, .int .i64 I.ws, .int .i64 I.wt, .int .i64 I.mn, .int .i64 I.mg] 24
  have H6 := hide (And.intro hx6 (And.intro hB6 (hlo5.ext hx6)))
  obtain ⟨y0, y1, y2, y3, y4, y5⟩ := hB6.six
  have hc : ∀ j u, w5.cell? ⟨g, j, none⟩ = some u → (w5.alloc (.cells #[.int .i64 I.f, .slice (some ⟨g, 0, none⟩) D0.length cap5, .int .i64 I.ws, .int .i64 I.wt, .int .i64 I.mn, .int .i64 I.mg] 24)).cell? ⟨g, j, none⟩ = some u := fun j u hu => by
    rw [hx6.cell (p := ⟨g, j, none⟩) (World.block_lt_of_cell? w5 _ hu)]
    exact hu
  have d0 := hc _ _ c0
  have d1 := hc _ _ c1
  have d2 := hc _ _ c2
  clear hc c0 c1 c2
  have hx7 := (hx6.alloc (.cells #[.int .i64 (W : Int), .int .i64 (H : Int), .slice (some ⟨gb, 0, none⟩) x.2.2.2.length bcap] 48)).alloc (.cells #[.int .i64 0] 3)
  have hx57 := hx5.trans hx7
  obtain ⟨p0, p1, p2, p3⟩ := ((unhide H4).2.2.1.ext hx57).four
  have hlw : LO (((w5.alloc (.cells #[.int .i64 I.f, .slice (some ⟨g, 0, none⟩) D0.length cap5, .int .i64 I.ws, .int .i64 I.wt, .int .i64 I.mn, .int .i64 I.mg] 24)).alloc (.cells #[.int .i64 (W : Int), .int .i64 (H : Int), .slice (some ⟨gb, 0, none⟩) x.2.2.2.length bcap] 48)).alloc (.cells #[.int .i64 0] 3)) w4.heap.size (.slice (some ⟨g, 0, none⟩) (A ++ x :: B).length cap5) (A ++ x :: B) := by rw [← hsp]; exact hlo5.ext hx7
  have hlx : (A ++ x :: B).length = D0.length := by rw [← hsp]
  rw [hlx] at hlw
  have hSB : SbI w4 (((w5.alloc (.cells #[.int .i64 I.f, .slice (some ⟨g, 0, none⟩) D0.length cap5, .int .i64 I.ws, .int .i64 I.wt, .int .i64 I.mn, .int .i64 I.mg] 24)).alloc (.cells #[.int .i64 (W : Int), .int .i64 (H : Int), .slice (some ⟨gb, 0, none⟩) x.2.2.2.length bcap] 48)).alloc (.cells #[.int .i64 0] 3)) w5.heap.size I g D0.length cap5 A B x (w5.heap.size + 1 + 1) (w5.heap.size + 1) (subL s qs x.2.2.2 0 []) 0 :=
    ⟨hx57, (hB6.alloc _).alloc _, hlw, Blk.at (by simp), by rw [hx1, hx2, eb]; exact Blk.alloc (Blk.at (by simp)) _⟩
  have HSB := hide hSB
  have hz5 := hx5.size
  have HD := hide (And.intro hsp (And.intro hal hDl))
  have HX := hide (And.intro hx1 (And.intro hx2 (And.intro hx3 (And.intro eb hbl))))
  clear hx6 hB6 hlo5 habs5 hax hsp hal hA9 hB9 hx9 hox hrx hcur hx1 hx2 hx3 eb hbl hbp hDl hx7 hx57 hlw hlx hSB
  go_wp2_with (first | (go_at_call 27; refine (places_any (W : Int) (H : Int) (X : Int) (Y : Int) (pw : Int) (ph : Int) (some ⟨gb, 0, none⟩) x.2.2.2.length bcap _).mono ?_; rintro e wp ⟨rfl, rfl⟩))
  clear p0 p1 p2 p3 y0 y1 y2 y3 y4 y5 d0 d1 d2
  obtain ⟨w6, hw6⟩ : ∃ w6, w6 = (((w5.alloc (.cells #[.int .i64 I.f, .slice (some ⟨g, 0, none⟩) D0.length cap5, .int .i64 I.ws, .int .i64 I.wt, .int .i64 I.mn, .int .i64 I.mg] 24)).alloc (.cells #[.int .i64 (W : Int), .int .i64 (H : Int), .slice (some ⟨gb, 0, none⟩) x.2.2.2.length bcap] 48)).alloc (.cells #[.int .i64 0] 3)) := ⟨_, rfl⟩
  have hz6 : w5.heap.size + 1 + 1 + 1 = w6.heap.size := by rw [hw6]; simp
  rw [← hw6] at HSB ⊢
  clear hw6 H6
  have hL0 : Blk ((w6.alloc (.cells #[.int .i64 (W : Int), .int .i64 (H : Int), .slice (some ⟨gb, 0, none⟩) x.2.2.2.length bcap] 48)).alloc (.cells #[.int .i64 (X : Int), .int .i64 (Y : Int), .int .i64 (pw : Int), .int .i64 (ph : Int)] 26)) w6.heap.size #[.int .i64 (W : Int), .int .i64 (H : Int), .slice (some ⟨gb, 0, none⟩) x.2.2.2.length bcap] 48 := (Blk.new _ _ _).alloc _
  have hP0 : Blk ((w6.alloc (.cells #[.int .i64 (W : Int), .int .i64 (H : Int), .slice (some ⟨gb, 0, none⟩) x.2.2.2.length bcap] 48)).alloc (.cells #[.int .i64 (X : Int), .int .i64 (Y : Int), .int .i64 (pw : Int), .int .i64 (ph : Int)] 26)) (w6.heap.size + 1) #[.int .i64 (X : Int), .int .i64 (Y : Int), .int .i64 (pw : Int), .int .i64 (ph : Int)] 26 := Blk.at (by simp)
  have hX0 := ((Ext.refl w6).alloc (.cells #[.int .i64 (W : Int), .int .i64 (H : Int), .slice (some ⟨gb, 0, none⟩) x.2.2.2.length bcap] 48)).alloc (.cells #[.int .i64 (X : Int), .int .i64 (Y : Int), .int .i64 (pw : Int), .int .i64 (ph : Int)] 26)
  generalize ((w6.alloc (.cells #[.int .i64 (W : Int), .int .i64 (H : Int), .slice (some ⟨gb, 0, none⟩) x.2.2.2.length bcap] 48)).alloc (.cells #[.int .i64 (X : Int), .int .i64 (Y : Int), .int .i64 (pw : Int), .int .i64 (ph : Int)] 26)) = W0 at hL0 hP0 hX0 ⊢
  rw [← hz6] at hL0 hP0
  have hL1 := hL0.lt
  have hP1 := hP0.lt
  have hw0 : w5.heap.size + 1 + 1 + 1 ≤ w6.heap.size := by omega
  clear hz6
  have hS0 := (unhide HSB).exts hX0
  have hz4 := (unhide H4).2.2.2.2.2.lt
  refine (wpIn_wide (n := 9)).1 ?_
  apply wpIn_rangeFunc_ownF (α := Plc (W * H)) rfl (by omega) (gf := 51) (lb := #[.pointer (some ⟨w5.heap.size + 1 + 1 + 1 + 1, 0, none⟩), .pointer (some ⟨w5.heap.size + 1 + 1 + 1, 0, none⟩)]) rfl trivial (enters_of Try.func51 (by kernel_rfl) rfl)
    (iter_stops (9 - 1) (by omega) W H X Y pw ph hW6 hH6 hx hy _ (w5.heap.size + 1 + 1 + 1 + 1) (w5.heap.size + 1 + 1 + 1) W0 hP0 hL0) Kept.trans (fun W l o o' hl _ _ _ => kept_put (by omega) (by omega)) (Below.refl _ _) (fun _ => rfl)
    (fun pre W' => SbI w4 W' w5.heap.size I g D0.length cap5 A B x (w5.heap.size + 1 + 1) (w5.heap.size + 1) (subL s qs x.2.2.2 0 (vals (pre))) (pre).length ∧ Blk W' (w5.heap.size + 1 + 1 + 1 + 1) #[.int .i64 (X : Int), .int .i64 (Y : Int), .int .i64 (pw : Int), .int .i64 (ph : Int)] 26 ∧ Blk W' (w5.heap.size + 1 + 1 + 1) #[.int .i64 (W : Int), .int .i64 (H : Int), .slice (some ⟨gb, 0, none⟩) x.2.2.2.length bcap] 48)
    (fun _ _ _ => False)
    (fun pre A B' row hs hg hr => ⟨hs.1.kept hg (fun r e => hr r e) (by omega), blk_kept hs.2.1 hg (fun r e => (hr r e).2), blk_kept hs.2.2 hg (fun r e => (hr r e).2)⟩)
    (fun _ _ _ _ _ hs _ _ => hs)
    ⟨hS0, hP0, hL0⟩
  case hassign =>
    intro l z Wq K hK
    have HK := hide hK
    clear hK
    gi_wp2
    exact unhide HK
  case hbody =>
    rintro l pre z Wq hR hlt5
    obtain ⟨hNx, hPi, hLi⟩ := hR
    obtain ⟨hx1, hx2, hx3, eb, hbl⟩ := unhide HX
    have hq := z.2
    have hqs : (z.1 + 1) * s ≤ x.2.2.2.length := by
      rw [hbl]
      exact Nat.mul_le_mul_right _ hq
    have hqq : (pre.length + 1) * s ≤ qs.length := by
      rw [unhide HQN]
      exact Nat.mul_le_mul_right _ hlt5
    have hqp : 0 < qs.length := by
      have h1 : 1 * 1 ≤ (pre.length + 1) * s := Nat.mul_le_mul (by omega) (by omega)
      omega
    obtain ⟨q0, qoff, hqo, _⟩ := (unhide HQ).at 0 hqp
    have HQO := hide hqo
    clear hqo
    have hQb := (unhide H4).2.2.2.1.ext hNx.ext
    have hSz := (unhide H4).2.2.2.2.2.ext hNx.ext
    have hSrc := (unhide HQ).ext ((unhide H4).1.trans hNx.ext)
    have HC1 : Hid (∀ wx, Calls Try.prog 28 #[.slice (some ⟨gb, 0, none⟩) x.2.2.2.length bcap, .int .i64 (z.1 : Int), .int .i64 (s : Int)] wx fun e w' => e = .returned (.slice (some ⟨gb, z.1 * s, none⟩) s (bcap - z.1 * s)) ∧ w' = wx) := fun wx => by
      have h9 := cell_any gb 0 x.2.2.2.length bcap z.1 s wx (by omega) hs4 hqs hbc hbm2
      rw [Nat.zero_add] at h9
      exact h9
    have HC2 : Hid (∀ wx, Calls Try.prog 28 #[.slice qo qs.length qcap, .int .i64 (pre.length : Int), .int .i64 (s : Int)] wx fun e w' => e = .returned (.slice (some ⟨q0, qoff + pre.length * s, none⟩) s (qcap - pre.length * s)) ∧ w' = wx) := fun wx => by
      rw [unhide HQO]
      exact cell_any q0 qoff qs.length qcap pre.length s wx (by omega) hs4 hqq hqc hqm2
    have hcl := cellL_len (s := s) (q := pre.length) (xs := qs) hqq
    have hRw : Row .u8 Wq.drew (.slice (some ⟨q0, qoff + pre.length * s, none⟩) (cellL s qs pre.length).length (qcap - pre.length * s)) (cellL s qs pre.length) := by
      have hs2 := hSrc
      rw [unhide HQO] at hs2
      obtain ⟨b9, o9, e9, hp9⟩ := hs2.part (pre.length * s) s (by omega) (by rw [Nat.succ_mul] at hqq; exact hqq)
      cases e9
      rw [hcl]
      exact hp9.ext (ext_0 Wq)
    have hsl : (subL s qs x.2.2.2 0 (vals pre)).length = x.2.2.2.length := subL_len s qs (vals pre) _ 0 (fun p hp => by
      obtain ⟨y, _, rfl⟩ := List.mem_map.1 hp
      rw [hbl]
      exact Nat.mul_le_mul_right _ y.2) (by
      rw [Nat.zero_add, show (vals pre).length = pre.length by simp [vals]]
      rw [Nat.succ_mul] at hqq
      omega)
    have hoN := hNx.lo.bys (x.1, x.2.1, x.2.2.1, subL s qs x.2.2.2 0 (vals pre)) (by simp)
    have hoN2 : Own .u8 Wq.drew w4.heap.size 5 (.slice (some ⟨gb, 0, none⟩) x.2.2.2.length bcap) (subL s qs x.2.2.2 0 (vals pre)) := by
      rw [← eb]
      exact hoN.kept (ext_0 Wq)
    obtain ⟨w8, hrun8, ho8, hg8⟩ := copy_in hoN2 (z.1 * s) (by rw [hsl, hcl]; rw [Nat.succ_mul] at hqs; exact hqs) hRw (by omega) (bcap - z.1 * s)
    rw [hcl] at hrun8
    have hln : vals (pre ++ [z]) = vals pre ++ [z.1] := vals_snoc _ _
    have hsn : subL s qs x.2.2.2 0 (vals (pre ++ [z])) = layB (subL s qs x.2.2.2 0 (vals pre)) (z.1 * s) (cellL s qs pre.length) := by
      rw [hln, subL_snoc, Nat.zero_add, show (vals pre).length = pre.length by simp [vals]]
    rw [← hsn] at ho8
    have HRUN := hide hrun8
    have hgq : Wq.grownBy w8 (some gb) := (ext_grown (ext_0 Wq) (some gb)).trans hg8
    have hne8 : ∀ {b : Nat} {cs : Array Value} {t : TypeId}, Blk Wq b cs t → t ≠ 5 → Blk w8 b cs t := fun {b cs t} hB ht => hB.grown hgq (blk_neU (hB.ext (ext_0 Wq)) ht hoN2)
    have hlo8 := hNx.lo.turnAt (ys := subL s qs x.2.2.2 0 (vals (pre ++ [z]))) (by exact eb) hgq (by show Own _ _ _ _ x.2.2.1 _; rw [eb]; exact ho8)
    have hgb8 : w4.heap.size ≤ gb := (hoN2.lt gb rfl).1
    have hx8 : Ext w4 w8 := below_grown hNx.ext hgq hNx.ext.size hgb8
    have hbi8 := hne8 hNx.cnt (by decide)
    have hlv8 := hne8 hNx.lev (by decide)
    rw [hx1, hx2, eb] at hlv8
    have hlv := hNx.lev
    rw [hx1, hx2, eb] at hlv
    have hqb8 := hne8 hQb (by decide)
    have hsz8 := hne8 hSz (by decide)
    have hS0 : (fun w' : World => w'.cell? ⟨w5.heap.size + 1, 2, none⟩ = some (.slice (some ⟨gb, 0, none⟩) x.2.2.2.length bcap) ∧ w'.cell? ⟨w3.heap.size, 0, none⟩ = some (.int .i64 (s : Int)) ∧ w'.cell? ⟨w.heap.size + 1 + 1, 0, none⟩ = some (.slice qo qs.length qcap) ∧ w'.cell? ⟨w5.heap.size + 1 + 1, 0, none⟩ = some (.int .i64 (pre.length : Int))) Wq.drew := ⟨hlv.three.2.2, hSz.cell (i := 0) rfl, hQb.cell (i := 0) rfl, hNx.cnt.cell (i := 0) rfl⟩
    have HS8 := hide (show (fun w' : World => w'.cell? ⟨w5.heap.size + 1, 2, none⟩ = some (.slice (some ⟨gb, 0, none⟩) x.2.2.2.length bcap) ∧ w'.cell? ⟨w3.heap.size, 0, none⟩ = some (.int .i64 (s : Int)) ∧ w'.cell? ⟨w.heap.size + 1 + 1, 0, none⟩ = some (.slice qo qs.length qcap) ∧ w'.cell? ⟨w5.heap.size + 1 + 1, 0, none⟩ = some (.int .i64 (pre.length : Int))) w8 from ⟨hlv8.three.2.2, hsz8.cell (i := 0) rfl, hqb8.cell (i := 0) rfl, hbi8.cell (i := 0) rfl⟩)
    have ci8 := hbi8.cell (i := 0) rfl
    have fi8 := hbi8.free 0
    have hg9 := grownBy_set w8 (w5.heap.size + 1 + 1) 0 (.int .i64 ((pre.length : Int) + 1))
    have HFIN : Hid (KeepsOthers Wq (w8.setCell ⟨w5.heap.size + 1 + 1, 0, none⟩ (.int .i64 ((pre.length : Int) + 1))) ∧ Kept (w5.heap.size + 1 + 1 + 1 + 1) (w5.heap.size + 1 + 1 + 1) Wq (w8.setCell ⟨w5.heap.size + 1 + 1, 0, none⟩ (.int .i64 ((pre.length : Int) + 1))) ∧ SbI w4 (w8.setCell ⟨w5.heap.size + 1 + 1, 0, none⟩ (.int .i64 ((pre.length : Int) + 1))) w5.heap.size I g D0.length cap5 A B x (w5.heap.size + 1 + 1) (w5.heap.size + 1) (subL s qs x.2.2.2 0 (vals (pre ++ [z]))) (pre ++ [z]).length ∧ Blk (w8.setCell ⟨w5.heap.size + 1 + 1, 0, none⟩ (.int .i64 ((pre.length : Int) + 1))) (w5.heap.size + 1 + 1 + 1 + 1) #[.int .i64 (X : Int), .int .i64 (Y : Int), .int .i64 (pw : Int), .int .i64 (ph : Int)] 26 ∧ Blk (w8.setCell ⟨w5.heap.size + 1 + 1, 0, none⟩ (.int .i64 ((pre.length : Int) + 1))) (w5.heap.size + 1 + 1 + 1) #[.int .i64 (W : Int), .int .i64 (H : Int), .slice (some ⟨gb, 0, none⟩) x.2.2.2.length bcap] 48) := by
      have hk8 : KeepsOthers Wq w8 := (keeps_ext (ext_0 Wq)).trans (keeps_own hoN2 hg8)
      have hk9 : KeepsOthers Wq (w8.setCell ⟨w5.heap.size + 1 + 1, 0, none⟩ (.int .i64 ((pre.length : Int) + 1))) := hk8.trans (KeepsOthers.setCell _ _ _)
      have hPi9 := (hne8 hPi (by decide)).other (r := w5.heap.size + 1 + 1) 0 (.int .i64 ((pre.length : Int) + 1)) (by omega)
      have hLi9 := (hne8 hLi (by decide)).other (r := w5.heap.size + 1 + 1) 0 (.int .i64 ((pre.length : Int) + 1)) (by omega)
      refine ⟨hk9, ⟨(show _ from hPi9).trans (show _ from hPi).symm, (show _ from hLi9).trans (show _ from hLi).symm⟩, ⟨below_grown hx8 hg9 hx8.size (by omega), (hne8 hNx.blk (by decide)).other (r := w5.heap.size + 1 + 1) 0 _ (by omega), hlo8.grown hbi8 ⟨by decide, by decide⟩ hg9, ?_, (hne8 hNx.lev (by decide)).other (r := w5.heap.size + 1 + 1) 0 _ (by omega)⟩, hPi9, hLi9⟩
      rw [List.length_append]
      have := hbi8.set 0 (.int .i64 ((pre.length : Int) + 1))
      simpa using this
    have hpl : (pre.length : Int) ≤ 4096 := by omega
    have hwp : IntKind.i64.wrap ((pre.length : Int) + 1) = (pre.length : Int) + 1 := wrap_id (by omega) (by omega)
    clear hln hsn hcl hsl hx1 hx2 hx3 eb hbl hqq hqs hoN hoN2 ho8 hg8 hrun8 hRw hgq hlo8 hx8 hbi8 hlv8 hlv hqb8 hsz8 hg9 hNx hPi hLi hQb hSz hSrc
    generalize x.2.2.2.length = xn at *
    gi_wp2
    refine region_in (S := fun w' => w'.cell? ⟨w5.heap.size + 1, 2, none⟩ = some (.slice (some ⟨gb, 0, none⟩) xn bcap) ∧ w'.cell? ⟨w3.heap.size, 0, none⟩ = some (.int .i64 (s : Int)) ∧ w'.cell? ⟨w.heap.size + 1 + 1, 0, none⟩ = some (.slice qo qs.length qcap) ∧ w'.cell? ⟨w5.heap.size + 1 + 1, 0, none⟩ = some (.int .i64 (pre.length : Int))) (by kernel_rfl) (by kernel_rfl) (by rintro ⟨_, _, h⟩; exact h) hS0 (fun hHeld => ?_)
    refine wpAnyH_take (i := 0) (v := .pointer (some ⟨w5.heap.size + 1, 2, none⟩)) rfl (by kernel_rfl) (by kernel_rfl) (by kernel_rfl) (fun _ _ _ h => h) (Or.inl ⟨by rfl, fun _ _ => rfl⟩) hHeld ?_
    refine wpAnyH_take (i := 1) (v := .slice (some ⟨gb, 0, none⟩) xn bcap) rfl (by kernel_rfl) (by kernel_rfl) (by kernel_rfl) (fun _ _ _ h => h) (Or.inl ⟨by rfl, fun w9 h9 => by (have h91 := h9.1; go_simp)⟩) hHeld ?_
    refine wpAnyH_take (i := 2) (v := .int .i64 (z.1 : Int)) rfl (by kernel_rfl) (by kernel_rfl) (by kernel_rfl) (fun _ _ _ h => h) (Or.inl ⟨by rfl, fun _ _ => rfl⟩) hHeld ?_
    refine wpAnyH_take (i := 3) (v := .int .i64 (s : Int)) rfl (by kernel_rfl) (by kernel_rfl) (by kernel_rfl) (fun _ _ _ h => h) (Or.inl ⟨by rfl, fun w9 h9 => by (have h91 := h9.2.1; go_simp)⟩) hHeld ?_
    refine wpAnyH_take (i := 5) (v := .slice qo qs.length qcap) rfl (by kernel_rfl) (by kernel_rfl) (by kernel_rfl) (fun _ _ _ h => h) (Or.inl ⟨by rfl, fun w9 h9 => by (have h91 := h9.2.2.1; go_simp)⟩) hHeld ?_
    refine wpAnyH_take (i := 6) (v := .int .i64 (pre.length : Int)) rfl (by kernel_rfl) (by kernel_rfl) (by kernel_rfl) (fun _ _ _ h => h) (Or.inl ⟨by rfl, fun w9 h9 => by (have h91 := h9.2.2.2; go_simp)⟩) hHeld ?_
    refine wpAnyH_take (i := 7) (v := .int .i64 (s : Int)) rfl (by kernel_rfl) (by kernel_rfl) (by kernel_rfl) (fun _ _ _ h => h) (Or.inl ⟨by rfl, fun w9 h9 => by (have h91 := h9.2.1; go_simp)⟩) hHeld ?_
    refine wpAnyH_ready (rs := [4]) (by kernel_rfl) (by simp) (AllReadyH.cons rfl (fun K hK => ?_) AllReadyH.nil)
    go_simp
    refine (unhide HC1 _).mono ?_
    rintro e w9 ⟨rfl, rfl⟩
    refine hK.out _ _ hHeld (fun _ => ?_)
    clear hK K
    refine wpAnyH_ready (rs := [8]) (by kernel_rfl) (by simp) (AllReadyH.cons rfl (fun K hK => ?_) AllReadyH.nil)
    go_simp
    refine (unhide HC2 _).mono ?_
    rintro e w9 ⟨rfl, rfl⟩
    refine hK.out _ _ hHeld (fun _ => ?_)
    clear hK K
    refine wpAnyH_ready (rs := [9]) (by kernel_rfl) (by simp) (AllReadyH.cons rfl (fun K hK => ?_) AllReadyH.nil)
    refine step_copy (by rfl) (.tmp 53) (.tmp 57) 27 (by rfl) (by rfl) (by rfl) (unhide HRUN) ?_
    refine hK.out _ _ (unhide HS8) (fun _ => ?_)
    clear hK K
    refine wpAnyH_done (by kernel_rfl) ?_ _
    gi_wp2
    exact unhide HFIN
  case hdone =>
    rintro D ys Wd hD hys hI9 hK
    obtain ⟨hNx, hPi, hLi⟩ := hI9
    have hpl : ((List.range (pw * ph)).map (pq W X Y pw)) = vals ys := hys.symm
    have hsub := subK_list s qs x.2.2.2 (pq W X Y pw) (pw * ph)
    rw [hpl] at hsub
    have hR9 := (unhide H4).2.2.2.2.1.ext hNx.ext
    obtain ⟨y0, y1, y2, y3, y4, y5⟩ := hNx.blk.six
    obtain ⟨r0, r1, r2, r3, r4, r5⟩ := hR9.six
    obtain ⟨f0, f1, f2, f3, f4, f5⟩ := hR9.frees
    have hB10 := hR9.put6 (.int .i64 I.f) (.slice (some ⟨g, 0, none⟩) D0.length cap5) (.int .i64 I.ws) (.int .i64 I.wt) (.int .i64 I.mn) (.int .i64 I.mg)
    have hg10 := grown_put6 Wd (w.heap.size + 1 + 1 + 1) (.int .i64 I.f) (.slice (some ⟨g, 0, none⟩) D0.length cap5) (.int .i64 I.ws) (.int .i64 I.wt) (.int .i64 I.mn) (.int .i64 I.mg)
    have hlo10 := hNx.lo.grown hR9 ⟨by decide, by decide⟩ hg10
    have hxd : Ext w Wd := (unhide H4).1.trans hNx.ext
    have hx10 : Ext w _ := below_grown hxd hg10 hxd.size (by omega)
    have hkp := keeps_grown hg10 hR9
    have HX9 := hide (And.intro hx10 (And.intro hB10 (And.intro hlo10 (And.intro (hkp.same D _ hK rfl) hsub))))
    have hwz : w4.heap.size ≤ Wd.heap.size := hNx.ext.size
    clear hB10 hg10 hlo10 hxd hx10 hkp hNx hPi hLi hR9 hK hsub hpl hys
    go_wp2
    obtain ⟨hx10, hB10, hlo10, hK, hsub⟩ := unhide HX9
    refine leaves_marks (b0 := w4.heap.size) [D] _ (by simpa using hwz) (by simp) (fun D' hD' => ?_) (fun W' hW' hck => ?_)
    · rw [List.mem_singleton] at hD'
      subst hD'
      exact ⟨by omega, hK⟩
    · have hB11 := hck.blk hB10
      obtain ⟨t0, t1, t2, t3, t4, t5⟩ := hB11.six
      have hlo11 := (hck.lo hlo10).lower (b2 := w.heap.size) (unhide H4).1.size
      have hlen9 : (A ++ (x.1, x.2.1, x.2.2.1, subL s qs x.2.2.2 0 (vals ys)) :: B).length = D0.length := by rw [(unhide HD).1]; simp
      rw [← hlen9] at hlo11 t1
      refine ⟨.tuple #[.agg #[.int .i64 I.f, .slice (some ⟨g, 0, none⟩) (A ++ (x.1, x.2.1, x.2.2.1, subL s qs x.2.2.2 0 (vals ys)) :: B).length cap5, .int .i64 I.ws, .int .i64 I.wt, .int .i64 I.mn, .int .i64 I.mg], .int .i64 0], ?_, _, _, _, rfl, hlo11, ?_, Below.trans hx10 (hW'.mono (unhide H4).1.size)⟩
      · simp [results, Try.f9, go_sem, t0, t1, t2, t3, t4, t5]
      · rw [unhide HFA, ← hsub, (unhide HX).2.2.1]
  case hstop =>
    rintro D c pre Wq _ _ h _
    exact h.elim
end
end Go.Proofs.Ytpjapdifmfpcnaa
