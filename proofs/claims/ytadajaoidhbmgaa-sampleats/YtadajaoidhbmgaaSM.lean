/-
  Colours: the document's Linear.
-/
import Derived.Test.YtadajaoidhbmgaaSJ
namespace Go.Proofs.Ytadajaoidhbmgaa
open Go.RowKit
set_option linter.unusedVariables false
set_option linter.unusedSimpArgs false

theorem rl_bd {a x y : Int} (ha : 0 ≤ a ∧ a ≤ 65536) (hx : 0 ≤ x ∧ x ≤ 65536) (hy : 0 ≤ y ∧ y ≤ 65536) : (0 ≤ a * x ∧ a * x ≤ 4294967296) ∧ (0 ≤ a * x * y ∧ a * x * y ≤ 281474976710656) := by
  have h1 : 0 ≤ a * x := Int.mul_nonneg ha.1 hx.1
  have h2 := Int.mul_le_mul ha.2 hx.2 hx.1 (by omega)
  have h3 : 0 ≤ a * x * y := Int.mul_nonneg h1 hy.1
  have h4 := Int.mul_le_mul (show a * x ≤ 4294967296 by omega) hy.2 hy.1 (by omega)
  omega
structure RlS (w wr : World) (ra rb rc rd ro : Nat) (A B C E V : Nat → Int) (n : Nat) : Prop where
  a : Blk wr ra #[.int .i32 (A 0), .int .i32 (A 1), .int .i32 (A 2), .int .i32 (A 3)] 30
  b : Blk wr rb #[.int .i32 (B 0), .int .i32 (B 1), .int .i32 (B 2), .int .i32 (B 3)] 30
  c : Blk wr rc #[.int .i32 (C 0), .int .i32 (C 1), .int .i32 (C 2), .int .i32 (C 3)] 30
  d : Blk wr rd #[.int .i32 (E 0), .int .i32 (E 1), .int .i32 (E 2), .int .i32 (E 3)] 30
  r : Blk wr (w.heap.size + 1) #[.int .i32 0, .int .i32 0, .int .i32 0, .int .i32 0] 30
  o : Blk wr ro #[.int .i32 ((upTo V n) 0), .int .i32 ((upTo V n) 1), .int .i32 ((upTo V n) 2), .int .i32 ((upTo V n) 3)] 30
  ne : ra ≠ ro ∧ rb ≠ ro ∧ rc ≠ ro ∧ rd ≠ ro ∧ w.heap.size + 1 ≠ ro
  ext : Ext w wr
  low : w.heap.size ≤ ro
theorem RlS.put {w wr : World} {ra rb rc rd ro n : Nat} {A B C E V : Nat → Int} (h : RlS w wr ra rb rc rd ro A B C E V n) (hn : n < 4) : RlS w (wr.setCell ⟨ro, n, none⟩ (.int .i32 (V n))) ra rb rc rd ro A B C E V (n + 1) := by
  refine ⟨h.a.other _ _ h.ne.1, h.b.other _ _ h.ne.2.1, h.c.other _ _ h.ne.2.2.1, h.d.other _ _ h.ne.2.2.2.1, h.r.other _ _ h.ne.2.2.2.2, ?_, h.ne, below_grown h.ext (grownBy_set _ _ _ _) h.ext.size h.low, h.low⟩
  have := h.o.set n (.int .i32 (V n))
  rw [upTo_set V n hn] at this
  exact this
theorem RlS.later {w wr w' : World} {ra rb rc rd ro n : Nat} {A B C E V : Nat → Int} (h : RlS w wr ra rb rc rd ro A B C E V n) (hx : Ext wr w') : RlS w w' ra rb rc rd ro A B C E V n :=
  ⟨h.a.ext hx, h.b.ext hx, h.c.ext hx, h.d.ext hx, h.r.ext hx, h.o.ext hx, h.ne, h.ext.trans hx, h.low⟩
section
variable {w : World} {v : Value} {L : List Ent} {I : Img}
set_option maxRecDepth 10000 in
set_option maxHeartbeats 4000000 in
theorem refLinear_any (h : LR w v L) (hA : I.L = absL L) (hby : ∀ p ∈ L, Byt p.2.2.2) (lv u q : Int) (hu : I32 u) (hq : I32 q) (hE : rfE I lv = 0) :
    Calls Try.prog 12 #[.agg #[.int .i64 I.f, v, .int .i64 I.ws, .int .i64 I.wt, .int .i64 I.mn, .int .i64 I.mg], .int .i64 lv, .int .i32 u, .int .i32 q] w fun e w' => e = .returned (.agg #[.int .i32 ((lnI I (levAt I lv) u q) 0), .int .i32 ((lnI I (levAt I lv) u q) 1), .int .i32 ((lnI I (levAt I lv) u q) 2), .int .i32 ((lnI I (levAt I lv) u q) 3)]) ∧ Ext w w' := by
  obtain ⟨hok, hh⟩ := rf_cases I lv hE
  obtain ⟨k, hk, rfl, hlv, hlk⟩ := lv_open hA hok hh
  obtain ⟨ao, cap, rfl, hao, hlc, hcm, _⟩ := h.shape
  have hcm2 : cap ≤ 9223372036854775807 := by unfold maxLen at hcm; omega
  have HN : Hid (∀ c, lnI I (levAt I (k : Int)) u q c = linI (txI I (levAt I (k : Int)) ((L[k].1 * u - 32768) / 65536) ((L[k].2.1 * q - 32768) / 65536) c) (txI I (levAt I (k : Int)) ((L[k].1 * u - 32768) / 65536 + 1) ((L[k].2.1 * q - 32768) / 65536) c) (txI I (levAt I (k : Int)) ((L[k].1 * u - 32768) / 65536) ((L[k].2.1 * q - 32768) / 65536 + 1) c) (txI I (levAt I (k : Int)) ((L[k].1 * u - 32768) / 65536 + 1) ((L[k].2.1 * q - 32768) / 65536 + 1) c) ((L[k].1 * u - 32768) % 65536) ((L[k].2.1 * q - 32768) % 65536)) := fun c => by
    rw [hlv]
    rfl
  have HTB : Hid (∀ i j c, c < 4 → 0 ≤ txI I (levAt I (k : Int)) i j c ∧ txI I (levAt I (k : Int)) i j c ≤ 65536) := fun i j c hc => by rw [hlv]; exact tx_bd hlk i j c hc
  have hWb : 1 ≤ L[k].1 ∧ L[k].1 ≤ 64 := hlk.w
  have hHb : 1 ≤ L[k].2.1 ∧ L[k].2.1 ≤ 64 := hlk.h
  obtain ⟨m1, m2⟩ := mul_fix hWb hu
  obtain ⟨m3, m4⟩ := mul_fix hHb hq
  obtain ⟨u1, u2⟩ := hu
  obtain ⟨u3, u4⟩ := hq
  have HTX := hide (fun wx (hx : Ext w wx) i j (hi : -4000000 ≤ i ∧ i ≤ 4000000) (hj : -4000000 ≤ j ∧ j ≤ 4000000) => refTexel_any (I := I) (h.ext hx) hA hby (k : Int) i j hE ⟨by omega, by omega⟩ ⟨by omega, by omega⟩)
  have hx1 := ((Ext.refl w).alloc (.cells #[.int .i64 I.f, .slice ao L.length cap, .int .i64 I.ws, .int .i64 I.wt, .int .i64 I.mn, .int .i64 I.mg] 24)).alloc (.cells #[.int .i32 0, .int .i32 0, .int .i32 0, .int .i32 0] 30)
  obtain ⟨b, off, bo, bcap, rfl, eb, c0, c1, c2, hr⟩ := (h.ext hx1).at k hk
  have hkn : (k : Int) < (L.length : Int) := by omega
  generalize L[k].1 = W at *
  generalize L[k].2.1 = H at *
  generalize L[k].2.2.2 = bs at *
  generalize levAt I (k : Int) = lev at *
  have g1 : IntKind.i64.wrap (W * u) = W * u := by simp [IntKind.wrap, IntKind.bits, IntKind.signed]; omega
  have g2 : IntKind.i64.wrap (H * q) = H * q := by simp [IntKind.wrap, IntKind.bits, IntKind.signed]; omega
  have gu : IntKind.i64.wrap u = u := by simp [IntKind.wrap, IntKind.bits, IntKind.signed]; omega
  have gq : IntKind.i64.wrap q = q := by simp [IntKind.wrap, IntKind.bits, IntKind.signed]; omega
  obtain ⟨f, hf⟩ : ∃ f, f = (W * u - 32768) % 65536 := ⟨_, rfl⟩
  obtain ⟨g, hg⟩ : ∃ g, g = (H * q - 32768) % 65536 := ⟨_, rfl⟩
  have hfb : 0 ≤ f ∧ f < 65536 := by omega
  have hgb : 0 ≤ g ∧ g < 65536 := by omega
  rw [← hf, ← hg] at HN
  have HDW := hide (fun wx => down_any (W * u - 32768) 65536 wx ⟨by omega, by omega⟩ ⟨by omega, by omega⟩)
  have HDH := hide (fun wx => down_any (H * q - 32768) 65536 wx ⟨by omega, by omega⟩ ⟨by omega, by omega⟩)
  have hB1 := (Blk.new w #[.int .i64 I.f, .slice (some ⟨b, off, none⟩) L.length cap, .int .i64 I.ws, .int .i64 I.wt, .int .i64 I.mn, .int .i64 I.mg] 24).alloc (.cells #[.int .i32 0, .int .i32 0, .int .i32 0, .int .i32 0] 30)
  have hR1 := Blk.at (w := w.alloc (.cells #[.int .i64 I.f, .slice (some ⟨b, off, none⟩) L.length cap, .int .i64 I.ws, .int .i64 I.wt, .int .i64 I.mn, .int .i64 I.mg] 24)) (b := w.heap.size + 1) (cs := #[.int .i32 0, .int .i32 0, .int .i32 0, .int .i32 0]) (t := 30) (by simp)
  have H1 := hide (And.intro hx1 (And.intro hB1 hR1))
  obtain ⟨i, hi⟩ : ∃ i, i = (W * u - 32768) / 65536 := ⟨_, rfl⟩
  obtain ⟨j, hj⟩ : ∃ j, j = (H * q - 32768) / 65536 := ⟨_, rfl⟩
  rw [← hi] at HDW HN
  rw [← hj] at HDH HN
  have ef : W * u - 32768 - 65536 * i = f := by omega
  have eg : H * q - 32768 - 65536 * j = g := by omega
  have ib : -3000000 ≤ i ∧ i ≤ 3000000 := by omega
  have jb : -3000000 ≤ j ∧ j ≤ 3000000 := by omega
  obtain ⟨i1, i2⟩ := ib
  obtain ⟨j1, j2⟩ := jb
  clear hf hg hi hj
  clear h hA hby hok hh hlv hlk hao hcm eb hE hx1 hB1 hR1 hr
  go_enter Try.func12, Try.ntmps12
  go_upto_region 2 with fail
  generalize hw1 : (w.alloc (.cells #[.int .i64 I.f, .slice (some ⟨b, off, none⟩) L.length cap, .int .i64 I.ws, .int .i64 I.wt, .int .i64 I.mn, .int .i64 I.mg] 24)).alloc (.cells #[.int .i32 0, .int .i32 0, .int .i32 0, .int .i32 0] 30) = w1 at H1 c0 c1 c2 ⊢
  have hx2 := (Ext.refl w1).alloc (.cells #[.int .i64 W, .int .i64 H, .slice bo bs.length bcap] 46)
  have H2 := hide (And.intro ((unhide H1).1.trans hx2) (And.intro ((unhide H1).2.1.ext hx2) (And.intro (Blk.new w1 #[.int .i64 W, .int .i64 H, .slice bo bs.length bcap] 46) ((unhide H1).2.2.ext hx2))))
  have hb1 : w1.heap.size = w.heap.size + 1 + 1 := by rw [← hw1]; simp
  rw [hb1] at H2
  generalize w1.alloc (.cells #[.int .i64 W, .int .i64 H, .slice bo bs.length bcap] 46) = w3 at H2 ⊢
  clear hw1 hx2 H1 c0 c1 c2 hb1
  obtain ⟨q0, q1, q2, q3, q4, q5⟩ := (unhide H2).2.1.six
  obtain ⟨l0, l1, l2⟩ := (unhide H2).2.2.1.three
  go_wp2_with fail
  refine (unhide HDW _).mono ?_
  rintro e w3 ⟨rfl, rfl⟩
  go_wp2_with fail
  refine (unhide HDH _).mono ?_
  rintro e w3 ⟨rfl, rfl⟩
  go_upto_region 6 with fail
  have HBI := hide (unhide H2).2.1
  have HT0 : Hid (∀ wx i j, Ext w3 wx → -4000000 ≤ i ∧ i ≤ 4000000 → -4000000 ≤ j ∧ j ≤ 4000000 → Calls Try.prog 25 #[.agg #[.int .i64 I.f, .slice (some ⟨b, off, none⟩) L.length cap, .int .i64 I.ws, .int .i64 I.wt, .int .i64 I.mn, .int .i64 I.mg], .int .i64 (k : Int), .int .i64 i, .int .i64 j] wx fun e w' => e = .returned (.agg #[.int .i32 ((txI I lev i j) 0), .int .i32 ((txI I lev i j) 1), .int .i32 ((txI I lev i j) 2), .int .i32 ((txI I lev i j) 3)]) ∧ Ext wx w') := fun wx i j hx hi hj => unhide HTX wx ((unhide H2).1.trans hx) i j hi hj
  clear HTX q0 q1 q2 q3 q4 q5 l0 l1 l2
  have HTX := hide (fun wx (hx : Ext w3 wx) => And.intro (unhide HT0 wx i j hx ⟨by omega, by omega⟩ ⟨by omega, by omega⟩) (unhide HT0 wx (i + 1) j hx ⟨by omega, by omega⟩ ⟨by omega, by omega⟩))
  have gi : IntKind.i64.wrap (i + 1) = i + 1 := by simp [IntKind.wrap, IntKind.bits, IntKind.signed]; omega
  have gj : IntKind.i64.wrap (j + 1) = j + 1 := by simp [IntKind.wrap, IntKind.bits, IntKind.signed]; omega
  go_cut [16, 17] (fun p1 p2 wc => ∃ w4 ra rb, w4 = wc ∧ p1 = .pointer (some ⟨ra, 0, none⟩) ∧ p2 = .pointer (some ⟨rb, 0, none⟩) ∧ Blk wc ra #[.int .i32 ((txI I lev i j) 0), .int .i32 ((txI I lev i j) 1), .int .i32 ((txI I lev i j) 2), .int .i32 ((txI I lev i j) 3)] 30 ∧ Blk wc rb #[.int .i32 ((txI I lev (i + 1) j) 0), .int .i32 ((txI I lev (i + 1) j) 1), .int .i32 ((txI I lev (i + 1) j) 2), .int .i32 ((txI I lev (i + 1) j) 3)] 30 ∧ Ext w3 wc)
  case first =>
    refine wp_region_noPanic ?_
    refine wp_region_held_drew (S := fun wx => Ext w3 wx) (by kernel_rfl) (ext_0 w3) (fun HS => ?_)
    refine wpAnyH_take (i := 0) (oi := { dst := some 52, op := Op.load 24 (Operand.tmp 4), type := 24, pos := _, after := _, guard := none }) (v := .agg #[.int .i64 I.f, .slice (some ⟨b, off, none⟩) L.length cap, .int .i64 I.ws, .int .i64 I.wt, .int .i64 I.mn, .int .i64 I.mg]) rfl (by kernel_rfl) (by kernel_rfl) (by kernel_rfl) (fun _ _ _ h => h) (yieldsIf_load_mid (by rfl) 24 (.tmp 4) rfl w.heap.size 0 rfl [.int .i64 I.f, .slice (some ⟨b, off, none⟩) L.length cap, .int .i64 I.ws, .int .i64 I.wt, .int .i64 I.mn, .int .i64 I.mg] _ (fun wx hx => ((unhide HBI).ext hx).range 0 [.int .i64 I.f, .slice (some ⟨b, off, none⟩) L.length cap, .int .i64 I.ws, .int .i64 I.wt, .int .i64 I.mn, .int .i64 I.mg] rfl) Try.underlying24 rfl sizeI) HS ?_
    simp only [Act.put, List.setIfInBounds_toArray, List.set_cons_zero, List.set_cons_succ]
    refine wpAnyH_take (i := 1) (oi := { dst := some 53, op := Op.move (Operand.tmp 1), type := 3, pos := _, after := _, guard := none }) (v := .int .i64 (k : Int)) rfl (by kernel_rfl) (by kernel_rfl) (by kernel_rfl) (fun _ _ _ h => h) (Or.inl ⟨by rfl, fun _ _ => rfl⟩) HS ?_
    simp only [Act.put, List.setIfInBounds_toArray, List.set_cons_zero, List.set_cons_succ]
    refine wpAnyH_take (i := 2) (oi := { dst := some 54, op := Op.move (Operand.tmp 12), type := 2, pos := _, after := _, guard := none }) (v := .int .i64 i) rfl (by kernel_rfl) (by kernel_rfl) (by kernel_rfl) (fun _ _ _ h => h) (Or.inl ⟨by rfl, fun _ _ => rfl⟩) HS ?_
    simp only [Act.put, List.setIfInBounds_toArray, List.set_cons_zero, List.set_cons_succ]
    refine wpAnyH_take (i := 3) (oi := { dst := some 55, op := Op.move (Operand.tmp 13), type := 2, pos := _, after := _, guard := none }) (v := .int .i64 j) rfl (by kernel_rfl) (by kernel_rfl) (by kernel_rfl) (fun _ _ _ h => h) (Or.inl ⟨by rfl, fun _ _ => rfl⟩) HS ?_
    simp only [Act.put, List.setIfInBounds_toArray, List.set_cons_zero, List.set_cons_succ]
    refine wpAnyH_take (i := 5) (oi := { dst := some 57, op := Op.load 24 (Operand.tmp 4), type := 24, pos := _, after := _, guard := none }) (v := .agg #[.int .i64 I.f, .slice (some ⟨b, off, none⟩) L.length cap, .int .i64 I.ws, .int .i64 I.wt, .int .i64 I.mn, .int .i64 I.mg]) rfl (by kernel_rfl) (by kernel_rfl) (by kernel_rfl) (fun _ _ _ h => h) (yieldsIf_load_mid (by rfl) 24 (.tmp 4) rfl w.heap.size 0 rfl [.int .i64 I.f, .slice (some ⟨b, off, none⟩) L.length cap, .int .i64 I.ws, .int .i64 I.wt, .int .i64 I.mn, .int .i64 I.mg] _ (fun wx hx => ((unhide HBI).ext hx).range 0 [.int .i64 I.f, .slice (some ⟨b, off, none⟩) L.length cap, .int .i64 I.ws, .int .i64 I.wt, .int .i64 I.mn, .int .i64 I.mg] rfl) Try.underlying24 rfl sizeI) HS ?_
    simp only [Act.put, List.setIfInBounds_toArray, List.set_cons_zero, List.set_cons_succ]
    refine wpAnyH_take (i := 6) (oi := { dst := some 58, op := Op.move (Operand.tmp 1), type := 3, pos := _, after := _, guard := none }) (v := .int .i64 (k : Int)) rfl (by kernel_rfl) (by kernel_rfl) (by kernel_rfl) (fun _ _ _ h => h) (Or.inl ⟨by rfl, fun _ _ => rfl⟩) HS ?_
    simp only [Act.put, List.setIfInBounds_toArray, List.set_cons_zero, List.set_cons_succ]
    refine wpAnyH_take (i := 7) (oi := { dst := some 59, op := Op.move (Operand.tmp 12), type := 2, pos := _, after := _, guard := none }) (v := .int .i64 i) rfl (by kernel_rfl) (by kernel_rfl) (by kernel_rfl) (fun _ _ _ h => h) (Or.inl ⟨by rfl, fun _ _ => rfl⟩) HS ?_
    simp only [Act.put, List.setIfInBounds_toArray, List.set_cons_zero, List.set_cons_succ]
    refine wpAnyH_take (i := 8) (oi := { dst := some 60, op := Op.binOp BinOp.add 2 (Operand.tmp 59) (Operand.const (Value.int IntKind.i64 1)) 2, type := 2, pos := _, after := _, guard := none }) (v := .int .i64 (i + 1)) rfl (by kernel_rfl) (by kernel_rfl) (by kernel_rfl) (fun _ _ _ h => h) (Or.inl ⟨by rfl, fun wx _ => by go_simp⟩) HS ?_
    simp only [Act.put, List.setIfInBounds_toArray, List.set_cons_zero, List.set_cons_succ]
    refine wpAnyH_take (i := 9) (oi := { dst := some 61, op := Op.move (Operand.tmp 13), type := 2, pos := _, after := _, guard := none }) (v := .int .i64 j) rfl (by kernel_rfl) (by kernel_rfl) (by kernel_rfl) (fun _ _ _ h => h) (Or.inl ⟨by rfl, fun _ _ => rfl⟩) HS ?_
    simp only [Act.put, List.setIfInBounds_toArray, List.set_cons_zero, List.set_cons_succ]
    refine wpAnyH_ready (rs := [4, 11, 12]) (by kernel_rfl) (by simp) (AllReadyH.cons (o := { dst := some 56, op := Op.call { callee := Callee.value (Operand.func 25), args := #[Operand.tmp 52, Operand.tmp 53, Operand.tmp 54, Operand.tmp 55], argTypes := #[24, 3, 2, 2] }, type := 30, pos := _, after := _, guard := none }) rfl (fun KK hK => ?_) (AllReadyH.cons (o := { dst := some 16, op := Op.alloc 30, type := 0, pos := _, after := _, guard := none }) rfl (fun KK hK => ?_) (AllReadyH.cons (o := { dst := some 17, op := Op.alloc 30, type := 0, pos := _, after := _, guard := none }) rfl (fun KK hK => ?_) AllReadyH.nil)))
    · go_simp
      refine ((unhide HTX _ HS).1).mono ?_
      rintro e ws ⟨rfl, hxs⟩
      have HS2 := HS.trans hxs
      clear hxs HS
      have HS := HS2
      clear HS2
      refine hK.out _ _ HS (fun _ => ?_)
      clear hK KK
      try simp only [Act.put, List.setIfInBounds_toArray, List.set_cons_zero, List.set_cons_succ]
      refine wpAnyH_ready (rs := [10, 11, 12]) (by kernel_rfl) (by simp) (AllReadyH.cons (o := { dst := some 62, op := Op.call { callee := Callee.value (Operand.func 25), args := #[Operand.tmp 57, Operand.tmp 58, Operand.tmp 60, Operand.tmp 61], argTypes := #[24, 3, 2, 2] }, type := 30, pos := _, after := _, guard := none }) rfl (fun KK hK => ?_) (AllReadyH.cons (o := { dst := some 16, op := Op.alloc 30, type := 0, pos := _, after := _, guard := none }) rfl (fun KK hK => ?_) (AllReadyH.cons (o := { dst := some 17, op := Op.alloc 30, type := 0, pos := _, after := _, guard := none }) rfl (fun KK hK => ?_) AllReadyH.nil)))
      · go_simp
        refine ((unhide HTX _ HS).2).mono ?_
        rintro e ws ⟨rfl, hxs⟩
        have HS2 := HS.trans hxs
        clear hxs HS
        have HS := HS2
        clear HS2
        refine hK.out _ _ HS (fun _ => ?_)
        clear hK KK
        try simp only [Act.put, List.setIfInBounds_toArray, List.set_cons_zero, List.set_cons_succ]
        refine wpAnyH_ready (rs := [11, 12]) (by kernel_rfl) (by simp) (AllReadyH.cons (o := { dst := some 16, op := Op.alloc 30, type := 0, pos := _, after := _, guard := none }) rfl (fun KK hK => ?_) (AllReadyH.cons (o := { dst := some 17, op := Op.alloc 30, type := 0, pos := _, after := _, guard := none }) rfl (fun KK hK => ?_) AllReadyH.nil))
        · refine Eq.mpr (if_pos (by rfl)) ?_
          go_simp
          refine hK.out _ (ws.alloc (.cells #[.int .i32 0, .int .i32 0, .int .i32 0, .int .i32 0] 30)) (HS.alloc _) (fun _ => ?_)
          clear hK KK
          have RBa := hide (Blk.new ws #[.int .i32 0, .int .i32 0, .int .i32 0, .int .i32 0] 30)
          have RLa := hide (Below.size HS)
          have HS2 := HS.alloc (.cells #[.int .i32 0, .int .i32 0, .int .i32 0, .int .i32 0] 30)
          clear HS
          have HS := HS2
          clear HS2
          generalize ws.alloc (.cells #[.int .i32 0, .int .i32 0, .int .i32 0, .int .i32 0] 30) = wa at HS RBa ⊢
          try simp only [Act.put, List.setIfInBounds_toArray, List.set_cons_zero, List.set_cons_succ]
          refine wpAnyH_ready (rs := [12]) (by kernel_rfl) (by simp) (AllReadyH.cons (o := { dst := some 17, op := Op.alloc 30, type := 0, pos := _, after := _, guard := none }) rfl (fun KK hK => ?_) AllReadyH.nil)
          refine Eq.mpr (if_pos (by rfl)) ?_
          go_simp
          refine hK.out _ (wa.alloc (.cells #[.int .i32 0, .int .i32 0, .int .i32 0, .int .i32 0] 30)) (HS.alloc _) (fun _ => ?_)
          clear hK KK
          have NE := hide (show _ ≠ _ from Nat.ne_of_lt (unhide RBa).lt)
          have RBa := hide ((unhide RBa).alloc (.cells #[.int .i32 0, .int .i32 0, .int .i32 0, .int .i32 0] 30))
          have RBb := hide (Blk.new wa #[.int .i32 0, .int .i32 0, .int .i32 0, .int .i32 0] 30)
          have RLb := hide (Below.size HS)
          have HS2 := HS.alloc (.cells #[.int .i32 0, .int .i32 0, .int .i32 0, .int .i32 0] 30)
          clear HS
          have HS := HS2
          clear HS2
          generalize wa.alloc (.cells #[.int .i32 0, .int .i32 0, .int .i32 0, .int .i32 0] 30) = wa at HS RBa RBb ⊢
          try simp only [Act.put, List.setIfInBounds_toArray, List.set_cons_zero, List.set_cons_succ]
          refine wpAnyH_ready (rs := [13]) (by kernel_rfl) (by simp) (AllReadyH.cons (o := { dst := none, op := Op.store 30 (Operand.tmp 16) (Operand.tmp 56), type := 0, pos := _, after := _, guard := none }) rfl (fun KK hK => ?_) AllReadyH.nil)
          refine Eq.mpr (if_pos (by rfl)) ?_
          refine wp_store_row 30 (.tmp 16) (.tmp 56) rfl _ #[.int .i32 (txI I lev i j 0), .int .i32 (txI I lev i j 1), .int .i32 (txI I lev i j 2), .int .i32 (txI I lev i j 3)] rfl rfl 30 _ (unhide RBa) size35 rfl (by simp [Value.oneCell']) ?_
          refine hK.out _ _ (ext_row HS (unhide RLa)) (fun _ => ?_)
          clear hK KK
          have RBb := hide (Blk.rowOther (cs' := #[.int .i32 (txI I lev i j 0), .int .i32 (txI I lev i j 1), .int .i32 (txI I lev i j 2), .int .i32 (txI I lev i j 3)]) (unhide RBb) (Ne.symm (unhide NE)))
          have RBa := hide (Blk.row (cs' := #[.int .i32 (txI I lev i j 0), .int .i32 (txI I lev i j 1), .int .i32 (txI I lev i j 2), .int .i32 (txI I lev i j 3)]) (unhide RBa))
          have HS2 := ext_row (cs := #[.int .i32 (txI I lev i j 0), .int .i32 (txI I lev i j 1), .int .i32 (txI I lev i j 2), .int .i32 (txI I lev i j 3)]) HS (unhide RLa)
          clear HS
          have HS := HS2
          clear HS2
          try simp only [Act.put, List.setIfInBounds_toArray, List.set_cons_zero, List.set_cons_succ]
          refine wpAnyH_ready (rs := [14]) (by kernel_rfl) (by simp) (AllReadyH.cons (o := { dst := none, op := Op.store 30 (Operand.tmp 17) (Operand.tmp 62), type := 0, pos := _, after := _, guard := none }) rfl (fun KK hK => ?_) AllReadyH.nil)
          refine Eq.mpr (if_pos (by rfl)) ?_
          refine wp_store_row 30 (.tmp 17) (.tmp 62) rfl _ #[.int .i32 (txI I lev (i + 1) j 0), .int .i32 (txI I lev (i + 1) j 1), .int .i32 (txI I lev (i + 1) j 2), .int .i32 (txI I lev (i + 1) j 3)] rfl rfl 30 _ (unhide RBb) size35 rfl (by simp [Value.oneCell']) ?_
          refine hK.out _ _ (ext_row HS (unhide RLb)) (fun _ => ?_)
          clear hK KK
          have RBa := hide (Blk.rowOther (cs' := #[.int .i32 (txI I lev (i + 1) j 0), .int .i32 (txI I lev (i + 1) j 1), .int .i32 (txI I lev (i + 1) j 2), .int .i32 (txI I lev (i + 1) j 3)]) (unhide RBa) (unhide NE))
          have RBb := hide (Blk.row (cs' := #[.int .i32 (txI I lev (i + 1) j 0), .int .i32 (txI I lev (i + 1) j 1), .int .i32 (txI I lev (i + 1) j 2), .int .i32 (txI I lev (i + 1) j 3)]) (unhide RBb))
          have HS2 := ext_row (cs := #[.int .i32 (txI I lev (i + 1) j 0), .int .i32 (txI I lev (i + 1) j 1), .int .i32 (txI I lev (i + 1) j 2), .int .i32 (txI I lev (i + 1) j 3)]) HS (unhide RLb)
          clear HS
          have HS := HS2
          clear HS2
          try simp only [Act.put, List.setIfInBounds_toArray, List.set_cons_zero, List.set_cons_succ]
          refine wpAnyH_done (by kernel_rfl) ?_ _
          refine NoPanic.normal ?_
          go_wp2
          go_meet
          exact ⟨_, _, _, rfl, rfl, rfl, unhide RBa, unhide RBb, HS⟩
        · refine Eq.mpr (if_pos (by rfl)) ?_
          go_simp
          refine hK.out _ (ws.alloc (.cells #[.int .i32 0, .int .i32 0, .int .i32 0, .int .i32 0] 30)) (HS.alloc _) (fun _ => ?_)
          clear hK KK
          have RBb := hide (Blk.new ws #[.int .i32 0, .int .i32 0, .int .i32 0, .int .i32 0] 30)
          have RLb := hide (Below.size HS)
          have HS2 := HS.alloc (.cells #[.int .i32 0, .int .i32 0, .int .i32 0, .int .i32 0] 30)
          clear HS
          have HS := HS2
          clear HS2
          generalize ws.alloc (.cells #[.int .i32 0, .int .i32 0, .int .i32 0, .int .i32 0] 30) = wa at HS RBb ⊢
          try simp only [Act.put, List.setIfInBounds_toArray, List.set_cons_zero, List.set_cons_succ]
          refine wpAnyH_ready (rs := [11]) (by kernel_rfl) (by simp) (AllReadyH.cons (o := { dst := some 16, op := Op.alloc 30, type := 0, pos := _, after := _, guard := none }) rfl (fun KK hK => ?_) AllReadyH.nil)
          refine Eq.mpr (if_pos (by rfl)) ?_
          go_simp
          refine hK.out _ (wa.alloc (.cells #[.int .i32 0, .int .i32 0, .int .i32 0, .int .i32 0] 30)) (HS.alloc _) (fun _ => ?_)
          clear hK KK
          have NE := hide (show _ ≠ _ from Nat.ne_of_lt (unhide RBb).lt)
          have RBb := hide ((unhide RBb).alloc (.cells #[.int .i32 0, .int .i32 0, .int .i32 0, .int .i32 0] 30))
          have RBa := hide (Blk.new wa #[.int .i32 0, .int .i32 0, .int .i32 0, .int .i32 0] 30)
          have RLa := hide (Below.size HS)
          have HS2 := HS.alloc (.cells #[.int .i32 0, .int .i32 0, .int .i32 0, .int .i32 0] 30)
          clear HS
          have HS := HS2
          clear HS2
          generalize wa.alloc (.cells #[.int .i32 0, .int .i32 0, .int .i32 0, .int .i32 0] 30) = wa at HS RBb RBa ⊢
          try simp only [Act.put, List.setIfInBounds_toArray, List.set_cons_zero, List.set_cons_succ]
          refine wpAnyH_ready (rs := [13]) (by kernel_rfl) (by simp) (AllReadyH.cons (o := { dst := none, op := Op.store 30 (Operand.tmp 16) (Operand.tmp 56), type := 0, pos := _, after := _, guard := none }) rfl (fun KK hK => ?_) AllReadyH.nil)
          refine Eq.mpr (if_pos (by rfl)) ?_
          refine wp_store_row 30 (.tmp 16) (.tmp 56) rfl _ #[.int .i32 (txI I lev i j 0), .int .i32 (txI I lev i j 1), .int .i32 (txI I lev i j 2), .int .i32 (txI I lev i j 3)] rfl rfl 30 _ (unhide RBa) size35 rfl (by simp [Value.oneCell']) ?_
          refine hK.out _ _ (ext_row HS (unhide RLa)) (fun _ => ?_)
          clear hK KK
          have RBb := hide (Blk.rowOther (cs' := #[.int .i32 (txI I lev i j 0), .int .i32 (txI I lev i j 1), .int .i32 (txI I lev i j 2), .int .i32 (txI I lev i j 3)]) (unhide RBb) (unhide NE))
          have RBa := hide (Blk.row (cs' := #[.int .i32 (txI I lev i j 0), .int .i32 (txI I lev i j 1), .int .i32 (txI I lev i j 2), .int .i32 (txI I lev i j 3)]) (unhide RBa))
          have HS2 := ext_row (cs := #[.int .i32 (txI I lev i j 0), .int .i32 (txI I lev i j 1), .int .i32 (txI I lev i j 2), .int .i32 (txI I lev i j 3)]) HS (unhide RLa)
          clear HS
          have HS := HS2
          clear HS2
          try simp only [Act.put, List.setIfInBounds_toArray, List.set_cons_zero, List.set_cons_succ]
          refine wpAnyH_ready (rs := [14]) (by kernel_rfl) (by simp) (AllReadyH.cons (o := { dst := none, op := Op.store 30 (Operand.tmp 17) (Operand.tmp 62), type := 0, pos := _, after := _, guard := none }) rfl (fun KK hK => ?_) AllReadyH.nil)
          refine Eq.mpr (if_pos (by rfl)) ?_
          refine wp_store_row 30 (.tmp 17) (.tmp 62) rfl _ #[.int .i32 (txI I lev (i + 1) j 0), .int .i32 (txI I lev (i + 1) j 1), .int .i32 (txI I lev (i + 1) j 2), .int .i32 (txI I lev (i + 1) j 3)] rfl rfl 30 _ (unhide RBb) size35 rfl (by simp [Value.oneCell']) ?_
          refine hK.out _ _ (ext_row HS (unhide RLb)) (fun _ => ?_)
          clear hK KK
          have RBa := hide (Blk.rowOther (cs' := #[.int .i32 (txI I lev (i + 1) j 0), .int .i32 (txI I lev (i + 1) j 1), .int .i32 (txI I lev (i + 1) j 2), .int .i32 (txI I lev (i + 1) j 3)]) (unhide RBa) (Ne.symm (unhide NE)))
          have RBb := hide (Blk.row (cs' := #[.int .i32 (txI I lev (i + 1) j 0), .int .i32 (txI I lev (i + 1) j 1), .int .i32 (txI I lev (i + 1) j 2), .int .i32 (txI I lev (i + 1) j 3)]) (unhide RBb))
          have HS2 := ext_row (cs := #[.int .i32 (txI I lev (i + 1) j 0), .int .i32 (txI I lev (i + 1) j 1), .int .i32 (txI I lev (i + 1) j 2), .int .i32 (txI I lev (i + 1) j 3)]) HS (unhide RLb)
          clear HS
          have HS := HS2
          clear HS2
          try simp only [Act.put, List.setIfInBounds_toArray, List.set_cons_zero, List.set_cons_succ]
          refine wpAnyH_done (by kernel_rfl) ?_ _
          refine NoPanic.normal ?_
          go_wp2
          go_meet
          exact ⟨_, _, _, rfl, rfl, rfl, unhide RBa, unhide RBb, HS⟩
      · refine Eq.mpr (if_pos (by rfl)) ?_
        go_simp
        refine hK.out _ (ws.alloc (.cells #[.int .i32 0, .int .i32 0, .int .i32 0, .int .i32 0] 30)) (HS.alloc _) (fun _ => ?_)
        clear hK KK
        have RBa := hide (Blk.new ws #[.int .i32 0, .int .i32 0, .int .i32 0, .int .i32 0] 30)
        have RLa := hide (Below.size HS)
        have HS2 := HS.alloc (.cells #[.int .i32 0, .int .i32 0, .int .i32 0, .int .i32 0] 30)
        clear HS
        have HS := HS2
        clear HS2
        generalize ws.alloc (.cells #[.int .i32 0, .int .i32 0, .int .i32 0, .int .i32 0] 30) = wa at HS RBa ⊢
        try simp only [Act.put, List.setIfInBounds_toArray, List.set_cons_zero, List.set_cons_succ]
        refine wpAnyH_ready (rs := [10, 12]) (by kernel_rfl) (by simp) (AllReadyH.cons (o := { dst := some 62, op := Op.call { callee := Callee.value (Operand.func 25), args := #[Operand.tmp 57, Operand.tmp 58, Operand.tmp 60, Operand.tmp 61], argTypes := #[24, 3, 2, 2] }, type := 30, pos := _, after := _, guard := none }) rfl (fun KK hK => ?_) (AllReadyH.cons (o := { dst := some 17, op := Op.alloc 30, type := 0, pos := _, after := _, guard := none }) rfl (fun KK hK => ?_) AllReadyH.nil))
        · go_simp
          refine ((unhide HTX _ HS).2).mono ?_
          rintro e ws ⟨rfl, hxs⟩
          have RBa := hide ((unhide RBa).ext hxs)
          have HS2 := HS.trans hxs
          clear hxs HS
          have HS := HS2
          clear HS2
          refine hK.out _ _ HS (fun _ => ?_)
          clear hK KK
          try simp only [Act.put, List.setIfInBounds_toArray, List.set_cons_zero, List.set_cons_succ]
          refine wpAnyH_ready (rs := [12]) (by kernel_rfl) (by simp) (AllReadyH.cons (o := { dst := some 17, op := Op.alloc 30, type := 0, pos := _, after := _, guard := none }) rfl (fun KK hK => ?_) AllReadyH.nil)
          refine Eq.mpr (if_pos (by rfl)) ?_
          go_simp
          refine hK.out _ (ws.alloc (.cells #[.int .i32 0, .int .i32 0, .int .i32 0, .int .i32 0] 30)) (HS.alloc _) (fun _ => ?_)
          clear hK KK
          have NE := hide (show _ ≠ _ from Nat.ne_of_lt (unhide RBa).lt)
          have RBa := hide ((unhide RBa).alloc (.cells #[.int .i32 0, .int .i32 0, .int .i32 0, .int .i32 0] 30))
          have RBb := hide (Blk.new ws #[.int .i32 0, .int .i32 0, .int .i32 0, .int .i32 0] 30)
          have RLb := hide (Below.size HS)
          have HS2 := HS.alloc (.cells #[.int .i32 0, .int .i32 0, .int .i32 0, .int .i32 0] 30)
          clear HS
          have HS := HS2
          clear HS2
          generalize ws.alloc (.cells #[.int .i32 0, .int .i32 0, .int .i32 0, .int .i32 0] 30) = wa at HS RBa RBb ⊢
          try simp only [Act.put, List.setIfInBounds_toArray, List.set_cons_zero, List.set_cons_succ]
          refine wpAnyH_ready (rs := [13]) (by kernel_rfl) (by simp) (AllReadyH.cons (o := { dst := none, op := Op.store 30 (Operand.tmp 16) (Operand.tmp 56), type := 0, pos := _, after := _, guard := none }) rfl (fun KK hK => ?_) AllReadyH.nil)
          refine Eq.mpr (if_pos (by rfl)) ?_
          refine wp_store_row 30 (.tmp 16) (.tmp 56) rfl _ #[.int .i32 (txI I lev i j 0), .int .i32 (txI I lev i j 1), .int .i32 (txI I lev i j 2), .int .i32 (txI I lev i j 3)] rfl rfl 30 _ (unhide RBa) size35 rfl (by simp [Value.oneCell']) ?_
          refine hK.out _ _ (ext_row HS (unhide RLa)) (fun _ => ?_)
          clear hK KK
          have RBb := hide (Blk.rowOther (cs' := #[.int .i32 (txI I lev i j 0), .int .i32 (txI I lev i j 1), .int .i32 (txI I lev i j 2), .int .i32 (txI I lev i j 3)]) (unhide RBb) (Ne.symm (unhide NE)))
          have RBa := hide (Blk.row (cs' := #[.int .i32 (txI I lev i j 0), .int .i32 (txI I lev i j 1), .int .i32 (txI I lev i j 2), .int .i32 (txI I lev i j 3)]) (unhide RBa))
          have HS2 := ext_row (cs := #[.int .i32 (txI I lev i j 0), .int .i32 (txI I lev i j 1), .int .i32 (txI I lev i j 2), .int .i32 (txI I lev i j 3)]) HS (unhide RLa)
          clear HS
          have HS := HS2
          clear HS2
          try simp only [Act.put, List.setIfInBounds_toArray, List.set_cons_zero, List.set_cons_succ]
          refine wpAnyH_ready (rs := [14]) (by kernel_rfl) (by simp) (AllReadyH.cons (o := { dst := none, op := Op.store 30 (Operand.tmp 17) (Operand.tmp 62), type := 0, pos := _, after := _, guard := none }) rfl (fun KK hK => ?_) AllReadyH.nil)
          refine Eq.mpr (if_pos (by rfl)) ?_
          refine wp_store_row 30 (.tmp 17) (.tmp 62) rfl _ #[.int .i32 (txI I lev (i + 1) j 0), .int .i32 (txI I lev (i + 1) j 1), .int .i32 (txI I lev (i + 1) j 2), .int .i32 (txI I lev (i + 1) j 3)] rfl rfl 30 _ (unhide RBb) size35 rfl (by simp [Value.oneCell']) ?_
          refine hK.out _ _ (ext_row HS (unhide RLb)) (fun _ => ?_)
          clear hK KK
          have RBa := hide (Blk.rowOther (cs' := #[.int .i32 (txI I lev (i + 1) j 0), .int .i32 (txI I lev (i + 1) j 1), .int .i32 (txI I lev (i + 1) j 2), .int .i32 (txI I lev (i + 1) j 3)]) (unhide RBa) (unhide NE))
          have RBb := hide (Blk.row (cs' := #[.int .i32 (txI I lev (i + 1) j 0), .int .i32 (txI I lev (i + 1) j 1), .int .i32 (txI I lev (i + 1) j 2), .int .i32 (txI I lev (i + 1) j 3)]) (unhide RBb))
          have HS2 := ext_row (cs := #[.int .i32 (txI I lev (i + 1) j 0), .int .i32 (txI I lev (i + 1) j 1), .int .i32 (txI I lev (i + 1) j 2), .int .i32 (txI I lev (i + 1) j 3)]) HS (unhide RLb)
          clear HS
          have HS := HS2
          clear HS2
          try simp only [Act.put, List.setIfInBounds_toArray, List.set_cons_zero, List.set_cons_succ]
          refine wpAnyH_done (by kernel_rfl) ?_ _
          refine NoPanic.normal ?_
          go_wp2
          go_meet
          exact ⟨_, _, _, rfl, rfl, rfl, unhide RBa, unhide RBb, HS⟩
        · refine Eq.mpr (if_pos (by rfl)) ?_
          go_simp
          refine hK.out _ (wa.alloc (.cells #[.int .i32 0, .int .i32 0, .int .i32 0, .int .i32 0] 30)) (HS.alloc _) (fun _ => ?_)
          clear hK KK
          have NE := hide (show _ ≠ _ from Nat.ne_of_lt (unhide RBa).lt)
          have RBa := hide ((unhide RBa).alloc (.cells #[.int .i32 0, .int .i32 0, .int .i32 0, .int .i32 0] 30))
          have RBb := hide (Blk.new wa #[.int .i32 0, .int .i32 0, .int .i32 0, .int .i32 0] 30)
          have RLb := hide (Below.size HS)
          have HS2 := HS.alloc (.cells #[.int .i32 0, .int .i32 0, .int .i32 0, .int .i32 0] 30)
          clear HS
          have HS := HS2
          clear HS2
          generalize wa.alloc (.cells #[.int .i32 0, .int .i32 0, .int .i32 0, .int .i32 0] 30) = wa at HS RBa RBb ⊢
          try simp only [Act.put, List.setIfInBounds_toArray, List.set_cons_zero, List.set_cons_succ]
          refine wpAnyH_ready (rs := [10]) (by kernel_rfl) (by simp) (AllReadyH.cons (o := { dst := some 62, op := Op.call { callee := Callee.value (Operand.func 25), args := #[Operand.tmp 57, Operand.tmp 58, Operand.tmp 60, Operand.tmp 61], argTypes := #[24, 3, 2, 2] }, type := 30, pos := _, after := _, guard := none }) rfl (fun KK hK => ?_) AllReadyH.nil)
          go_simp
          refine ((unhide HTX _ HS).2).mono ?_
          rintro e ws ⟨rfl, hxs⟩
          have RBa := hide ((unhide RBa).ext hxs)
          have RBb := hide ((unhide RBb).ext hxs)
          have HS2 := HS.trans hxs
          clear hxs HS
          have HS := HS2
          clear HS2
          refine hK.out _ _ HS (fun _ => ?_)
          clear hK KK
          try simp only [Act.put, List.setIfInBounds_toArray, List.set_cons_zero, List.set_cons_succ]
          refine wpAnyH_ready (rs := [13]) (by kernel_rfl) (by simp) (AllReadyH.cons (o := { dst := none, op := Op.store 30 (Operand.tmp 16) (Operand.tmp 56), type := 0, pos := _, after := _, guard := none }) rfl (fun KK hK => ?_) AllReadyH.nil)
          refine Eq.mpr (if_pos (by rfl)) ?_
          refine wp_store_row 30 (.tmp 16) (.tmp 56) rfl _ #[.int .i32 (txI I lev i j 0), .int .i32 (txI I lev i j 1), .int .i32 (txI I lev i j 2), .int .i32 (txI I lev i j 3)] rfl rfl 30 _ (unhide RBa) size35 rfl (by simp [Value.oneCell']) ?_
          refine hK.out _ _ (ext_row HS (unhide RLa)) (fun _ => ?_)
          clear hK KK
          have RBb := hide (Blk.rowOther (cs' := #[.int .i32 (txI I lev i j 0), .int .i32 (txI I lev i j 1), .int .i32 (txI I lev i j 2), .int .i32 (txI I lev i j 3)]) (unhide RBb) (Ne.symm (unhide NE)))
          have RBa := hide (Blk.row (cs' := #[.int .i32 (txI I lev i j 0), .int .i32 (txI I lev i j 1), .int .i32 (txI I lev i j 2), .int .i32 (txI I lev i j 3)]) (unhide RBa))
          have HS2 := ext_row (cs := #[.int .i32 (txI I lev i j 0), .int .i32 (txI I lev i j 1), .int .i32 (txI I lev i j 2), .int .i32 (txI I lev i j 3)]) HS (unhide RLa)
          clear HS
          have HS := HS2
          clear HS2
          try simp only [Act.put, List.setIfInBounds_toArray, List.set_cons_zero, List.set_cons_succ]
          refine wpAnyH_ready (rs := [14]) (by kernel_rfl) (by simp) (AllReadyH.cons (o := { dst := none, op := Op.store 30 (Operand.tmp 17) (Operand.tmp 62), type := 0, pos := _, after := _, guard := none }) rfl (fun KK hK => ?_) AllReadyH.nil)
          refine Eq.mpr (if_pos (by rfl)) ?_
          refine wp_store_row 30 (.tmp 17) (.tmp 62) rfl _ #[.int .i32 (txI I lev (i + 1) j 0), .int .i32 (txI I lev (i + 1) j 1), .int .i32 (txI I lev (i + 1) j 2), .int .i32 (txI I lev (i + 1) j 3)] rfl rfl 30 _ (unhide RBb) size35 rfl (by simp [Value.oneCell']) ?_
          refine hK.out _ _ (ext_row HS (unhide RLb)) (fun _ => ?_)
          clear hK KK
          have RBa := hide (Blk.rowOther (cs' := #[.int .i32 (txI I lev (i + 1) j 0), .int .i32 (txI I lev (i + 1) j 1), .int .i32 (txI I lev (i + 1) j 2), .int .i32 (txI I lev (i + 1) j 3)]) (unhide RBa) (unhide NE))
          have RBb := hide (Blk.row (cs' := #[.int .i32 (txI I lev (i + 1) j 0), .int .i32 (txI I lev (i + 1) j 1), .int .i32 (txI I lev (i + 1) j 2), .int .i32 (txI I lev (i + 1) j 3)]) (unhide RBb))
          have HS2 := ext_row (cs := #[.int .i32 (txI I lev (i + 1) j 0), .int .i32 (txI I lev (i + 1) j 1), .int .i32 (txI I lev (i + 1) j 2), .int .i32 (txI I lev (i + 1) j 3)]) HS (unhide RLb)
          clear HS
          have HS := HS2
          clear HS2
          try simp only [Act.put, List.setIfInBounds_toArray, List.set_cons_zero, List.set_cons_succ]
          refine wpAnyH_done (by kernel_rfl) ?_ _
          refine NoPanic.normal ?_
          go_wp2
          go_meet
          exact ⟨_, _, _, rfl, rfl, rfl, unhide RBa, unhide RBb, HS⟩
      · refine Eq.mpr (if_pos (by rfl)) ?_
        go_simp
        refine hK.out _ (ws.alloc (.cells #[.int .i32 0, .int .i32 0, .int .i32 0, .int .i32 0] 30)) (HS.alloc _) (fun _ => ?_)
        clear hK KK
        have RBb := hide (Blk.new ws #[.int .i32 0, .int .i32 0, .int .i32 0, .int .i32 0] 30)
        have RLb := hide (Below.size HS)
        have HS2 := HS.alloc (.cells #[.int .i32 0, .int .i32 0, .int .i32 0, .int .i32 0] 30)
        clear HS
        have HS := HS2
        clear HS2
        generalize ws.alloc (.cells #[.int .i32 0, .int .i32 0, .int .i32 0, .int .i32 0] 30) = wa at HS RBb ⊢
        try simp only [Act.put, List.setIfInBounds_toArray, List.set_cons_zero, List.set_cons_succ]
        refine wpAnyH_ready (rs := [10, 11]) (by kernel_rfl) (by simp) (AllReadyH.cons (o := { dst := some 62, op := Op.call { callee := Callee.value (Operand.func 25), args := #[Operand.tmp 57, Operand.tmp 58, Operand.tmp 60, Operand.tmp 61], argTypes := #[24, 3, 2, 2] }, type := 30, pos := _, after := _, guard := none }) rfl (fun KK hK => ?_) (AllReadyH.cons (o := { dst := some 16, op := Op.alloc 30, type := 0, pos := _, after := _, guard := none }) rfl (fun KK hK => ?_) AllReadyH.nil))
        · go_simp
          refine ((unhide HTX _ HS).2).mono ?_
          rintro e ws ⟨rfl, hxs⟩
          have RBb := hide ((unhide RBb).ext hxs)
          have HS2 := HS.trans hxs
          clear hxs HS
          have HS := HS2
          clear HS2
          refine hK.out _ _ HS (fun _ => ?_)
          clear hK KK
          try simp only [Act.put, List.setIfInBounds_toArray, List.set_cons_zero, List.set_cons_succ]
          refine wpAnyH_ready (rs := [11]) (by kernel_rfl) (by simp) (AllReadyH.cons (o := { dst := some 16, op := Op.alloc 30, type := 0, pos := _, after := _, guard := none }) rfl (fun KK hK => ?_) AllReadyH.nil)
          refine Eq.mpr (if_pos (by rfl)) ?_
          go_simp
          refine hK.out _ (ws.alloc (.cells #[.int .i32 0, .int .i32 0, .int .i32 0, .int .i32 0] 30)) (HS.alloc _) (fun _ => ?_)
          clear hK KK
          have NE := hide (show _ ≠ _ from Nat.ne_of_lt (unhide RBb).lt)
          have RBb := hide ((unhide RBb).alloc (.cells #[.int .i32 0, .int .i32 0, .int .i32 0, .int .i32 0] 30))
          have RBa := hide (Blk.new ws #[.int .i32 0, .int .i32 0, .int .i32 0, .int .i32 0] 30)
          have RLa := hide (Below.size HS)
          have HS2 := HS.alloc (.cells #[.int .i32 0, .int .i32 0, .int .i32 0, .int .i32 0] 30)
          clear HS
          have HS := HS2
          clear HS2
          generalize ws.alloc (.cells #[.int .i32 0, .int .i32 0, .int .i32 0, .int .i32 0] 30) = wa at HS RBb RBa ⊢
          try simp only [Act.put, List.setIfInBounds_toArray, List.set_cons_zero, List.set_cons_succ]
          refine wpAnyH_ready (rs := [13]) (by kernel_rfl) (by simp) (AllReadyH.cons (o := { dst := none, op := Op.store 30 (Operand.tmp 16) (Operand.tmp 56), type := 0, pos := _, after := _, guard := none }) rfl (fun KK hK => ?_) AllReadyH.nil)
          refine Eq.mpr (if_pos (by rfl)) ?_
          refine wp_store_row 30 (.tmp 16) (.tmp 56) rfl _ #[.int .i32 (txI I lev i j 0), .int .i32 (txI I lev i j 1), .int .i32 (txI I lev i j 2), .int .i32 (txI I lev i j 3)] rfl rfl 30 _ (unhide RBa) size35 rfl (by simp [Value.oneCell']) ?_
          refine hK.out _ _ (ext_row HS (unhide RLa)) (fun _ => ?_)
          clear hK KK
          have RBb := hide (Blk.rowOther (cs' := #[.int .i32 (txI I lev i j 0), .int .i32 (txI I lev i j 1), .int .i32 (txI I lev i j 2), .int .i32 (txI I lev i j 3)]) (unhide RBb) (unhide NE))
          have RBa := hide (Blk.row (cs' := #[.int .i32 (txI I lev i j 0), .int .i32 (txI I lev i j 1), .int .i32 (txI I lev i j 2), .int .i32 (txI I lev i j 3)]) (unhide RBa))
          have HS2 := ext_row (cs := #[.int .i32 (txI I lev i j 0), .int .i32 (txI I lev i j 1), .int .i32 (txI I lev i j 2), .int .i32 (txI I lev i j 3)]) HS (unhide RLa)
          clear HS
          have HS := HS2
          clear HS2
          try simp only [Act.put, List.setIfInBounds_toArray, List.set_cons_zero, List.set_cons_succ]
          refine wpAnyH_ready (rs := [14]) (by kernel_rfl) (by simp) (AllReadyH.cons (o := { dst := none, op := Op.store 30 (Operand.tmp 17) (Operand.tmp 62), type := 0, pos := _, after := _, guard := none }) rfl (fun KK hK => ?_) AllReadyH.nil)
          refine Eq.mpr (if_pos (by rfl)) ?_
          refine wp_store_row 30 (.tmp 17) (.tmp 62) rfl _ #[.int .i32 (txI I lev (i + 1) j 0), .int .i32 (txI I lev (i + 1) j 1), .int .i32 (txI I lev (i + 1) j 2), .int .i32 (txI I lev (i + 1) j 3)] rfl rfl 30 _ (unhide RBb) size35 rfl (by simp [Value.oneCell']) ?_
          refine hK.out _ _ (ext_row HS (unhide RLb)) (fun _ => ?_)
          clear hK KK
          have RBa := hide (Blk.rowOther (cs' := #[.int .i32 (txI I lev (i + 1) j 0), .int .i32 (txI I lev (i + 1) j 1), .int .i32 (txI I lev (i + 1) j 2), .int .i32 (txI I lev (i + 1) j 3)]) (unhide RBa) (Ne.symm (unhide NE)))
          have RBb := hide (Blk.row (cs' := #[.int .i32 (txI I lev (i + 1) j 0), .int .i32 (txI I lev (i + 1) j 1), .int .i32 (txI I lev (i + 1) j 2), .int .i32 (txI I lev (i + 1) j 3)]) (unhide RBb))
          have HS2 := ext_row (cs := #[.int .i32 (txI I lev (i + 1) j 0), .int .i32 (txI I lev (i + 1) j 1), .int .i32 (txI I lev (i + 1) j 2), .int .i32 (txI I lev (i + 1) j 3)]) HS (unhide RLb)
          clear HS
          have HS := HS2
          clear HS2
          try simp only [Act.put, List.setIfInBounds_toArray, List.set_cons_zero, List.set_cons_succ]
          refine wpAnyH_done (by kernel_rfl) ?_ _
          refine NoPanic.normal ?_
          go_wp2
          go_meet
          exact ⟨_, _, _, rfl, rfl, rfl, unhide RBa, unhide RBb, HS⟩
        · refine Eq.mpr (if_pos (by rfl)) ?_
          go_simp
          refine hK.out _ (wa.alloc (.cells #[.int .i32 0, .int .i32 0, .int .i32 0, .int .i32 0] 30)) (HS.alloc _) (fun _ => ?_)
          clear hK KK
          have NE := hide (show _ ≠ _ from Nat.ne_of_lt (unhide RBb).lt)
          have RBb := hide ((unhide RBb).alloc (.cells #[.int .i32 0, .int .i32 0, .int .i32 0, .int .i32 0] 30))
          have RBa := hide (Blk.new wa #[.int .i32 0, .int .i32 0, .int .i32 0, .int .i32 0] 30)
          have RLa := hide (Below.size HS)
          have HS2 := HS.alloc (.cells #[.int .i32 0, .int .i32 0, .int .i32 0, .int .i32 0] 30)
          clear HS
          have HS := HS2
          clear HS2
          generalize wa.alloc (.cells #[.int .i32 0, .int .i32 0, .int .i32 0, .int .i32 0] 30) = wa at HS RBb RBa ⊢
          try simp only [Act.put, List.setIfInBounds_toArray, List.set_cons_zero, List.set_cons_succ]
          refine wpAnyH_ready (rs := [10]) (by kernel_rfl) (by simp) (AllReadyH.cons (o := { dst := some 62, op := Op.call { callee := Callee.value (Operand.func 25), args := #[Operand.tmp 57, Operand.tmp 58, Operand.tmp 60, Operand.tmp 61], argTypes := #[24, 3, 2, 2] }, type := 30, pos := _, after := _, guard := none }) rfl (fun KK hK => ?_) AllReadyH.nil)
          go_simp
          refine ((unhide HTX _ HS).2).mono ?_
          rintro e ws ⟨rfl, hxs⟩
          have RBb := hide ((unhide RBb).ext hxs)
          have RBa := hide ((unhide RBa).ext hxs)
          have HS2 := HS.trans hxs
          clear hxs HS
          have HS := HS2
          clear HS2
          refine hK.out _ _ HS (fun _ => ?_)
          clear hK KK
          try simp only [Act.put, List.setIfInBounds_toArray, List.set_cons_zero, List.set_cons_succ]
          refine wpAnyH_ready (rs := [13]) (by kernel_rfl) (by simp) (AllReadyH.cons (o := { dst := none, op := Op.store 30 (Operand.tmp 16) (Operand.tmp 56), type := 0, pos := _, after := _, guard := none }) rfl (fun KK hK => ?_) AllReadyH.nil)
          refine Eq.mpr (if_pos (by rfl)) ?_
          refine wp_store_row 30 (.tmp 16) (.tmp 56) rfl _ #[.int .i32 (txI I lev i j 0), .int .i32 (txI I lev i j 1), .int .i32 (txI I lev i j 2), .int .i32 (txI I lev i j 3)] rfl rfl 30 _ (unhide RBa) size35 rfl (by simp [Value.oneCell']) ?_
          refine hK.out _ _ (ext_row HS (unhide RLa)) (fun _ => ?_)
          clear hK KK
          have RBb := hide (Blk.rowOther (cs' := #[.int .i32 (txI I lev i j 0), .int .i32 (txI I lev i j 1), .int .i32 (txI I lev i j 2), .int .i32 (txI I lev i j 3)]) (unhide RBb) (unhide NE))
          have RBa := hide (Blk.row (cs' := #[.int .i32 (txI I lev i j 0), .int .i32 (txI I lev i j 1), .int .i32 (txI I lev i j 2), .int .i32 (txI I lev i j 3)]) (unhide RBa))
          have HS2 := ext_row (cs := #[.int .i32 (txI I lev i j 0), .int .i32 (txI I lev i j 1), .int .i32 (txI I lev i j 2), .int .i32 (txI I lev i j 3)]) HS (unhide RLa)
          clear HS
          have HS := HS2
          clear HS2
          try simp only [Act.put, List.setIfInBounds_toArray, List.set_cons_zero, List.set_cons_succ]
          refine wpAnyH_ready (rs := [14]) (by kernel_rfl) (by simp) (AllReadyH.cons (o := { dst := none, op := Op.store 30 (Operand.tmp 17) (Operand.tmp 62), type := 0, pos := _, after := _, guard := none }) rfl (fun KK hK => ?_) AllReadyH.nil)
          refine Eq.mpr (if_pos (by rfl)) ?_
          refine wp_store_row 30 (.tmp 17) (.tmp 62) rfl _ #[.int .i32 (txI I lev (i + 1) j 0), .int .i32 (txI I lev (i + 1) j 1), .int .i32 (txI I lev (i + 1) j 2), .int .i32 (txI I lev (i + 1) j 3)] rfl rfl 30 _ (unhide RBb) size35 rfl (by simp [Value.oneCell']) ?_
          refine hK.out _ _ (ext_row HS (unhide RLb)) (fun _ => ?_)
          clear hK KK
          have RBa := hide (Blk.rowOther (cs' := #[.int .i32 (txI I lev (i + 1) j 0), .int .i32 (txI I lev (i + 1) j 1), .int .i32 (txI I lev (i + 1) j 2), .int .i32 (txI I lev (i + 1) j 3)]) (unhide RBa) (Ne.symm (unhide NE)))
          have RBb := hide (Blk.row (cs' := #[.int .i32 (txI I lev (i + 1) j 0), .int .i32 (txI I lev (i + 1) j 1), .int .i32 (txI I lev (i + 1) j 2), .int .i32 (txI I lev (i + 1) j 3)]) (unhide RBb))
          have HS2 := ext_row (cs := #[.int .i32 (txI I lev (i + 1) j 0), .int .i32 (txI I lev (i + 1) j 1), .int .i32 (txI I lev (i + 1) j 2), .int .i32 (txI I lev (i + 1) j 3)]) HS (unhide RLb)
          clear HS
          have HS := HS2
          clear HS2
          try simp only [Act.put, List.setIfInBounds_toArray, List.set_cons_zero, List.set_cons_succ]
          refine wpAnyH_done (by kernel_rfl) ?_ _
          refine NoPanic.normal ?_
          go_wp2
          go_meet
          exact ⟨_, _, _, rfl, rfl, rfl, unhide RBa, unhide RBb, HS⟩
    · refine Eq.mpr (if_pos (by rfl)) ?_
      go_simp
      refine hK.out _ (w3.drew.alloc (.cells #[.int .i32 0, .int .i32 0, .int .i32 0, .int .i32 0] 30)) (HS.alloc _) (fun _ => ?_)
      clear hK KK
      have RBa := hide (Blk.new w3.drew #[.int .i32 0, .int .i32 0, .int .i32 0, .int .i32 0] 30)
      have RLa := hide (Below.size HS)
      have HS2 := HS.alloc (.cells #[.int .i32 0, .int .i32 0, .int .i32 0, .int .i32 0] 30)
      clear HS
      have HS := HS2
      clear HS2
      generalize w3.drew.alloc (.cells #[.int .i32 0, .int .i32 0, .int .i32 0, .int .i32 0] 30) = wa at HS RBa ⊢
      try simp only [Act.put, List.setIfInBounds_toArray, List.set_cons_zero, List.set_cons_succ]
      refine wpAnyH_ready (rs := [4, 12]) (by kernel_rfl) (by simp) (AllReadyH.cons (o := { dst := some 56, op := Op.call { callee := Callee.value (Operand.func 25), args := #[Operand.tmp 52, Operand.tmp 53, Operand.tmp 54, Operand.tmp 55], argTypes := #[24, 3, 2, 2] }, type := 30, pos := _, after := _, guard := none }) rfl (fun KK hK => ?_) (AllReadyH.cons (o := { dst := some 17, op := Op.alloc 30, type := 0, pos := _, after := _, guard := none }) rfl (fun KK hK => ?_) AllReadyH.nil))
      · go_simp
        refine ((unhide HTX _ HS).1).mono ?_
        rintro e ws ⟨rfl, hxs⟩
        have RBa := hide ((unhide RBa).ext hxs)
        have HS2 := HS.trans hxs
        clear hxs HS
        have HS := HS2
        clear HS2
        refine hK.out _ _ HS (fun _ => ?_)
        clear hK KK
        try simp only [Act.put, List.setIfInBounds_toArray, List.set_cons_zero, List.set_cons_succ]
        refine wpAnyH_ready (rs := [10, 12]) (by kernel_rfl) (by simp) (AllReadyH.cons (o := { dst := some 62, op := Op.call { callee := Callee.value (Operand.func 25), args := #[Operand.tmp 57, Operand.tmp 58, Operand.tmp 60, Operand.tmp 61], argTypes := #[24, 3, 2, 2] }, type := 30, pos := _, after := _, guard := none }) rfl (fun KK hK => ?_) (AllReadyH.cons (o := { dst := some 17, op := Op.alloc 30, type := 0, pos := _, after := _, guard := none }) rfl (fun KK hK => ?_) AllReadyH.nil))
        · go_simp
          refine ((unhide HTX _ HS).2).mono ?_
          rintro e ws ⟨rfl, hxs⟩
          have RBa := hide ((unhide RBa).ext hxs)
          have HS2 := HS.trans hxs
          clear hxs HS
          have HS := HS2
          clear HS2
          refine hK.out _ _ HS (fun _ => ?_)
          clear hK KK
          try simp only [Act.put, List.setIfInBounds_toArray, List.set_cons_zero, List.set_cons_succ]
          refine wpAnyH_ready (rs := [12]) (by kernel_rfl) (by simp) (AllReadyH.cons (o := { dst := some 17, op := Op.alloc 30, type := 0, pos := _, after := _, guard := none }) rfl (fun KK hK => ?_) AllReadyH.nil)
          refine Eq.mpr (if_pos (by rfl)) ?_
          go_simp
          refine hK.out _ (ws.alloc (.cells #[.int .i32 0, .int .i32 0, .int .i32 0, .int .i32 0] 30)) (HS.alloc _) (fun _ => ?_)
          clear hK KK
          have NE := hide (show _ ≠ _ from Nat.ne_of_lt (unhide RBa).lt)
          have RBa := hide ((unhide RBa).alloc (.cells #[.int .i32 0, .int .i32 0, .int .i32 0, .int .i32 0] 30))
          have RBb := hide (Blk.new ws #[.int .i32 0, .int .i32 0, .int .i32 0, .int .i32 0] 30)
          have RLb := hide (Below.size HS)
          have HS2 := HS.alloc (.cells #[.int .i32 0, .int .i32 0, .int .i32 0, .int .i32 0] 30)
          clear HS
          have HS := HS2
          clear HS2
          generalize ws.alloc (.cells #[.int .i32 0, .int .i32 0, .int .i32 0, .int .i32 0] 30) = wa at HS RBa RBb ⊢
          try simp only [Act.put, List.setIfInBounds_toArray, List.set_cons_zero, List.set_cons_succ]
          refine wpAnyH_ready (rs := [13]) (by kernel_rfl) (by simp) (AllReadyH.cons (o := { dst := none, op := Op.store 30 (Operand.tmp 16) (Operand.tmp 56), type := 0, pos := _, after := _, guard := none }) rfl (fun KK hK => ?_) AllReadyH.nil)
          refine Eq.mpr (if_pos (by rfl)) ?_
          refine wp_store_row 30 (.tmp 16) (.tmp 56) rfl _ #[.int .i32 (txI I lev i j 0), .int .i32 (txI I lev i j 1), .int .i32 (txI I lev i j 2), .int .i32 (txI I lev i j 3)] rfl rfl 30 _ (unhide RBa) size35 rfl (by simp [Value.oneCell']) ?_
          refine hK.out _ _ (ext_row HS (unhide RLa)) (fun _ => ?_)
          clear hK KK
          have RBb := hide (Blk.rowOther (cs' := #[.int .i32 (txI I lev i j 0), .int .i32 (txI I lev i j 1), .int .i32 (txI I lev i j 2), .int .i32 (txI I lev i j 3)]) (unhide RBb) (Ne.symm (unhide NE)))
          have RBa := hide (Blk.row (cs' := #[.int .i32 (txI I lev i j 0), .int .i32 (txI I lev i j 1), .int .i32 (txI I lev i j 2), .int .i32 (txI I lev i j 3)]) (unhide RBa))
          have HS2 := ext_row (cs := #[.int .i32 (txI I lev i j 0), .int .i32 (txI I lev i j 1), .int .i32 (txI I lev i j 2), .int .i32 (txI I lev i j 3)]) HS (unhide RLa)
          clear HS
          have HS := HS2
          clear HS2
          try simp only [Act.put, List.setIfInBounds_toArray, List.set_cons_zero, List.set_cons_succ]
          refine wpAnyH_ready (rs := [14]) (by kernel_rfl) (by simp) (AllReadyH.cons (o := { dst := none, op := Op.store 30 (Operand.tmp 17) (Operand.tmp 62), type := 0, pos := _, after := _, guard := none }) rfl (fun KK hK => ?_) AllReadyH.nil)
          refine Eq.mpr (if_pos (by rfl)) ?_
          refine wp_store_row 30 (.tmp 17) (.tmp 62) rfl _ #[.int .i32 (txI I lev (i + 1) j 0), .int .i32 (txI I lev (i + 1) j 1), .int .i32 (txI I lev (i + 1) j 2), .int .i32 (txI I lev (i + 1) j 3)] rfl rfl 30 _ (unhide RBb) size35 rfl (by simp [Value.oneCell']) ?_
          refine hK.out _ _ (ext_row HS (unhide RLb)) (fun _ => ?_)
          clear hK KK
          have RBa := hide (Blk.rowOther (cs' := #[.int .i32 (txI I lev (i + 1) j 0), .int .i32 (txI I lev (i + 1) j 1), .int .i32 (txI I lev (i + 1) j 2), .int .i32 (txI I lev (i + 1) j 3)]) (unhide RBa) (unhide NE))
          have RBb := hide (Blk.row (cs' := #[.int .i32 (txI I lev (i + 1) j 0), .int .i32 (txI I lev (i + 1) j 1), .int .i32 (txI I lev (i + 1) j 2), .int .i32 (txI I lev (i + 1) j 3)]) (unhide RBb))
          have HS2 := ext_row (cs := #[.int .i32 (txI I lev (i + 1) j 0), .int .i32 (txI I lev (i + 1) j 1), .int .i32 (txI I lev (i + 1) j 2), .int .i32 (txI I lev (i + 1) j 3)]) HS (unhide RLb)
          clear HS
          have HS := HS2
          clear HS2
          try simp only [Act.put, List.setIfInBounds_toArray, List.set_cons_zero, List.set_cons_succ]
          refine wpAnyH_done (by kernel_rfl) ?_ _
          refine NoPanic.normal ?_
          go_wp2
          go_meet
          exact ⟨_, _, _, rfl, rfl, rfl, unhide RBa, unhide RBb, HS⟩
        · refine Eq.mpr (if_pos (by rfl)) ?_
          go_simp
          refine hK.out _ (ws.alloc (.cells #[.int .i32 0, .int .i32 0, .int .i32 0, .int .i32 0] 30)) (HS.alloc _) (fun _ => ?_)
          clear hK KK
          have NE := hide (show _ ≠ _ from Nat.ne_of_lt (unhide RBa).lt)
          have RBa := hide ((unhide RBa).alloc (.cells #[.int .i32 0, .int .i32 0, .int .i32 0, .int .i32 0] 30))
          have RBb := hide (Blk.new ws #[.int .i32 0, .int .i32 0, .int .i32 0, .int .i32 0] 30)
          have RLb := hide (Below.size HS)
          have HS2 := HS.alloc (.cells #[.int .i32 0, .int .i32 0, .int .i32 0, .int .i32 0] 30)
          clear HS
          have HS := HS2
          clear HS2
          generalize ws.alloc (.cells #[.int .i32 0, .int .i32 0, .int .i32 0, .int .i32 0] 30) = wa at HS RBa RBb ⊢
          try simp only [Act.put, List.setIfInBounds_toArray, List.set_cons_zero, List.set_cons_succ]
          refine wpAnyH_ready (rs := [10]) (by kernel_rfl) (by simp) (AllReadyH.cons (o := { dst := some 62, op := Op.call { callee := Callee.value (Operand.func 25), args := #[Operand.tmp 57, Operand.tmp 58, Operand.tmp 60, Operand.tmp 61], argTypes := #[24, 3, 2, 2] }, type := 30, pos := _, after := _, guard := none }) rfl (fun KK hK => ?_) AllReadyH.nil)
          go_simp
          refine ((unhide HTX _ HS).2).mono ?_
          rintro e ws ⟨rfl, hxs⟩
          have RBa := hide ((unhide RBa).ext hxs)
          have RBb := hide ((unhide RBb).ext hxs)
          have HS2 := HS.trans hxs
          clear hxs HS
          have HS := HS2
          clear HS2
          refine hK.out _ _ HS (fun _ => ?_)
          clear hK KK
          try simp only [Act.put, List.setIfInBounds_toArray, List.set_cons_zero, List.set_cons_succ]
          refine wpAnyH_ready (rs := [13]) (by kernel_rfl) (by simp) (AllReadyH.cons (o := { dst := none, op := Op.store 30 (Operand.tmp 16) (Operand.tmp 56), type := 0, pos := _, after := _, guard := none }) rfl (fun KK hK => ?_) AllReadyH.nil)
          refine Eq.mpr (if_pos (by rfl)) ?_
          refine wp_store_row 30 (.tmp 16) (.tmp 56) rfl _ #[.int .i32 (txI I lev i j 0), .int .i32 (txI I lev i j 1), .int .i32 (txI I lev i j 2), .int .i32 (txI I lev i j 3)] rfl rfl 30 _ (unhide RBa) size35 rfl (by simp [Value.oneCell']) ?_
          refine hK.out _ _ (ext_row HS (unhide RLa)) (fun _ => ?_)
          clear hK KK
          have RBb := hide (Blk.rowOther (cs' := #[.int .i32 (txI I lev i j 0), .int .i32 (txI I lev i j 1), .int .i32 (txI I lev i j 2), .int .i32 (txI I lev i j 3)]) (unhide RBb) (Ne.symm (unhide NE)))
          have RBa := hide (Blk.row (cs' := #[.int .i32 (txI I lev i j 0), .int .i32 (txI I lev i j 1), .int .i32 (txI I lev i j 2), .int .i32 (txI I lev i j 3)]) (unhide RBa))
          have HS2 := ext_row (cs := #[.int .i32 (txI I lev i j 0), .int .i32 (txI I lev i j 1), .int .i32 (txI I lev i j 2), .int .i32 (txI I lev i j 3)]) HS (unhide RLa)
          clear HS
          have HS := HS2
          clear HS2
          try simp only [Act.put, List.setIfInBounds_toArray, List.set_cons_zero, List.set_cons_succ]
          refine wpAnyH_ready (rs := [14]) (by kernel_rfl) (by simp) (AllReadyH.cons (o := { dst := none, op := Op.store 30 (Operand.tmp 17) (Operand.tmp 62), type := 0, pos := _, after := _, guard := none }) rfl (fun KK hK => ?_) AllReadyH.nil)
          refine Eq.mpr (if_pos (by rfl)) ?_
          refine wp_store_row 30 (.tmp 17) (.tmp 62) rfl _ #[.int .i32 (txI I lev (i + 1) j 0), .int .i32 (txI I lev (i + 1) j 1), .int .i32 (txI I lev (i + 1) j 2), .int .i32 (txI I lev (i + 1) j 3)] rfl rfl 30 _ (unhide RBb) size35 rfl (by simp [Value.oneCell']) ?_
          refine hK.out _ _ (ext_row HS (unhide RLb)) (fun _ => ?_)
          clear hK KK
          have RBa := hide (Blk.rowOther (cs' := #[.int .i32 (txI I lev (i + 1) j 0), .int .i32 (txI I lev (i + 1) j 1), .int .i32 (txI I lev (i + 1) j 2), .int .i32 (txI I lev (i + 1) j 3)]) (unhide RBa) (unhide NE))
          have RBb := hide (Blk.row (cs' := #[.int .i32 (txI I lev (i + 1) j 0), .int .i32 (txI I lev (i + 1) j 1), .int .i32 (txI I lev (i + 1) j 2), .int .i32 (txI I lev (i + 1) j 3)]) (unhide RBb))
          have HS2 := ext_row (cs := #[.int .i32 (txI I lev (i + 1) j 0), .int .i32 (txI I lev (i + 1) j 1), .int .i32 (txI I lev (i + 1) j 2), .int .i32 (txI I lev (i + 1) j 3)]) HS (unhide RLb)
          clear HS
          have HS := HS2
          clear HS2
          try simp only [Act.put, List.setIfInBounds_toArray, List.set_cons_zero, List.set_cons_succ]
          refine wpAnyH_done (by kernel_rfl) ?_ _
          refine NoPanic.normal ?_
          go_wp2
          go_meet
          exact ⟨_, _, _, rfl, rfl, rfl, unhide RBa, unhide RBb, HS⟩
      · refine Eq.mpr (if_pos (by rfl)) ?_
        go_simp
        refine hK.out _ (wa.alloc (.cells #[.int .i32 0, .int .i32 0, .int .i32 0, .int .i32 0] 30)) (HS.alloc _) (fun _ => ?_)
        clear hK KK
        have NE := hide (show _ ≠ _ from Nat.ne_of_lt (unhide RBa).lt)
        have RBa := hide ((unhide RBa).alloc (.cells #[.int .i32 0, .int .i32 0, .int .i32 0, .int .i32 0] 30))
        have RBb := hide (Blk.new wa #[.int .i32 0, .int .i32 0, .int .i32 0, .int .i32 0] 30)
        have RLb := hide (Below.size HS)
        have HS2 := HS.alloc (.cells #[.int .i32 0, .int .i32 0, .int .i32 0, .int .i32 0] 30)
        clear HS
        have HS := HS2
        clear HS2
        generalize wa.alloc (.cells #[.int .i32 0, .int .i32 0, .int .i32 0, .int .i32 0] 30) = wa at HS RBa RBb ⊢
        try simp only [Act.put, List.setIfInBounds_toArray, List.set_cons_zero, List.set_cons_succ]
        refine wpAnyH_ready (rs := [4]) (by kernel_rfl) (by simp) (AllReadyH.cons (o := { dst := some 56, op := Op.call { callee := Callee.value (Operand.func 25), args := #[Operand.tmp 52, Operand.tmp 53, Operand.tmp 54, Operand.tmp 55], argTypes := #[24, 3, 2, 2] }, type := 30, pos := _, after := _, guard := none }) rfl (fun KK hK => ?_) AllReadyH.nil)
        go_simp
        refine ((unhide HTX _ HS).1).mono ?_
        rintro e ws ⟨rfl, hxs⟩
        have RBa := hide ((unhide RBa).ext hxs)
        have RBb := hide ((unhide RBb).ext hxs)
        have HS2 := HS.trans hxs
        clear hxs HS
        have HS := HS2
        clear HS2
        refine hK.out _ _ HS (fun _ => ?_)
        clear hK KK
        try simp only [Act.put, List.setIfInBounds_toArray, List.set_cons_zero, List.set_cons_succ]
        refine wpAnyH_ready (rs := [10]) (by kernel_rfl) (by simp) (AllReadyH.cons (o := { dst := some 62, op := Op.call { callee := Callee.value (Operand.func 25), args := #[Operand.tmp 57, Operand.tmp 58, Operand.tmp 60, Operand.tmp 61], argTypes := #[24, 3, 2, 2] }, type := 30, pos := _, after := _, guard := none }) rfl (fun KK hK => ?_) AllReadyH.nil)
        go_simp
        refine ((unhide HTX _ HS).2).mono ?_
        rintro e ws ⟨rfl, hxs⟩
        have RBa := hide ((unhide RBa).ext hxs)
        have RBb := hide ((unhide RBb).ext hxs)
        have HS2 := HS.trans hxs
        clear hxs HS
        have HS := HS2
        clear HS2
        refine hK.out _ _ HS (fun _ => ?_)
        clear hK KK
        try simp only [Act.put, List.setIfInBounds_toArray, List.set_cons_zero, List.set_cons_succ]
        refine wpAnyH_ready (rs := [13]) (by kernel_rfl) (by simp) (AllReadyH.cons (o := { dst := none, op := Op.store 30 (Operand.tmp 16) (Operand.tmp 56), type := 0, pos := _, after := _, guard := none }) rfl (fun KK hK => ?_) AllReadyH.nil)
        refine Eq.mpr (if_pos (by rfl)) ?_
        refine wp_store_row 30 (.tmp 16) (.tmp 56) rfl _ #[.int .i32 (txI I lev i j 0), .int .i32 (txI I lev i j 1), .int .i32 (txI I lev i j 2), .int .i32 (txI I lev i j 3)] rfl rfl 30 _ (unhide RBa) size35 rfl (by simp [Value.oneCell']) ?_
        refine hK.out _ _ (ext_row HS (unhide RLa)) (fun _ => ?_)
        clear hK KK
        have RBb := hide (Blk.rowOther (cs' := #[.int .i32 (txI I lev i j 0), .int .i32 (txI I lev i j 1), .int .i32 (txI I lev i j 2), .int .i32 (txI I lev i j 3)]) (unhide RBb) (Ne.symm (unhide NE)))
        have RBa := hide (Blk.row (cs' := #[.int .i32 (txI I lev i j 0), .int .i32 (txI I lev i j 1), .int .i32 (txI I lev i j 2), .int .i32 (txI I lev i j 3)]) (unhide RBa))
        have HS2 := ext_row (cs := #[.int .i32 (txI I lev i j 0), .int .i32 (txI I lev i j 1), .int .i32 (txI I lev i j 2), .int .i32 (txI I lev i j 3)]) HS (unhide RLa)
        clear HS
        have HS := HS2
        clear HS2
        try simp only [Act.put, List.setIfInBounds_toArray, List.set_cons_zero, List.set_cons_succ]
        refine wpAnyH_ready (rs := [14]) (by kernel_rfl) (by simp) (AllReadyH.cons (o := { dst := none, op := Op.store 30 (Operand.tmp 17) (Operand.tmp 62), type := 0, pos := _, after := _, guard := none }) rfl (fun KK hK => ?_) AllReadyH.nil)
        refine Eq.mpr (if_pos (by rfl)) ?_
        refine wp_store_row 30 (.tmp 17) (.tmp 62) rfl _ #[.int .i32 (txI I lev (i + 1) j 0), .int .i32 (txI I lev (i + 1) j 1), .int .i32 (txI I lev (i + 1) j 2), .int .i32 (txI I lev (i + 1) j 3)] rfl rfl 30 _ (unhide RBb) size35 rfl (by simp [Value.oneCell']) ?_
        refine hK.out _ _ (ext_row HS (unhide RLb)) (fun _ => ?_)
        clear hK KK
        have RBa := hide (Blk.rowOther (cs' := #[.int .i32 (txI I lev (i + 1) j 0), .int .i32 (txI I lev (i + 1) j 1), .int .i32 (txI I lev (i + 1) j 2), .int .i32 (txI I lev (i + 1) j 3)]) (unhide RBa) (unhide NE))
        have RBb := hide (Blk.row (cs' := #[.int .i32 (txI I lev (i + 1) j 0), .int .i32 (txI I lev (i + 1) j 1), .int .i32 (txI I lev (i + 1) j 2), .int .i32 (txI I lev (i + 1) j 3)]) (unhide RBb))
        have HS2 := ext_row (cs := #[.int .i32 (txI I lev (i + 1) j 0), .int .i32 (txI I lev (i + 1) j 1), .int .i32 (txI I lev (i + 1) j 2), .int .i32 (txI I lev (i + 1) j 3)]) HS (unhide RLb)
        clear HS
        have HS := HS2
        clear HS2
        try simp only [Act.put, List.setIfInBounds_toArray, List.set_cons_zero, List.set_cons_succ]
        refine wpAnyH_done (by kernel_rfl) ?_ _
        refine NoPanic.normal ?_
        go_wp2
        go_meet
        exact ⟨_, _, _, rfl, rfl, rfl, unhide RBa, unhide RBb, HS⟩
    · refine Eq.mpr (if_pos (by rfl)) ?_
      go_simp
      refine hK.out _ (w3.drew.alloc (.cells #[.int .i32 0, .int .i32 0, .int .i32 0, .int .i32 0] 30)) (HS.alloc _) (fun _ => ?_)
      clear hK KK
      have RBb := hide (Blk.new w3.drew #[.int .i32 0, .int .i32 0, .int .i32 0, .int .i32 0] 30)
      have RLb := hide (Below.size HS)
      have HS2 := HS.alloc (.cells #[.int .i32 0, .int .i32 0, .int .i32 0, .int .i32 0] 30)
      clear HS
      have HS := HS2
      clear HS2
      generalize w3.drew.alloc (.cells #[.int .i32 0, .int .i32 0, .int .i32 0, .int .i32 0] 30) = wa at HS RBb ⊢
      try simp only [Act.put, List.setIfInBounds_toArray, List.set_cons_zero, List.set_cons_succ]
      refine wpAnyH_ready (rs := [4, 11]) (by kernel_rfl) (by simp) (AllReadyH.cons (o := { dst := some 56, op := Op.call { callee := Callee.value (Operand.func 25), args := #[Operand.tmp 52, Operand.tmp 53, Operand.tmp 54, Operand.tmp 55], argTypes := #[24, 3, 2, 2] }, type := 30, pos := _, after := _, guard := none }) rfl (fun KK hK => ?_) (AllReadyH.cons (o := { dst := some 16, op := Op.alloc 30, type := 0, pos := _, after := _, guard := none }) rfl (fun KK hK => ?_) AllReadyH.nil))
      · go_simp
        refine ((unhide HTX _ HS).1).mono ?_
        rintro e ws ⟨rfl, hxs⟩
        have RBb := hide ((unhide RBb).ext hxs)
        have HS2 := HS.trans hxs
        clear hxs HS
        have HS := HS2
        clear HS2
        refine hK.out _ _ HS (fun _ => ?_)
        clear hK KK
        try simp only [Act.put, List.setIfInBounds_toArray, List.set_cons_zero, List.set_cons_succ]
        refine wpAnyH_ready (rs := [10, 11]) (by kernel_rfl) (by simp) (AllReadyH.cons (o := { dst := some 62, op := Op.call { callee := Callee.value (Operand.func 25), args := #[Operand.tmp 57, Operand.tmp 58, Operand.tmp 60, Operand.tmp 61], argTypes := #[24, 3, 2, 2] }, type := 30, pos := _, after := _, guard := none }) rfl (fun KK hK => ?_) (AllReadyH.cons (o := { dst := some 16, op := Op.alloc 30, type := 0, pos := _, after := _, guard := none }) rfl (fun KK hK => ?_) AllReadyH.nil))
        · go_simp
          refine ((unhide HTX _ HS).2).mono ?_
          rintro e ws ⟨rfl, hxs⟩
          have RBb := hide ((unhide RBb).ext hxs)
          have HS2 := HS.trans hxs
          clear hxs HS
          have HS := HS2
          clear HS2
          refine hK.out _ _ HS (fun _ => ?_)
          clear hK KK
          try simp only [Act.put, List.setIfInBounds_toArray, List.set_cons_zero, List.set_cons_succ]
          refine wpAnyH_ready (rs := [11]) (by kernel_rfl) (by simp) (AllReadyH.cons (o := { dst := some 16, op := Op.alloc 30, type := 0, pos := _, after := _, guard := none }) rfl (fun KK hK => ?_) AllReadyH.nil)
          refine Eq.mpr (if_pos (by rfl)) ?_
          go_simp
          refine hK.out _ (ws.alloc (.cells #[.int .i32 0, .int .i32 0, .int .i32 0, .int .i32 0] 30)) (HS.alloc _) (fun _ => ?_)
          clear hK KK
          have NE := hide (show _ ≠ _ from Nat.ne_of_lt (unhide RBb).lt)
          have RBb := hide ((unhide RBb).alloc (.cells #[.int .i32 0, .int .i32 0, .int .i32 0, .int .i32 0] 30))
          have RBa := hide (Blk.new ws #[.int .i32 0, .int .i32 0, .int .i32 0, .int .i32 0] 30)
          have RLa := hide (Below.size HS)
          have HS2 := HS.alloc (.cells #[.int .i32 0, .int .i32 0, .int .i32 0, .int .i32 0] 30)
          clear HS
          have HS := HS2
          clear HS2
          generalize ws.alloc (.cells #[.int .i32 0, .int .i32 0, .int .i32 0, .int .i32 0] 30) = wa at HS RBb RBa ⊢
          try simp only [Act.put, List.setIfInBounds_toArray, List.set_cons_zero, List.set_cons_succ]
          refine wpAnyH_ready (rs := [13]) (by kernel_rfl) (by simp) (AllReadyH.cons (o := { dst := none, op := Op.store 30 (Operand.tmp 16) (Operand.tmp 56), type := 0, pos := _, after := _, guard := none }) rfl (fun KK hK => ?_) AllReadyH.nil)
          refine Eq.mpr (if_pos (by rfl)) ?_
          refine wp_store_row 30 (.tmp 16) (.tmp 56) rfl _ #[.int .i32 (txI I lev i j 0), .int .i32 (txI I lev i j 1), .int .i32 (txI I lev i j 2), .int .i32 (txI I lev i j 3)] rfl rfl 30 _ (unhide RBa) size35 rfl (by simp [Value.oneCell']) ?_
          refine hK.out _ _ (ext_row HS (unhide RLa)) (fun _ => ?_)
          clear hK KK
          have RBb := hide (Blk.rowOther (cs' := #[.int .i32 (txI I lev i j 0), .int .i32 (txI I lev i j 1), .int .i32 (txI I lev i j 2), .int .i32 (txI I lev i j 3)]) (unhide RBb) (unhide NE))
          have RBa := hide (Blk.row (cs' := #[.int .i32 (txI I lev i j 0), .int .i32 (txI I lev i j 1), .int .i32 (txI I lev i j 2), .int .i32 (txI I lev i j 3)]) (unhide RBa))
          have HS2 := ext_row (cs := #[.int .i32 (txI I lev i j 0), .int .i32 (txI I lev i j 1), .int .i32 (txI I lev i j 2), .int .i32 (txI I lev i j 3)]) HS (unhide RLa)
          clear HS
          have HS := HS2
          clear HS2
          try simp only [Act.put, List.setIfInBounds_toArray, List.set_cons_zero, List.set_cons_succ]
          refine wpAnyH_ready (rs := [14]) (by kernel_rfl) (by simp) (AllReadyH.cons (o := { dst := none, op := Op.store 30 (Operand.tmp 17) (Operand.tmp 62), type := 0, pos := _, after := _, guard := none }) rfl (fun KK hK => ?_) AllReadyH.nil)
          refine Eq.mpr (if_pos (by rfl)) ?_
          refine wp_store_row 30 (.tmp 17) (.tmp 62) rfl _ #[.int .i32 (txI I lev (i + 1) j 0), .int .i32 (txI I lev (i + 1) j 1), .int .i32 (txI I lev (i + 1) j 2), .int .i32 (txI I lev (i + 1) j 3)] rfl rfl 30 _ (unhide RBb) size35 rfl (by simp [Value.oneCell']) ?_
          refine hK.out _ _ (ext_row HS (unhide RLb)) (fun _ => ?_)
          clear hK KK
          have RBa := hide (Blk.rowOther (cs' := #[.int .i32 (txI I lev (i + 1) j 0), .int .i32 (txI I lev (i + 1) j 1), .int .i32 (txI I lev (i + 1) j 2), .int .i32 (txI I lev (i + 1) j 3)]) (unhide RBa) (Ne.symm (unhide NE)))
          have RBb := hide (Blk.row (cs' := #[.int .i32 (txI I lev (i + 1) j 0), .int .i32 (txI I lev (i + 1) j 1), .int .i32 (txI I lev (i + 1) j 2), .int .i32 (txI I lev (i + 1) j 3)]) (unhide RBb))
          have HS2 := ext_row (cs := #[.int .i32 (txI I lev (i + 1) j 0), .int .i32 (txI I lev (i + 1) j 1), .int .i32 (txI I lev (i + 1) j 2), .int .i32 (txI I lev (i + 1) j 3)]) HS (unhide RLb)
          clear HS
          have HS := HS2
          clear HS2
          try simp only [Act.put, List.setIfInBounds_toArray, List.set_cons_zero, List.set_cons_succ]
          refine wpAnyH_done (by kernel_rfl) ?_ _
          refine NoPanic.normal ?_
          go_wp2
          go_meet
          exact ⟨_, _, _, rfl, rfl, rfl, unhide RBa, unhide RBb, HS⟩
        · refine Eq.mpr (if_pos (by rfl)) ?_
          go_simp
          refine hK.out _ (ws.alloc (.cells #[.int .i32 0, .int .i32 0, .int .i32 0, .int .i32 0] 30)) (HS.alloc _) (fun _ => ?_)
          clear hK KK
          have NE := hide (show _ ≠ _ from Nat.ne_of_lt (unhide RBb).lt)
          have RBb := hide ((unhide RBb).alloc (.cells #[.int .i32 0, .int .i32 0, .int .i32 0, .int .i32 0] 30))
          have RBa := hide (Blk.new ws #[.int .i32 0, .int .i32 0, .int .i32 0, .int .i32 0] 30)
          have RLa := hide (Below.size HS)
          have HS2 := HS.alloc (.cells #[.int .i32 0, .int .i32 0, .int .i32 0, .int .i32 0] 30)
          clear HS
          have HS := HS2
          clear HS2
          generalize ws.alloc (.cells #[.int .i32 0, .int .i32 0, .int .i32 0, .int .i32 0] 30) = wa at HS RBb RBa ⊢
          try simp only [Act.put, List.setIfInBounds_toArray, List.set_cons_zero, List.set_cons_succ]
          refine wpAnyH_ready (rs := [10]) (by kernel_rfl) (by simp) (AllReadyH.cons (o := { dst := some 62, op := Op.call { callee := Callee.value (Operand.func 25), args := #[Operand.tmp 57, Operand.tmp 58, Operand.tmp 60, Operand.tmp 61], argTypes := #[24, 3, 2, 2] }, type := 30, pos := _, after := _, guard := none }) rfl (fun KK hK => ?_) AllReadyH.nil)
          go_simp
          refine ((unhide HTX _ HS).2).mono ?_
          rintro e ws ⟨rfl, hxs⟩
          have RBb := hide ((unhide RBb).ext hxs)
          have RBa := hide ((unhide RBa).ext hxs)
          have HS2 := HS.trans hxs
          clear hxs HS
          have HS := HS2
          clear HS2
          refine hK.out _ _ HS (fun _ => ?_)
          clear hK KK
          try simp only [Act.put, List.setIfInBounds_toArray, List.set_cons_zero, List.set_cons_succ]
          refine wpAnyH_ready (rs := [13]) (by kernel_rfl) (by simp) (AllReadyH.cons (o := { dst := none, op := Op.store 30 (Operand.tmp 16) (Operand.tmp 56), type := 0, pos := _, after := _, guard := none }) rfl (fun KK hK => ?_) AllReadyH.nil)
          refine Eq.mpr (if_pos (by rfl)) ?_
          refine wp_store_row 30 (.tmp 16) (.tmp 56) rfl _ #[.int .i32 (txI I lev i j 0), .int .i32 (txI I lev i j 1), .int .i32 (txI I lev i j 2), .int .i32 (txI I lev i j 3)] rfl rfl 30 _ (unhide RBa) size35 rfl (by simp [Value.oneCell']) ?_
          refine hK.out _ _ (ext_row HS (unhide RLa)) (fun _ => ?_)
          clear hK KK
          have RBb := hide (Blk.rowOther (cs' := #[.int .i32 (txI I lev i j 0), .int .i32 (txI I lev i j 1), .int .i32 (txI I lev i j 2), .int .i32 (txI I lev i j 3)]) (unhide RBb) (unhide NE))
          have RBa := hide (Blk.row (cs' := #[.int .i32 (txI I lev i j 0), .int .i32 (txI I lev i j 1), .int .i32 (txI I lev i j 2), .int .i32 (txI I lev i j 3)]) (unhide RBa))
          have HS2 := ext_row (cs := #[.int .i32 (txI I lev i j 0), .int .i32 (txI I lev i j 1), .int .i32 (txI I lev i j 2), .int .i32 (txI I lev i j 3)]) HS (unhide RLa)
          clear HS
          have HS := HS2
          clear HS2
          try simp only [Act.put, List.setIfInBounds_toArray, List.set_cons_zero, List.set_cons_succ]
          refine wpAnyH_ready (rs := [14]) (by kernel_rfl) (by simp) (AllReadyH.cons (o := { dst := none, op := Op.store 30 (Operand.tmp 17) (Operand.tmp 62), type := 0, pos := _, after := _, guard := none }) rfl (fun KK hK => ?_) AllReadyH.nil)
          refine Eq.mpr (if_pos (by rfl)) ?_
          refine wp_store_row 30 (.tmp 17) (.tmp 62) rfl _ #[.int .i32 (txI I lev (i + 1) j 0), .int .i32 (txI I lev (i + 1) j 1), .int .i32 (txI I lev (i + 1) j 2), .int .i32 (txI I lev (i + 1) j 3)] rfl rfl 30 _ (unhide RBb) size35 rfl (by simp [Value.oneCell']) ?_
          refine hK.out _ _ (ext_row HS (unhide RLb)) (fun _ => ?_)
          clear hK KK
          have RBa := hide (Blk.rowOther (cs' := #[.int .i32 (txI I lev (i + 1) j 0), .int .i32 (txI I lev (i + 1) j 1), .int .i32 (txI I lev (i + 1) j 2), .int .i32 (txI I lev (i + 1) j 3)]) (unhide RBa) (Ne.symm (unhide NE)))
          have RBb := hide (Blk.row (cs' := #[.int .i32 (txI I lev (i + 1) j 0), .int .i32 (txI I lev (i + 1) j 1), .int .i32 (txI I lev (i + 1) j 2), .int .i32 (txI I lev (i + 1) j 3)]) (unhide RBb))
          have HS2 := ext_row (cs := #[.int .i32 (txI I lev (i + 1) j 0), .int .i32 (txI I lev (i + 1) j 1), .int .i32 (txI I lev (i + 1) j 2), .int .i32 (txI I lev (i + 1) j 3)]) HS (unhide RLb)
          clear HS
          have HS := HS2
          clear HS2
          try simp only [Act.put, List.setIfInBounds_toArray, List.set_cons_zero, List.set_cons_succ]
          refine wpAnyH_done (by kernel_rfl) ?_ _
          refine NoPanic.normal ?_
          go_wp2
          go_meet
          exact ⟨_, _, _, rfl, rfl, rfl, unhide RBa, unhide RBb, HS⟩
      · refine Eq.mpr (if_pos (by rfl)) ?_
        go_simp
        refine hK.out _ (wa.alloc (.cells #[.int .i32 0, .int .i32 0, .int .i32 0, .int .i32 0] 30)) (HS.alloc _) (fun _ => ?_)
        clear hK KK
        have NE := hide (show _ ≠ _ from Nat.ne_of_lt (unhide RBb).lt)
        have RBb := hide ((unhide RBb).alloc (.cells #[.int .i32 0, .int .i32 0, .int .i32 0, .int .i32 0] 30))
        have RBa := hide (Blk.new wa #[.int .i32 0, .int .i32 0, .int .i32 0, .int .i32 0] 30)
        have RLa := hide (Below.size HS)
        have HS2 := HS.alloc (.cells #[.int .i32 0, .int .i32 0, .int .i32 0, .int .i32 0] 30)
        clear HS
        have HS := HS2
        clear HS2
        generalize wa.alloc (.cells #[.int .i32 0, .int .i32 0, .int .i32 0, .int .i32 0] 30) = wa at HS RBb RBa ⊢
        try simp only [Act.put, List.setIfInBounds_toArray, List.set_cons_zero, List.set_cons_succ]
        refine wpAnyH_ready (rs := [4]) (by kernel_rfl) (by simp) (AllReadyH.cons (o := { dst := some 56, op := Op.call { callee := Callee.value (Operand.func 25), args := #[Operand.tmp 52, Operand.tmp 53, Operand.tmp 54, Operand.tmp 55], argTypes := #[24, 3, 2, 2] }, type := 30, pos := _, after := _, guard := none }) rfl (fun KK hK => ?_) AllReadyH.nil)
        go_simp
        refine ((unhide HTX _ HS).1).mono ?_
        rintro e ws ⟨rfl, hxs⟩
        have RBb := hide ((unhide RBb).ext hxs)
        have RBa := hide ((unhide RBa).ext hxs)
        have HS2 := HS.trans hxs
        clear hxs HS
        have HS := HS2
        clear HS2
        refine hK.out _ _ HS (fun _ => ?_)
        clear hK KK
        try simp only [Act.put, List.setIfInBounds_toArray, List.set_cons_zero, List.set_cons_succ]
        refine wpAnyH_ready (rs := [10]) (by kernel_rfl) (by simp) (AllReadyH.cons (o := { dst := some 62, op := Op.call { callee := Callee.value (Operand.func 25), args := #[Operand.tmp 57, Operand.tmp 58, Operand.tmp 60, Operand.tmp 61], argTypes := #[24, 3, 2, 2] }, type := 30, pos := _, after := _, guard := none }) rfl (fun KK hK => ?_) AllReadyH.nil)
        go_simp
        refine ((unhide HTX _ HS).2).mono ?_
        rintro e ws ⟨rfl, hxs⟩
        have RBb := hide ((unhide RBb).ext hxs)
        have RBa := hide ((unhide RBa).ext hxs)
        have HS2 := HS.trans hxs
        clear hxs HS
        have HS := HS2
        clear HS2
        refine hK.out _ _ HS (fun _ => ?_)
        clear hK KK
        try simp only [Act.put, List.setIfInBounds_toArray, List.set_cons_zero, List.set_cons_succ]
        refine wpAnyH_ready (rs := [13]) (by kernel_rfl) (by simp) (AllReadyH.cons (o := { dst := none, op := Op.store 30 (Operand.tmp 16) (Operand.tmp 56), type := 0, pos := _, after := _, guard := none }) rfl (fun KK hK => ?_) AllReadyH.nil)
        refine Eq.mpr (if_pos (by rfl)) ?_
        refine wp_store_row 30 (.tmp 16) (.tmp 56) rfl _ #[.int .i32 (txI I lev i j 0), .int .i32 (txI I lev i j 1), .int .i32 (txI I lev i j 2), .int .i32 (txI I lev i j 3)] rfl rfl 30 _ (unhide RBa) size35 rfl (by simp [Value.oneCell']) ?_
        refine hK.out _ _ (ext_row HS (unhide RLa)) (fun _ => ?_)
        clear hK KK
        have RBb := hide (Blk.rowOther (cs' := #[.int .i32 (txI I lev i j 0), .int .i32 (txI I lev i j 1), .int .i32 (txI I lev i j 2), .int .i32 (txI I lev i j 3)]) (unhide RBb) (unhide NE))
        have RBa := hide (Blk.row (cs' := #[.int .i32 (txI I lev i j 0), .int .i32 (txI I lev i j 1), .int .i32 (txI I lev i j 2), .int .i32 (txI I lev i j 3)]) (unhide RBa))
        have HS2 := ext_row (cs := #[.int .i32 (txI I lev i j 0), .int .i32 (txI I lev i j 1), .int .i32 (txI I lev i j 2), .int .i32 (txI I lev i j 3)]) HS (unhide RLa)
        clear HS
        have HS := HS2
        clear HS2
        try simp only [Act.put, List.setIfInBounds_toArray, List.set_cons_zero, List.set_cons_succ]
        refine wpAnyH_ready (rs := [14]) (by kernel_rfl) (by simp) (AllReadyH.cons (o := { dst := none, op := Op.store 30 (Operand.tmp 17) (Operand.tmp 62), type := 0, pos := _, after := _, guard := none }) rfl (fun KK hK => ?_) AllReadyH.nil)
        refine Eq.mpr (if_pos (by rfl)) ?_
        refine wp_store_row 30 (.tmp 17) (.tmp 62) rfl _ #[.int .i32 (txI I lev (i + 1) j 0), .int .i32 (txI I lev (i + 1) j 1), .int .i32 (txI I lev (i + 1) j 2), .int .i32 (txI I lev (i + 1) j 3)] rfl rfl 30 _ (unhide RBb) size35 rfl (by simp [Value.oneCell']) ?_
        refine hK.out _ _ (ext_row HS (unhide RLb)) (fun _ => ?_)
        clear hK KK
        have RBa := hide (Blk.rowOther (cs' := #[.int .i32 (txI I lev (i + 1) j 0), .int .i32 (txI I lev (i + 1) j 1), .int .i32 (txI I lev (i + 1) j 2), .int .i32 (txI I lev (i + 1) j 3)]) (unhide RBa) (Ne.symm (unhide NE)))
        have RBb := hide (Blk.row (cs' := #[.int .i32 (txI I lev (i + 1) j 0), .int .i32 (txI I lev (i + 1) j 1), .int .i32 (txI I lev (i + 1) j 2), .int .i32 (txI I lev (i + 1) j 3)]) (unhide RBb))
        have HS2 := ext_row (cs := #[.int .i32 (txI I lev (i + 1) j 0), .int .i32 (txI I lev (i + 1) j 1), .int .i32 (txI I lev (i + 1) j 2), .int .i32 (txI I lev (i + 1) j 3)]) HS (unhide RLb)
        clear HS
        have HS := HS2
        clear HS2
        try simp only [Act.put, List.setIfInBounds_toArray, List.set_cons_zero, List.set_cons_succ]
        refine wpAnyH_done (by kernel_rfl) ?_ _
        refine NoPanic.normal ?_
        go_wp2
        go_meet
        exact ⟨_, _, _, rfl, rfl, rfl, unhide RBa, unhide RBb, HS⟩
  case rest =>
  obtain ⟨w4, ra, rb, rfl, rfl, rfl, hVa, hVb, hx4⟩ := hcut
  have H4 := hide (And.intro hVa (And.intro hVb hx4))
  clear hVa hVb hx4
  go_upto_region 7 with fail
  have HBI2 := hide ((unhide HBI).ext (unhide H4).2.2)
  clear HBI HTX
  have HBI := HBI2
  clear HBI2
  have HTX := hide (fun wx (hx : Ext w4 wx) => And.intro (unhide HT0 wx i (j + 1) ((unhide H4).2.2.trans hx) ⟨by omega, by omega⟩ ⟨by omega, by omega⟩) (unhide HT0 wx (i + 1) (j + 1) ((unhide H4).2.2.trans hx) ⟨by omega, by omega⟩ ⟨by omega, by omega⟩))
  go_cut [18, 19] (fun p1 p2 wc => ∃ w5 rc rd, w5 = wc ∧ p1 = .pointer (some ⟨rc, 0, none⟩) ∧ p2 = .pointer (some ⟨rd, 0, none⟩) ∧ Blk wc rc #[.int .i32 ((txI I lev i (j + 1)) 0), .int .i32 ((txI I lev i (j + 1)) 1), .int .i32 ((txI I lev i (j + 1)) 2), .int .i32 ((txI I lev i (j + 1)) 3)] 30 ∧ Blk wc rd #[.int .i32 ((txI I lev (i + 1) (j + 1)) 0), .int .i32 ((txI I lev (i + 1) (j + 1)) 1), .int .i32 ((txI I lev (i + 1) (j + 1)) 2), .int .i32 ((txI I lev (i + 1) (j + 1)) 3)] 30 ∧ Ext w4 wc)
  case first =>
    refine wp_region_noPanic ?_
    refine wp_region_held_drew (S := fun wx => Ext w4 wx) (by kernel_rfl) (ext_0 w4) (fun HS => ?_)
    refine wpAnyH_take (i := 0) (oi := { dst := some 63, op := Op.load 24 (Operand.tmp 4), type := 24, pos := _, after := _, guard := none }) (v := .agg #[.int .i64 I.f, .slice (some ⟨b, off, none⟩) L.length cap, .int .i64 I.ws, .int .i64 I.wt, .int .i64 I.mn, .int .i64 I.mg]) rfl (by kernel_rfl) (by kernel_rfl) (by kernel_rfl) (fun _ _ _ h => h) (yieldsIf_load_mid (by rfl) 24 (.tmp 4) rfl w.heap.size 0 rfl [.int .i64 I.f, .slice (some ⟨b, off, none⟩) L.length cap, .int .i64 I.ws, .int .i64 I.wt, .int .i64 I.mn, .int .i64 I.mg] _ (fun wx hx => ((unhide HBI).ext hx).range 0 [.int .i64 I.f, .slice (some ⟨b, off, none⟩) L.length cap, .int .i64 I.ws, .int .i64 I.wt, .int .i64 I.mn, .int .i64 I.mg] rfl) Try.underlying24 rfl sizeI) HS ?_
    simp only [Act.put, List.setIfInBounds_toArray, List.set_cons_zero, List.set_cons_succ]
    refine wpAnyH_take (i := 1) (oi := { dst := some 64, op := Op.move (Operand.tmp 1), type := 3, pos := _, after := _, guard := none }) (v := .int .i64 (k : Int)) rfl (by kernel_rfl) (by kernel_rfl) (by kernel_rfl) (fun _ _ _ h => h) (Or.inl ⟨by rfl, fun _ _ => rfl⟩) HS ?_
    simp only [Act.put, List.setIfInBounds_toArray, List.set_cons_zero, List.set_cons_succ]
    refine wpAnyH_take (i := 2) (oi := { dst := some 65, op := Op.move (Operand.tmp 12), type := 2, pos := _, after := _, guard := none }) (v := .int .i64 i) rfl (by kernel_rfl) (by kernel_rfl) (by kernel_rfl) (fun _ _ _ h => h) (Or.inl ⟨by rfl, fun _ _ => rfl⟩) HS ?_
    simp only [Act.put, List.setIfInBounds_toArray, List.set_cons_zero, List.set_cons_succ]
    refine wpAnyH_take (i := 3) (oi := { dst := some 66, op := Op.move (Operand.tmp 13), type := 2, pos := _, after := _, guard := none }) (v := .int .i64 j) rfl (by kernel_rfl) (by kernel_rfl) (by kernel_rfl) (fun _ _ _ h => h) (Or.inl ⟨by rfl, fun _ _ => rfl⟩) HS ?_
    simp only [Act.put, List.setIfInBounds_toArray, List.set_cons_zero, List.set_cons_succ]
    refine wpAnyH_take (i := 4) (oi := { dst := some 67, op := Op.binOp BinOp.add 2 (Operand.tmp 66) (Operand.const (Value.int IntKind.i64 1)) 2, type := 2, pos := _, after := _, guard := none }) (v := .int .i64 (j + 1)) rfl (by kernel_rfl) (by kernel_rfl) (by kernel_rfl) (fun _ _ _ h => h) (Or.inl ⟨by rfl, fun wx _ => by go_simp⟩) HS ?_
    simp only [Act.put, List.setIfInBounds_toArray, List.set_cons_zero, List.set_cons_succ]
    refine wpAnyH_take (i := 6) (oi := { dst := some 69, op := Op.load 24 (Operand.tmp 4), type := 24, pos := _, after := _, guard := none }) (v := .agg #[.int .i64 I.f, .slice (some ⟨b, off, none⟩) L.length cap, .int .i64 I.ws, .int .i64 I.wt, .int .i64 I.mn, .int .i64 I.mg]) rfl (by kernel_rfl) (by kernel_rfl) (by kernel_rfl) (fun _ _ _ h => h) (yieldsIf_load_mid (by rfl) 24 (.tmp 4) rfl w.heap.size 0 rfl [.int .i64 I.f, .slice (some ⟨b, off, none⟩) L.length cap, .int .i64 I.ws, .int .i64 I.wt, .int .i64 I.mn, .int .i64 I.mg] _ (fun wx hx => ((unhide HBI).ext hx).range 0 [.int .i64 I.f, .slice (some ⟨b, off, none⟩) L.length cap, .int .i64 I.ws, .int .i64 I.wt, .int .i64 I.mn, .int .i64 I.mg] rfl) Try.underlying24 rfl sizeI) HS ?_
    simp only [Act.put, List.setIfInBounds_toArray, List.set_cons_zero, List.set_cons_succ]
    refine wpAnyH_take (i := 7) (oi := { dst := some 70, op := Op.move (Operand.tmp 1), type := 3, pos := _, after := _, guard := none }) (v := .int .i64 (k : Int)) rfl (by kernel_rfl) (by kernel_rfl) (by kernel_rfl) (fun _ _ _ h => h) (Or.inl ⟨by rfl, fun _ _ => rfl⟩) HS ?_
    simp only [Act.put, List.setIfInBounds_toArray, List.set_cons_zero, List.set_cons_succ]
    refine wpAnyH_take (i := 8) (oi := { dst := some 71, op := Op.move (Operand.tmp 12), type := 2, pos := _, after := _, guard := none }) (v := .int .i64 i) rfl (by kernel_rfl) (by kernel_rfl) (by kernel_rfl) (fun _ _ _ h => h) (Or.inl ⟨by rfl, fun _ _ => rfl⟩) HS ?_
    simp only [Act.put, List.setIfInBounds_toArray, List.set_cons_zero, List.set_cons_succ]
    refine wpAnyH_take (i := 9) (oi := { dst := some 72, op := Op.binOp BinOp.add 2 (Operand.tmp 71) (Operand.const (Value.int IntKind.i64 1)) 2, type := 2, pos := _, after := _, guard := none }) (v := .int .i64 (i + 1)) rfl (by kernel_rfl) (by kernel_rfl) (by kernel_rfl) (fun _ _ _ h => h) (Or.inl ⟨by rfl, fun wx _ => by go_simp⟩) HS ?_
    simp only [Act.put, List.setIfInBounds_toArray, List.set_cons_zero, List.set_cons_succ]
    refine wpAnyH_take (i := 10) (oi := { dst := some 73, op := Op.move (Operand.tmp 13), type := 2, pos := _, after := _, guard := none }) (v := .int .i64 j) rfl (by kernel_rfl) (by kernel_rfl) (by kernel_rfl) (fun _ _ _ h => h) (Or.inl ⟨by rfl, fun _ _ => rfl⟩) HS ?_
    simp only [Act.put, List.setIfInBounds_toArray, List.set_cons_zero, List.set_cons_succ]
    refine wpAnyH_take (i := 11) (oi := { dst := some 74, op := Op.binOp BinOp.add 2 (Operand.tmp 73) (Operand.const (Value.int IntKind.i64 1)) 2, type := 2, pos := _, after := _, guard := none }) (v := .int .i64 (j + 1)) rfl (by kernel_rfl) (by kernel_rfl) (by kernel_rfl) (fun _ _ _ h => h) (Or.inl ⟨by rfl, fun wx _ => by go_simp⟩) HS ?_
    simp only [Act.put, List.setIfInBounds_toArray, List.set_cons_zero, List.set_cons_succ]
    refine wpAnyH_ready (rs := [5, 13, 14]) (by kernel_rfl) (by simp) (AllReadyH.cons (o := { dst := some 68, op := Op.call { callee := Callee.value (Operand.func 25), args := #[Operand.tmp 63, Operand.tmp 64, Operand.tmp 65, Operand.tmp 67], argTypes := #[24, 3, 2, 2] }, type := 30, pos := _, after := _, guard := none }) rfl (fun KK hK => ?_) (AllReadyH.cons (o := { dst := some 18, op := Op.alloc 30, type := 0, pos := _, after := _, guard := none }) rfl (fun KK hK => ?_) (AllReadyH.cons (o := { dst := some 19, op := Op.alloc 30, type := 0, pos := _, after := _, guard := none }) rfl (fun KK hK => ?_) AllReadyH.nil)))
    · go_simp
      refine ((unhide HTX _ HS).1).mono ?_
      rintro e ws ⟨rfl, hxs⟩
      have HS2 := HS.trans hxs
      clear hxs HS
      have HS := HS2
      clear HS2
      refine hK.out _ _ HS (fun _ => ?_)
      clear hK KK
      try simp only [Act.put, List.setIfInBounds_toArray, List.set_cons_zero, List.set_cons_succ]
      refine wpAnyH_ready (rs := [12, 13, 14]) (by kernel_rfl) (by simp) (AllReadyH.cons (o := { dst := some 75, op := Op.call { callee := Callee.value (Operand.func 25), args := #[Operand.tmp 69, Operand.tmp 70, Operand.tmp 72, Operand.tmp 74], argTypes := #[24, 3, 2, 2] }, type := 30, pos := _, after := _, guard := none }) rfl (fun KK hK => ?_) (AllReadyH.cons (o := { dst := some 18, op := Op.alloc 30, type := 0, pos := _, after := _, guard := none }) rfl (fun KK hK => ?_) (AllReadyH.cons (o := { dst := some 19, op := Op.alloc 30, type := 0, pos := _, after := _, guard := none }) rfl (fun KK hK => ?_) AllReadyH.nil)))
      · go_simp
        refine ((unhide HTX _ HS).2).mono ?_
        rintro e ws ⟨rfl, hxs⟩
        have HS2 := HS.trans hxs
        clear hxs HS
        have HS := HS2
        clear HS2
        refine hK.out _ _ HS (fun _ => ?_)
        clear hK KK
        try simp only [Act.put, List.setIfInBounds_toArray, List.set_cons_zero, List.set_cons_succ]
        refine wpAnyH_ready (rs := [13, 14]) (by kernel_rfl) (by simp) (AllReadyH.cons (o := { dst := some 18, op := Op.alloc 30, type := 0, pos := _, after := _, guard := none }) rfl (fun KK hK => ?_) (AllReadyH.cons (o := { dst := some 19, op := Op.alloc 30, type := 0, pos := _, after := _, guard := none }) rfl (fun KK hK => ?_) AllReadyH.nil))
        · refine Eq.mpr (if_pos (by rfl)) ?_
          go_simp
          refine hK.out _ (ws.alloc (.cells #[.int .i32 0, .int .i32 0, .int .i32 0, .int .i32 0] 30)) (HS.alloc _) (fun _ => ?_)
          clear hK KK
          have RBa := hide (Blk.new ws #[.int .i32 0, .int .i32 0, .int .i32 0, .int .i32 0] 30)
          have RLa := hide (Below.size HS)
          have HS2 := HS.alloc (.cells #[.int .i32 0, .int .i32 0, .int .i32 0, .int .i32 0] 30)
          clear HS
          have HS := HS2
          clear HS2
          generalize ws.alloc (.cells #[.int .i32 0, .int .i32 0, .int .i32 0, .int .i32 0] 30) = wa at HS RBa ⊢
          try simp only [Act.put, List.setIfInBounds_toArray, List.set_cons_zero, List.set_cons_succ]
          refine wpAnyH_ready (rs := [14]) (by kernel_rfl) (by simp) (AllReadyH.cons (o := { dst := some 19, op := Op.alloc 30, type := 0, pos := _, after := _, guard := none }) rfl (fun KK hK => ?_) AllReadyH.nil)
          refine Eq.mpr (if_pos (by rfl)) ?_
          go_simp
          refine hK.out _ (wa.alloc (.cells #[.int .i32 0, .int .i32 0, .int .i32 0, .int .i32 0] 30)) (HS.alloc _) (fun _ => ?_)
          clear hK KK
          have NE := hide (show _ ≠ _ from Nat.ne_of_lt (unhide RBa).lt)
          have RBa := hide ((unhide RBa).alloc (.cells #[.int .i32 0, .int .i32 0, .int .i32 0, .int .i32 0] 30))
          have RBb := hide (Blk.new wa #[.int .i32 0, .int .i32 0, .int .i32 0, .int .i32 0] 30)
          have RLb := hide (Below.size HS)
          have HS2 := HS.alloc (.cells #[.int .i32 0, .int .i32 0, .int .i32 0, .int .i32 0] 30)
          clear HS
          have HS := HS2
          clear HS2
          generalize wa.alloc (.cells #[.int .i32 0, .int .i32 0, .int .i32 0, .int .i32 0] 30) = wa at HS RBa RBb ⊢
          try simp only [Act.put, List.setIfInBounds_toArray, List.set_cons_zero, List.set_cons_succ]
          refine wpAnyH_ready (rs := [15]) (by kernel_rfl) (by simp) (AllReadyH.cons (o := { dst := none, op := Op.store 30 (Operand.tmp 18) (Operand.tmp 68), type := 0, pos := _, after := _, guard := none }) rfl (fun KK hK => ?_) AllReadyH.nil)
          refine Eq.mpr (if_pos (by rfl)) ?_
          refine wp_store_row 30 (.tmp 18) (.tmp 68) rfl _ #[.int .i32 (txI I lev i (j + 1) 0), .int .i32 (txI I lev i (j + 1) 1), .int .i32 (txI I lev i (j + 1) 2), .int .i32 (txI I lev i (j + 1) 3)] rfl rfl 30 _ (unhide RBa) size35 rfl (by simp [Value.oneCell']) ?_
          refine hK.out _ _ (ext_row HS (unhide RLa)) (fun _ => ?_)
          clear hK KK
          have RBb := hide (Blk.rowOther (cs' := #[.int .i32 (txI I lev i (j + 1) 0), .int .i32 (txI I lev i (j + 1) 1), .int .i32 (txI I lev i (j + 1) 2), .int .i32 (txI I lev i (j + 1) 3)]) (unhide RBb) (Ne.symm (unhide NE)))
          have RBa := hide (Blk.row (cs' := #[.int .i32 (txI I lev i (j + 1) 0), .int .i32 (txI I lev i (j + 1) 1), .int .i32 (txI I lev i (j + 1) 2), .int .i32 (txI I lev i (j + 1) 3)]) (unhide RBa))
          have HS2 := ext_row (cs := #[.int .i32 (txI I lev i (j + 1) 0), .int .i32 (txI I lev i (j + 1) 1), .int .i32 (txI I lev i (j + 1) 2), .int .i32 (txI I lev i (j + 1) 3)]) HS (unhide RLa)
          clear HS
          have HS := HS2
          clear HS2
          try simp only [Act.put, List.setIfInBounds_toArray, List.set_cons_zero, List.set_cons_succ]
          refine wpAnyH_ready (rs := [16]) (by kernel_rfl) (by simp) (AllReadyH.cons (o := { dst := none, op := Op.store 30 (Operand.tmp 19) (Operand.tmp 75), type := 0, pos := _, after := _, guard := none }) rfl (fun KK hK => ?_) AllReadyH.nil)
          refine Eq.mpr (if_pos (by rfl)) ?_
          refine wp_store_row 30 (.tmp 19) (.tmp 75) rfl _ #[.int .i32 (txI I lev (i + 1) (j + 1) 0), .int .i32 (txI I lev (i + 1) (j + 1) 1), .int .i32 (txI I lev (i + 1) (j + 1) 2), .int .i32 (txI I lev (i + 1) (j + 1) 3)] rfl rfl 30 _ (unhide RBb) size35 rfl (by simp [Value.oneCell']) ?_
          refine hK.out _ _ (ext_row HS (unhide RLb)) (fun _ => ?_)
          clear hK KK
          have RBa := hide (Blk.rowOther (cs' := #[.int .i32 (txI I lev (i + 1) (j + 1) 0), .int .i32 (txI I lev (i + 1) (j + 1) 1), .int .i32 (txI I lev (i + 1) (j + 1) 2), .int .i32 (txI I lev (i + 1) (j + 1) 3)]) (unhide RBa) (unhide NE))
          have RBb := hide (Blk.row (cs' := #[.int .i32 (txI I lev (i + 1) (j + 1) 0), .int .i32 (txI I lev (i + 1) (j + 1) 1), .int .i32 (txI I lev (i + 1) (j + 1) 2), .int .i32 (txI I lev (i + 1) (j + 1) 3)]) (unhide RBb))
          have HS2 := ext_row (cs := #[.int .i32 (txI I lev (i + 1) (j + 1) 0), .int .i32 (txI I lev (i + 1) (j + 1) 1), .int .i32 (txI I lev (i + 1) (j + 1) 2), .int .i32 (txI I lev (i + 1) (j + 1) 3)]) HS (unhide RLb)
          clear HS
          have HS := HS2
          clear HS2
          try simp only [Act.put, List.setIfInBounds_toArray, List.set_cons_zero, List.set_cons_succ]
          refine wpAnyH_done (by kernel_rfl) ?_ _
          refine NoPanic.normal ?_
          go_wp2
          go_meet
          exact ⟨_, _, _, rfl, rfl, rfl, unhide RBa, unhide RBb, HS⟩
        · refine Eq.mpr (if_pos (by rfl)) ?_
          go_simp
          refine hK.out _ (ws.alloc (.cells #[.int .i32 0, .int .i32 0, .int .i32 0, .int .i32 0] 30)) (HS.alloc _) (fun _ => ?_)
          clear hK KK
          have RBb := hide (Blk.new ws #[.int .i32 0, .int .i32 0, .int .i32 0, .int .i32 0] 30)
          have RLb := hide (Below.size HS)
          have HS2 := HS.alloc (.cells #[.int .i32 0, .int .i32 0, .int .i32 0, .int .i32 0] 30)
          clear HS
          have HS := HS2
          clear HS2
          generalize ws.alloc (.cells #[.int .i32 0, .int .i32 0, .int .i32 0, .int .i32 0] 30) = wa at HS RBb ⊢
          try simp only [Act.put, List.setIfInBounds_toArray, List.set_cons_zero, List.set_cons_succ]
          refine wpAnyH_ready (rs := [13]) (by kernel_rfl) (by simp) (AllReadyH.cons (o := { dst := some 18, op := Op.alloc 30, type := 0, pos := _, after := _, guard := none }) rfl (fun KK hK => ?_) AllReadyH.nil)
          refine Eq.mpr (if_pos (by rfl)) ?_
          go_simp
          refine hK.out _ (wa.alloc (.cells #[.int .i32 0, .int .i32 0, .int .i32 0, .int .i32 0] 30)) (HS.alloc _) (fun _ => ?_)
          clear hK KK
          have NE := hide (show _ ≠ _ from Nat.ne_of_lt (unhide RBb).lt)
          have RBb := hide ((unhide RBb).alloc (.cells #[.int .i32 0, .int .i32 0, .int .i32 0, .int .i32 0] 30))
          have RBa := hide (Blk.new wa #[.int .i32 0, .int .i32 0, .int .i32 0, .int .i32 0] 30)
          have RLa := hide (Below.size HS)
          have HS2 := HS.alloc (.cells #[.int .i32 0, .int .i32 0, .int .i32 0, .int .i32 0] 30)
          clear HS
          have HS := HS2
          clear HS2
          generalize wa.alloc (.cells #[.int .i32 0, .int .i32 0, .int .i32 0, .int .i32 0] 30) = wa at HS RBb RBa ⊢
          try simp only [Act.put, List.setIfInBounds_toArray, List.set_cons_zero, List.set_cons_succ]
          refine wpAnyH_ready (rs := [15]) (by kernel_rfl) (by simp) (AllReadyH.cons (o := { dst := none, op := Op.store 30 (Operand.tmp 18) (Operand.tmp 68), type := 0, pos := _, after := _, guard := none }) rfl (fun KK hK => ?_) AllReadyH.nil)
          refine Eq.mpr (if_pos (by rfl)) ?_
          refine wp_store_row 30 (.tmp 18) (.tmp 68) rfl _ #[.int .i32 (txI I lev i (j + 1) 0), .int .i32 (txI I lev i (j + 1) 1), .int .i32 (txI I lev i (j + 1) 2), .int .i32 (txI I lev i (j + 1) 3)] rfl rfl 30 _ (unhide RBa) size35 rfl (by simp [Value.oneCell']) ?_
          refine hK.out _ _ (ext_row HS (unhide RLa)) (fun _ => ?_)
          clear hK KK
          have RBb := hide (Blk.rowOther (cs' := #[.int .i32 (txI I lev i (j + 1) 0), .int .i32 (txI I lev i (j + 1) 1), .int .i32 (txI I lev i (j + 1) 2), .int .i32 (txI I lev i (j + 1) 3)]) (unhide RBb) (unhide NE))
          have RBa := hide (Blk.row (cs' := #[.int .i32 (txI I lev i (j + 1) 0), .int .i32 (txI I lev i (j + 1) 1), .int .i32 (txI I lev i (j + 1) 2), .int .i32 (txI I lev i (j + 1) 3)]) (unhide RBa))
          have HS2 := ext_row (cs := #[.int .i32 (txI I lev i (j + 1) 0), .int .i32 (txI I lev i (j + 1) 1), .int .i32 (txI I lev i (j + 1) 2), .int .i32 (txI I lev i (j + 1) 3)]) HS (unhide RLa)
          clear HS
          have HS := HS2
          clear HS2
          try simp only [Act.put, List.setIfInBounds_toArray, List.set_cons_zero, List.set_cons_succ]
          refine wpAnyH_ready (rs := [16]) (by kernel_rfl) (by simp) (AllReadyH.cons (o := { dst := none, op := Op.store 30 (Operand.tmp 19) (Operand.tmp 75), type := 0, pos := _, after := _, guard := none }) rfl (fun KK hK => ?_) AllReadyH.nil)
          refine Eq.mpr (if_pos (by rfl)) ?_
          refine wp_store_row 30 (.tmp 19) (.tmp 75) rfl _ #[.int .i32 (txI I lev (i + 1) (j + 1) 0), .int .i32 (txI I lev (i + 1) (j + 1) 1), .int .i32 (txI I lev (i + 1) (j + 1) 2), .int .i32 (txI I lev (i + 1) (j + 1) 3)] rfl rfl 30 _ (unhide RBb) size35 rfl (by simp [Value.oneCell']) ?_
          refine hK.out _ _ (ext_row HS (unhide RLb)) (fun _ => ?_)
          clear hK KK
          have RBa := hide (Blk.rowOther (cs' := #[.int .i32 (txI I lev (i + 1) (j + 1) 0), .int .i32 (txI I lev (i + 1) (j + 1) 1), .int .i32 (txI I lev (i + 1) (j + 1) 2), .int .i32 (txI I lev (i + 1) (j + 1) 3)]) (unhide RBa) (Ne.symm (unhide NE)))
          have RBb := hide (Blk.row (cs' := #[.int .i32 (txI I lev (i + 1) (j + 1) 0), .int .i32 (txI I lev (i + 1) (j + 1) 1), .int .i32 (txI I lev (i + 1) (j + 1) 2), .int .i32 (txI I lev (i + 1) (j + 1) 3)]) (unhide RBb))
          have HS2 := ext_row (cs := #[.int .i32 (txI I lev (i + 1) (j + 1) 0), .int .i32 (txI I lev (i + 1) (j + 1) 1), .int .i32 (txI I lev (i + 1) (j + 1) 2), .int .i32 (txI I lev (i + 1) (j + 1) 3)]) HS (unhide RLb)
          clear HS
          have HS := HS2
          clear HS2
          try simp only [Act.put, List.setIfInBounds_toArray, List.set_cons_zero, List.set_cons_succ]
          refine wpAnyH_done (by kernel_rfl) ?_ _
          refine NoPanic.normal ?_
          go_wp2
          go_meet
          exact ⟨_, _, _, rfl, rfl, rfl, unhide RBa, unhide RBb, HS⟩
      · refine Eq.mpr (if_pos (by rfl)) ?_
        go_simp
        refine hK.out _ (ws.alloc (.cells #[.int .i32 0, .int .i32 0, .int .i32 0, .int .i32 0] 30)) (HS.alloc _) (fun _ => ?_)
        clear hK KK
        have RBa := hide (Blk.new ws #[.int .i32 0, .int .i32 0, .int .i32 0, .int .i32 0] 30)
        have RLa := hide (Below.size HS)
        have HS2 := HS.alloc (.cells #[.int .i32 0, .int .i32 0, .int .i32 0, .int .i32 0] 30)
        clear HS
        have HS := HS2
        clear HS2
        generalize ws.alloc (.cells #[.int .i32 0, .int .i32 0, .int .i32 0, .int .i32 0] 30) = wa at HS RBa ⊢
        try simp only [Act.put, List.setIfInBounds_toArray, List.set_cons_zero, List.set_cons_succ]
        refine wpAnyH_ready (rs := [12, 14]) (by kernel_rfl) (by simp) (AllReadyH.cons (o := { dst := some 75, op := Op.call { callee := Callee.value (Operand.func 25), args := #[Operand.tmp 69, Operand.tmp 70, Operand.tmp 72, Operand.tmp 74], argTypes := #[24, 3, 2, 2] }, type := 30, pos := _, after := _, guard := none }) rfl (fun KK hK => ?_) (AllReadyH.cons (o := { dst := some 19, op := Op.alloc 30, type := 0, pos := _, after := _, guard := none }) rfl (fun KK hK => ?_) AllReadyH.nil))
        · go_simp
          refine ((unhide HTX _ HS).2).mono ?_
          rintro e ws ⟨rfl, hxs⟩
          have RBa := hide ((unhide RBa).ext hxs)
          have HS2 := HS.trans hxs
          clear hxs HS
          have HS := HS2
          clear HS2
          refine hK.out _ _ HS (fun _ => ?_)
          clear hK KK
          try simp only [Act.put, List.setIfInBounds_toArray, List.set_cons_zero, List.set_cons_succ]
          refine wpAnyH_ready (rs := [14]) (by kernel_rfl) (by simp) (AllReadyH.cons (o := { dst := some 19, op := Op.alloc 30, type := 0, pos := _, after := _, guard := none }) rfl (fun KK hK => ?_) AllReadyH.nil)
          refine Eq.mpr (if_pos (by rfl)) ?_
          go_simp
          refine hK.out _ (ws.alloc (.cells #[.int .i32 0, .int .i32 0, .int .i32 0, .int .i32 0] 30)) (HS.alloc _) (fun _ => ?_)
          clear hK KK
          have NE := hide (show _ ≠ _ from Nat.ne_of_lt (unhide RBa).lt)
          have RBa := hide ((unhide RBa).alloc (.cells #[.int .i32 0, .int .i32 0, .int .i32 0, .int .i32 0] 30))
          have RBb := hide (Blk.new ws #[.int .i32 0, .int .i32 0, .int .i32 0, .int .i32 0] 30)
          have RLb := hide (Below.size HS)
          have HS2 := HS.alloc (.cells #[.int .i32 0, .int .i32 0, .int .i32 0, .int .i32 0] 30)
          clear HS
          have HS := HS2
          clear HS2
          generalize ws.alloc (.cells #[.int .i32 0, .int .i32 0, .int .i32 0, .int .i32 0] 30) = wa at HS RBa RBb ⊢
          try simp only [Act.put, List.setIfInBounds_toArray, List.set_cons_zero, List.set_cons_succ]
          refine wpAnyH_ready (rs := [15]) (by kernel_rfl) (by simp) (AllReadyH.cons (o := { dst := none, op := Op.store 30 (Operand.tmp 18) (Operand.tmp 68), type := 0, pos := _, after := _, guard := none }) rfl (fun KK hK => ?_) AllReadyH.nil)
          refine Eq.mpr (if_pos (by rfl)) ?_
          refine wp_store_row 30 (.tmp 18) (.tmp 68) rfl _ #[.int .i32 (txI I lev i (j + 1) 0), .int .i32 (txI I lev i (j + 1) 1), .int .i32 (txI I lev i (j + 1) 2), .int .i32 (txI I lev i (j + 1) 3)] rfl rfl 30 _ (unhide RBa) size35 rfl (by simp [Value.oneCell']) ?_
          refine hK.out _ _ (ext_row HS (unhide RLa)) (fun _ => ?_)
          clear hK KK
          have RBb := hide (Blk.rowOther (cs' := #[.int .i32 (txI I lev i (j + 1) 0), .int .i32 (txI I lev i (j + 1) 1), .int .i32 (txI I lev i (j + 1) 2), .int .i32 (txI I lev i (j + 1) 3)]) (unhide RBb) (Ne.symm (unhide NE)))
          have RBa := hide (Blk.row (cs' := #[.int .i32 (txI I lev i (j + 1) 0), .int .i32 (txI I lev i (j + 1) 1), .int .i32 (txI I lev i (j + 1) 2), .int .i32 (txI I lev i (j + 1) 3)]) (unhide RBa))
          have HS2 := ext_row (cs := #[.int .i32 (txI I lev i (j + 1) 0), .int .i32 (txI I lev i (j + 1) 1), .int .i32 (txI I lev i (j + 1) 2), .int .i32 (txI I lev i (j + 1) 3)]) HS (unhide RLa)
          clear HS
          have HS := HS2
          clear HS2
          try simp only [Act.put, List.setIfInBounds_toArray, List.set_cons_zero, List.set_cons_succ]
          refine wpAnyH_ready (rs := [16]) (by kernel_rfl) (by simp) (AllReadyH.cons (o := { dst := none, op := Op.store 30 (Operand.tmp 19) (Operand.tmp 75), type := 0, pos := _, after := _, guard := none }) rfl (fun KK hK => ?_) AllReadyH.nil)
          refine Eq.mpr (if_pos (by rfl)) ?_
          refine wp_store_row 30 (.tmp 19) (.tmp 75) rfl _ #[.int .i32 (txI I lev (i + 1) (j + 1) 0), .int .i32 (txI I lev (i + 1) (j + 1) 1), .int .i32 (txI I lev (i + 1) (j + 1) 2), .int .i32 (txI I lev (i + 1) (j + 1) 3)] rfl rfl 30 _ (unhide RBb) size35 rfl (by simp [Value.oneCell']) ?_
          refine hK.out _ _ (ext_row HS (unhide RLb)) (fun _ => ?_)
          clear hK KK
          have RBa := hide (Blk.rowOther (cs' := #[.int .i32 (txI I lev (i + 1) (j + 1) 0), .int .i32 (txI I lev (i + 1) (j + 1) 1), .int .i32 (txI I lev (i + 1) (j + 1) 2), .int .i32 (txI I lev (i + 1) (j + 1) 3)]) (unhide RBa) (unhide NE))
          have RBb := hide (Blk.row (cs' := #[.int .i32 (txI I lev (i + 1) (j + 1) 0), .int .i32 (txI I lev (i + 1) (j + 1) 1), .int .i32 (txI I lev (i + 1) (j + 1) 2), .int .i32 (txI I lev (i + 1) (j + 1) 3)]) (unhide RBb))
          have HS2 := ext_row (cs := #[.int .i32 (txI I lev (i + 1) (j + 1) 0), .int .i32 (txI I lev (i + 1) (j + 1) 1), .int .i32 (txI I lev (i + 1) (j + 1) 2), .int .i32 (txI I lev (i + 1) (j + 1) 3)]) HS (unhide RLb)
          clear HS
          have HS := HS2
          clear HS2
          try simp only [Act.put, List.setIfInBounds_toArray, List.set_cons_zero, List.set_cons_succ]
          refine wpAnyH_done (by kernel_rfl) ?_ _
          refine NoPanic.normal ?_
          go_wp2
          go_meet
          exact ⟨_, _, _, rfl, rfl, rfl, unhide RBa, unhide RBb, HS⟩
        · refine Eq.mpr (if_pos (by rfl)) ?_
          go_simp
          refine hK.out _ (wa.alloc (.cells #[.int .i32 0, .int .i32 0, .int .i32 0, .int .i32 0] 30)) (HS.alloc _) (fun _ => ?_)
          clear hK KK
          have NE := hide (show _ ≠ _ from Nat.ne_of_lt (unhide RBa).lt)
          have RBa := hide ((unhide RBa).alloc (.cells #[.int .i32 0, .int .i32 0, .int .i32 0, .int .i32 0] 30))
          have RBb := hide (Blk.new wa #[.int .i32 0, .int .i32 0, .int .i32 0, .int .i32 0] 30)
          have RLb := hide (Below.size HS)
          have HS2 := HS.alloc (.cells #[.int .i32 0, .int .i32 0, .int .i32 0, .int .i32 0] 30)
          clear HS
          have HS := HS2
          clear HS2
          generalize wa.alloc (.cells #[.int .i32 0, .int .i32 0, .int .i32 0, .int .i32 0] 30) = wa at HS RBa RBb ⊢
          try simp only [Act.put, List.setIfInBounds_toArray, List.set_cons_zero, List.set_cons_succ]
          refine wpAnyH_ready (rs := [12]) (by kernel_rfl) (by simp) (AllReadyH.cons (o := { dst := some 75, op := Op.call { callee := Callee.value (Operand.func 25), args := #[Operand.tmp 69, Operand.tmp 70, Operand.tmp 72, Operand.tmp 74], argTypes := #[24, 3, 2, 2] }, type := 30, pos := _, after := _, guard := none }) rfl (fun KK hK => ?_) AllReadyH.nil)
          go_simp
          refine ((unhide HTX _ HS).2).mono ?_
          rintro e ws ⟨rfl, hxs⟩
          have RBa := hide ((unhide RBa).ext hxs)
          have RBb := hide ((unhide RBb).ext hxs)
          have HS2 := HS.trans hxs
          clear hxs HS
          have HS := HS2
          clear HS2
          refine hK.out _ _ HS (fun _ => ?_)
          clear hK KK
          try simp only [Act.put, List.setIfInBounds_toArray, List.set_cons_zero, List.set_cons_succ]
          refine wpAnyH_ready (rs := [15]) (by kernel_rfl) (by simp) (AllReadyH.cons (o := { dst := none, op := Op.store 30 (Operand.tmp 18) (Operand.tmp 68), type := 0, pos := _, after := _, guard := none }) rfl (fun KK hK => ?_) AllReadyH.nil)
          refine Eq.mpr (if_pos (by rfl)) ?_
          refine wp_store_row 30 (.tmp 18) (.tmp 68) rfl _ #[.int .i32 (txI I lev i (j + 1) 0), .int .i32 (txI I lev i (j + 1) 1), .int .i32 (txI I lev i (j + 1) 2), .int .i32 (txI I lev i (j + 1) 3)] rfl rfl 30 _ (unhide RBa) size35 rfl (by simp [Value.oneCell']) ?_
          refine hK.out _ _ (ext_row HS (unhide RLa)) (fun _ => ?_)
          clear hK KK
          have RBb := hide (Blk.rowOther (cs' := #[.int .i32 (txI I lev i (j + 1) 0), .int .i32 (txI I lev i (j + 1) 1), .int .i32 (txI I lev i (j + 1) 2), .int .i32 (txI I lev i (j + 1) 3)]) (unhide RBb) (Ne.symm (unhide NE)))
          have RBa := hide (Blk.row (cs' := #[.int .i32 (txI I lev i (j + 1) 0), .int .i32 (txI I lev i (j + 1) 1), .int .i32 (txI I lev i (j + 1) 2), .int .i32 (txI I lev i (j + 1) 3)]) (unhide RBa))
          have HS2 := ext_row (cs := #[.int .i32 (txI I lev i (j + 1) 0), .int .i32 (txI I lev i (j + 1) 1), .int .i32 (txI I lev i (j + 1) 2), .int .i32 (txI I lev i (j + 1) 3)]) HS (unhide RLa)
          clear HS
          have HS := HS2
          clear HS2
          try simp only [Act.put, List.setIfInBounds_toArray, List.set_cons_zero, List.set_cons_succ]
          refine wpAnyH_ready (rs := [16]) (by kernel_rfl) (by simp) (AllReadyH.cons (o := { dst := none, op := Op.store 30 (Operand.tmp 19) (Operand.tmp 75), type := 0, pos := _, after := _, guard := none }) rfl (fun KK hK => ?_) AllReadyH.nil)
          refine Eq.mpr (if_pos (by rfl)) ?_
          refine wp_store_row 30 (.tmp 19) (.tmp 75) rfl _ #[.int .i32 (txI I lev (i + 1) (j + 1) 0), .int .i32 (txI I lev (i + 1) (j + 1) 1), .int .i32 (txI I lev (i + 1) (j + 1) 2), .int .i32 (txI I lev (i + 1) (j + 1) 3)] rfl rfl 30 _ (unhide RBb) size35 rfl (by simp [Value.oneCell']) ?_
          refine hK.out _ _ (ext_row HS (unhide RLb)) (fun _ => ?_)
          clear hK KK
          have RBa := hide (Blk.rowOther (cs' := #[.int .i32 (txI I lev (i + 1) (j + 1) 0), .int .i32 (txI I lev (i + 1) (j + 1) 1), .int .i32 (txI I lev (i + 1) (j + 1) 2), .int .i32 (txI I lev (i + 1) (j + 1) 3)]) (unhide RBa) (unhide NE))
          have RBb := hide (Blk.row (cs' := #[.int .i32 (txI I lev (i + 1) (j + 1) 0), .int .i32 (txI I lev (i + 1) (j + 1) 1), .int .i32 (txI I lev (i + 1) (j + 1) 2), .int .i32 (txI I lev (i + 1) (j + 1) 3)]) (unhide RBb))
          have HS2 := ext_row (cs := #[.int .i32 (txI I lev (i + 1) (j + 1) 0), .int .i32 (txI I lev (i + 1) (j + 1) 1), .int .i32 (txI I lev (i + 1) (j + 1) 2), .int .i32 (txI I lev (i + 1) (j + 1) 3)]) HS (unhide RLb)
          clear HS
          have HS := HS2
          clear HS2
          try simp only [Act.put, List.setIfInBounds_toArray, List.set_cons_zero, List.set_cons_succ]
          refine wpAnyH_done (by kernel_rfl) ?_ _
          refine NoPanic.normal ?_
          go_wp2
          go_meet
          exact ⟨_, _, _, rfl, rfl, rfl, unhide RBa, unhide RBb, HS⟩
      · refine Eq.mpr (if_pos (by rfl)) ?_
        go_simp
        refine hK.out _ (ws.alloc (.cells #[.int .i32 0, .int .i32 0, .int .i32 0, .int .i32 0] 30)) (HS.alloc _) (fun _ => ?_)
        clear hK KK
        have RBb := hide (Blk.new ws #[.int .i32 0, .int .i32 0, .int .i32 0, .int .i32 0] 30)
        have RLb := hide (Below.size HS)
        have HS2 := HS.alloc (.cells #[.int .i32 0, .int .i32 0, .int .i32 0, .int .i32 0] 30)
        clear HS
        have HS := HS2
        clear HS2
        generalize ws.alloc (.cells #[.int .i32 0, .int .i32 0, .int .i32 0, .int .i32 0] 30) = wa at HS RBb ⊢
        try simp only [Act.put, List.setIfInBounds_toArray, List.set_cons_zero, List.set_cons_succ]
        refine wpAnyH_ready (rs := [12, 13]) (by kernel_rfl) (by simp) (AllReadyH.cons (o := { dst := some 75, op := Op.call { callee := Callee.value (Operand.func 25), args := #[Operand.tmp 69, Operand.tmp 70, Operand.tmp 72, Operand.tmp 74], argTypes := #[24, 3, 2, 2] }, type := 30, pos := _, after := _, guard := none }) rfl (fun KK hK => ?_) (AllReadyH.cons (o := { dst := some 18, op := Op.alloc 30, type := 0, pos := _, after := _, guard := none }) rfl (fun KK hK => ?_) AllReadyH.nil))
        · go_simp
          refine ((unhide HTX _ HS).2).mono ?_
          rintro e ws ⟨rfl, hxs⟩
          have RBb := hide ((unhide RBb).ext hxs)
          have HS2 := HS.trans hxs
          clear hxs HS
          have HS := HS2
          clear HS2
          refine hK.out _ _ HS (fun _ => ?_)
          clear hK KK
          try simp only [Act.put, List.setIfInBounds_toArray, List.set_cons_zero, List.set_cons_succ]
          refine wpAnyH_ready (rs := [13]) (by kernel_rfl) (by simp) (AllReadyH.cons (o := { dst := some 18, op := Op.alloc 30, type := 0, pos := _, after := _, guard := none }) rfl (fun KK hK => ?_) AllReadyH.nil)
          refine Eq.mpr (if_pos (by rfl)) ?_
          go_simp
          refine hK.out _ (ws.alloc (.cells #[.int .i32 0, .int .i32 0, .int .i32 0, .int .i32 0] 30)) (HS.alloc _) (fun _ => ?_)
          clear hK KK
          have NE := hide (show _ ≠ _ from Nat.ne_of_lt (unhide RBb).lt)
          have RBb := hide ((unhide RBb).alloc (.cells #[.int .i32 0, .int .i32 0, .int .i32 0, .int .i32 0] 30))
          have RBa := hide (Blk.new ws #[.int .i32 0, .int .i32 0, .int .i32 0, .int .i32 0] 30)
          have RLa := hide (Below.size HS)
          have HS2 := HS.alloc (.cells #[.int .i32 0, .int .i32 0, .int .i32 0, .int .i32 0] 30)
          clear HS
          have HS := HS2
          clear HS2
          generalize ws.alloc (.cells #[.int .i32 0, .int .i32 0, .int .i32 0, .int .i32 0] 30) = wa at HS RBb RBa ⊢
          try simp only [Act.put, List.setIfInBounds_toArray, List.set_cons_zero, List.set_cons_succ]
          refine wpAnyH_ready (rs := [15]) (by kernel_rfl) (by simp) (AllReadyH.cons (o := { dst := none, op := Op.store 30 (Operand.tmp 18) (Operand.tmp 68), type := 0, pos := _, after := _, guard := none }) rfl (fun KK hK => ?_) AllReadyH.nil)
          refine Eq.mpr (if_pos (by rfl)) ?_
          refine wp_store_row 30 (.tmp 18) (.tmp 68) rfl _ #[.int .i32 (txI I lev i (j + 1) 0), .int .i32 (txI I lev i (j + 1) 1), .int .i32 (txI I lev i (j + 1) 2), .int .i32 (txI I lev i (j + 1) 3)] rfl rfl 30 _ (unhide RBa) size35 rfl (by simp [Value.oneCell']) ?_
          refine hK.out _ _ (ext_row HS (unhide RLa)) (fun _ => ?_)
          clear hK KK
          have RBb := hide (Blk.rowOther (cs' := #[.int .i32 (txI I lev i (j + 1) 0), .int .i32 (txI I lev i (j + 1) 1), .int .i32 (txI I lev i (j + 1) 2), .int .i32 (txI I lev i (j + 1) 3)]) (unhide RBb) (unhide NE))
          have RBa := hide (Blk.row (cs' := #[.int .i32 (txI I lev i (j + 1) 0), .int .i32 (txI I lev i (j + 1) 1), .int .i32 (txI I lev i (j + 1) 2), .int .i32 (txI I lev i (j + 1) 3)]) (unhide RBa))
          have HS2 := ext_row (cs := #[.int .i32 (txI I lev i (j + 1) 0), .int .i32 (txI I lev i (j + 1) 1), .int .i32 (txI I lev i (j + 1) 2), .int .i32 (txI I lev i (j + 1) 3)]) HS (unhide RLa)
          clear HS
          have HS := HS2
          clear HS2
          try simp only [Act.put, List.setIfInBounds_toArray, List.set_cons_zero, List.set_cons_succ]
          refine wpAnyH_ready (rs := [16]) (by kernel_rfl) (by simp) (AllReadyH.cons (o := { dst := none, op := Op.store 30 (Operand.tmp 19) (Operand.tmp 75), type := 0, pos := _, after := _, guard := none }) rfl (fun KK hK => ?_) AllReadyH.nil)
          refine Eq.mpr (if_pos (by rfl)) ?_
          refine wp_store_row 30 (.tmp 19) (.tmp 75) rfl _ #[.int .i32 (txI I lev (i + 1) (j + 1) 0), .int .i32 (txI I lev (i + 1) (j + 1) 1), .int .i32 (txI I lev (i + 1) (j + 1) 2), .int .i32 (txI I lev (i + 1) (j + 1) 3)] rfl rfl 30 _ (unhide RBb) size35 rfl (by simp [Value.oneCell']) ?_
          refine hK.out _ _ (ext_row HS (unhide RLb)) (fun _ => ?_)
          clear hK KK
          have RBa := hide (Blk.rowOther (cs' := #[.int .i32 (txI I lev (i + 1) (j + 1) 0), .int .i32 (txI I lev (i + 1) (j + 1) 1), .int .i32 (txI I lev (i + 1) (j + 1) 2), .int .i32 (txI I lev (i + 1) (j + 1) 3)]) (unhide RBa) (Ne.symm (unhide NE)))
          have RBb := hide (Blk.row (cs' := #[.int .i32 (txI I lev (i + 1) (j + 1) 0), .int .i32 (txI I lev (i + 1) (j + 1) 1), .int .i32 (txI I lev (i + 1) (j + 1) 2), .int .i32 (txI I lev (i + 1) (j + 1) 3)]) (unhide RBb))
          have HS2 := ext_row (cs := #[.int .i32 (txI I lev (i + 1) (j + 1) 0), .int .i32 (txI I lev (i + 1) (j + 1) 1), .int .i32 (txI I lev (i + 1) (j + 1) 2), .int .i32 (txI I lev (i + 1) (j + 1) 3)]) HS (unhide RLb)
          clear HS
          have HS := HS2
          clear HS2
          try simp only [Act.put, List.setIfInBounds_toArray, List.set_cons_zero, List.set_cons_succ]
          refine wpAnyH_done (by kernel_rfl) ?_ _
          refine NoPanic.normal ?_
          go_wp2
          go_meet
          exact ⟨_, _, _, rfl, rfl, rfl, unhide RBa, unhide RBb, HS⟩
        · refine Eq.mpr (if_pos (by rfl)) ?_
          go_simp
          refine hK.out _ (wa.alloc (.cells #[.int .i32 0, .int .i32 0, .int .i32 0, .int .i32 0] 30)) (HS.alloc _) (fun _ => ?_)
          clear hK KK
          have NE := hide (show _ ≠ _ from Nat.ne_of_lt (unhide RBb).lt)
          have RBb := hide ((unhide RBb).alloc (.cells #[.int .i32 0, .int .i32 0, .int .i32 0, .int .i32 0] 30))
          have RBa := hide (Blk.new wa #[.int .i32 0, .int .i32 0, .int .i32 0, .int .i32 0] 30)
          have RLa := hide (Below.size HS)
          have HS2 := HS.alloc (.cells #[.int .i32 0, .int .i32 0, .int .i32 0, .int .i32 0] 30)
          clear HS
          have HS := HS2
          clear HS2
          generalize wa.alloc (.cells #[.int .i32 0, .int .i32 0, .int .i32 0, .int .i32 0] 30) = wa at HS RBb RBa ⊢
          try simp only [Act.put, List.setIfInBounds_toArray, List.set_cons_zero, List.set_cons_succ]
          refine wpAnyH_ready (rs := [12]) (by kernel_rfl) (by simp) (AllReadyH.cons (o := { dst := some 75, op := Op.call { callee := Callee.value (Operand.func 25), args := #[Operand.tmp 69, Operand.tmp 70, Operand.tmp 72, Operand.tmp 74], argTypes := #[24, 3, 2, 2] }, type := 30, pos := _, after := _, guard := none }) rfl (fun KK hK => ?_) AllReadyH.nil)
          go_simp
          refine ((unhide HTX _ HS).2).mono ?_
          rintro e ws ⟨rfl, hxs⟩
          have RBb := hide ((unhide RBb).ext hxs)
          have RBa := hide ((unhide RBa).ext hxs)
          have HS2 := HS.trans hxs
          clear hxs HS
          have HS := HS2
          clear HS2
          refine hK.out _ _ HS (fun _ => ?_)
          clear hK KK
          try simp only [Act.put, List.setIfInBounds_toArray, List.set_cons_zero, List.set_cons_succ]
          refine wpAnyH_ready (rs := [15]) (by kernel_rfl) (by simp) (AllReadyH.cons (o := { dst := none, op := Op.store 30 (Operand.tmp 18) (Operand.tmp 68), type := 0, pos := _, after := _, guard := none }) rfl (fun KK hK => ?_) AllReadyH.nil)
          refine Eq.mpr (if_pos (by rfl)) ?_
          refine wp_store_row 30 (.tmp 18) (.tmp 68) rfl _ #[.int .i32 (txI I lev i (j + 1) 0), .int .i32 (txI I lev i (j + 1) 1), .int .i32 (txI I lev i (j + 1) 2), .int .i32 (txI I lev i (j + 1) 3)] rfl rfl 30 _ (unhide RBa) size35 rfl (by simp [Value.oneCell']) ?_
          refine hK.out _ _ (ext_row HS (unhide RLa)) (fun _ => ?_)
          clear hK KK
          have RBb := hide (Blk.rowOther (cs' := #[.int .i32 (txI I lev i (j + 1) 0), .int .i32 (txI I lev i (j + 1) 1), .int .i32 (txI I lev i (j + 1) 2), .int .i32 (txI I lev i (j + 1) 3)]) (unhide RBb) (unhide NE))
          have RBa := hide (Blk.row (cs' := #[.int .i32 (txI I lev i (j + 1) 0), .int .i32 (txI I lev i (j + 1) 1), .int .i32 (txI I lev i (j + 1) 2), .int .i32 (txI I lev i (j + 1) 3)]) (unhide RBa))
          have HS2 := ext_row (cs := #[.int .i32 (txI I lev i (j + 1) 0), .int .i32 (txI I lev i (j + 1) 1), .int .i32 (txI I lev i (j + 1) 2), .int .i32 (txI I lev i (j + 1) 3)]) HS (unhide RLa)
          clear HS
          have HS := HS2
          clear HS2
          try simp only [Act.put, List.setIfInBounds_toArray, List.set_cons_zero, List.set_cons_succ]
          refine wpAnyH_ready (rs := [16]) (by kernel_rfl) (by simp) (AllReadyH.cons (o := { dst := none, op := Op.store 30 (Operand.tmp 19) (Operand.tmp 75), type := 0, pos := _, after := _, guard := none }) rfl (fun KK hK => ?_) AllReadyH.nil)
          refine Eq.mpr (if_pos (by rfl)) ?_
          refine wp_store_row 30 (.tmp 19) (.tmp 75) rfl _ #[.int .i32 (txI I lev (i + 1) (j + 1) 0), .int .i32 (txI I lev (i + 1) (j + 1) 1), .int .i32 (txI I lev (i + 1) (j + 1) 2), .int .i32 (txI I lev (i + 1) (j + 1) 3)] rfl rfl 30 _ (unhide RBb) size35 rfl (by simp [Value.oneCell']) ?_
          refine hK.out _ _ (ext_row HS (unhide RLb)) (fun _ => ?_)
          clear hK KK
          have RBa := hide (Blk.rowOther (cs' := #[.int .i32 (txI I lev (i + 1) (j + 1) 0), .int .i32 (txI I lev (i + 1) (j + 1) 1), .int .i32 (txI I lev (i + 1) (j + 1) 2), .int .i32 (txI I lev (i + 1) (j + 1) 3)]) (unhide RBa) (Ne.symm (unhide NE)))
          have RBb := hide (Blk.row (cs' := #[.int .i32 (txI I lev (i + 1) (j + 1) 0), .int .i32 (txI I lev (i + 1) (j + 1) 1), .int .i32 (txI I lev (i + 1) (j + 1) 2), .int .i32 (txI I lev (i + 1) (j + 1) 3)]) (unhide RBb))
          have HS2 := ext_row (cs := #[.int .i32 (txI I lev (i + 1) (j + 1) 0), .int .i32 (txI I lev (i + 1) (j + 1) 1), .int .i32 (txI I lev (i + 1) (j + 1) 2), .int .i32 (txI I lev (i + 1) (j + 1) 3)]) HS (unhide RLb)
          clear HS
          have HS := HS2
          clear HS2
          try simp only [Act.put, List.setIfInBounds_toArray, List.set_cons_zero, List.set_cons_succ]
          refine wpAnyH_done (by kernel_rfl) ?_ _
          refine NoPanic.normal ?_
          go_wp2
          go_meet
          exact ⟨_, _, _, rfl, rfl, rfl, unhide RBa, unhide RBb, HS⟩
    · refine Eq.mpr (if_pos (by rfl)) ?_
      go_simp
      refine hK.out _ (w4.drew.alloc (.cells #[.int .i32 0, .int .i32 0, .int .i32 0, .int .i32 0] 30)) (HS.alloc _) (fun _ => ?_)
      clear hK KK
      have RBa := hide (Blk.new w4.drew #[.int .i32 0, .int .i32 0, .int .i32 0, .int .i32 0] 30)
      have RLa := hide (Below.size HS)
      have HS2 := HS.alloc (.cells #[.int .i32 0, .int .i32 0, .int .i32 0, .int .i32 0] 30)
      clear HS
      have HS := HS2
      clear HS2
      generalize w4.drew.alloc (.cells #[.int .i32 0, .int .i32 0, .int .i32 0, .int .i32 0] 30) = wa at HS RBa ⊢
      try simp only [Act.put, List.setIfInBounds_toArray, List.set_cons_zero, List.set_cons_succ]
      refine wpAnyH_ready (rs := [5, 14]) (by kernel_rfl) (by simp) (AllReadyH.cons (o := { dst := some 68, op := Op.call { callee := Callee.value (Operand.func 25), args := #[Operand.tmp 63, Operand.tmp 64, Operand.tmp 65, Operand.tmp 67], argTypes := #[24, 3, 2, 2] }, type := 30, pos := _, after := _, guard := none }) rfl (fun KK hK => ?_) (AllReadyH.cons (o := { dst := some 19, op := Op.alloc 30, type := 0, pos := _, after := _, guard := none }) rfl (fun KK hK => ?_) AllReadyH.nil))
      · go_simp
        refine ((unhide HTX _ HS).1).mono ?_
        rintro e ws ⟨rfl, hxs⟩
        have RBa := hide ((unhide RBa).ext hxs)
        have HS2 := HS.trans hxs
        clear hxs HS
        have HS := HS2
        clear HS2
        refine hK.out _ _ HS (fun _ => ?_)
        clear hK KK
        try simp only [Act.put, List.setIfInBounds_toArray, List.set_cons_zero, List.set_cons_succ]
        refine wpAnyH_ready (rs := [12, 14]) (by kernel_rfl) (by simp) (AllReadyH.cons (o := { dst := some 75, op := Op.call { callee := Callee.value (Operand.func 25), args := #[Operand.tmp 69, Operand.tmp 70, Operand.tmp 72, Operand.tmp 74], argTypes := #[24, 3, 2, 2] }, type := 30, pos := _, after := _, guard := none }) rfl (fun KK hK => ?_) (AllReadyH.cons (o := { dst := some 19, op := Op.alloc 30, type := 0, pos := _, after := _, guard := none }) rfl (fun KK hK => ?_) AllReadyH.nil))
        · go_simp
          refine ((unhide HTX _ HS).2).mono ?_
          rintro e ws ⟨rfl, hxs⟩
          have RBa := hide ((unhide RBa).ext hxs)
          have HS2 := HS.trans hxs
          clear hxs HS
          have HS := HS2
          clear HS2
          refine hK.out _ _ HS (fun _ => ?_)
          clear hK KK
          try simp only [Act.put, List.setIfInBounds_toArray, List.set_cons_zero, List.set_cons_succ]
          refine wpAnyH_ready (rs := [14]) (by kernel_rfl) (by simp) (AllReadyH.cons (o := { dst := some 19, op := Op.alloc 30, type := 0, pos := _, after := _, guard := none }) rfl (fun KK hK => ?_) AllReadyH.nil)
          refine Eq.mpr (if_pos (by rfl)) ?_
          go_simp
          refine hK.out _ (ws.alloc (.cells #[.int .i32 0, .int .i32 0, .int .i32 0, .int .i32 0] 30)) (HS.alloc _) (fun _ => ?_)
          clear hK KK
          have NE := hide (show _ ≠ _ from Nat.ne_of_lt (unhide RBa).lt)
          have RBa := hide ((unhide RBa).alloc (.cells #[.int .i32 0, .int .i32 0, .int .i32 0, .int .i32 0] 30))
          have RBb := hide (Blk.new ws #[.int .i32 0, .int .i32 0, .int .i32 0, .int .i32 0] 30)
          have RLb := hide (Below.size HS)
          have HS2 := HS.alloc (.cells #[.int .i32 0, .int .i32 0, .int .i32 0, .int .i32 0] 30)
          clear HS
          have HS := HS2
          clear HS2
          generalize ws.alloc (.cells #[.int .i32 0, .int .i32 0, .int .i32 0, .int .i32 0] 30) = wa at HS RBa RBb ⊢
          try simp only [Act.put, List.setIfInBounds_toArray, List.set_cons_zero, List.set_cons_succ]
          refine wpAnyH_ready (rs := [15]) (by kernel_rfl) (by simp) (AllReadyH.cons (o := { dst := none, op := Op.store 30 (Operand.tmp 18) (Operand.tmp 68), type := 0, pos := _, after := _, guard := none }) rfl (fun KK hK => ?_) AllReadyH.nil)
          refine Eq.mpr (if_pos (by rfl)) ?_
          refine wp_store_row 30 (.tmp 18) (.tmp 68) rfl _ #[.int .i32 (txI I lev i (j + 1) 0), .int .i32 (txI I lev i (j + 1) 1), .int .i32 (txI I lev i (j + 1) 2), .int .i32 (txI I lev i (j + 1) 3)] rfl rfl 30 _ (unhide RBa) size35 rfl (by simp [Value.oneCell']) ?_
          refine hK.out _ _ (ext_row HS (unhide RLa)) (fun _ => ?_)
          clear hK KK
          have RBb := hide (Blk.rowOther (cs' := #[.int .i32 (txI I lev i (j + 1) 0), .int .i32 (txI I lev i (j + 1) 1), .int .i32 (txI I lev i (j + 1) 2), .int .i32 (txI I lev i (j + 1) 3)]) (unhide RBb) (Ne.symm (unhide NE)))
          have RBa := hide (Blk.row (cs' := #[.int .i32 (txI I lev i (j + 1) 0), .int .i32 (txI I lev i (j + 1) 1), .int .i32 (txI I lev i (j + 1) 2), .int .i32 (txI I lev i (j + 1) 3)]) (unhide RBa))
          have HS2 := ext_row (cs := #[.int .i32 (txI I lev i (j + 1) 0), .int .i32 (txI I lev i (j + 1) 1), .int .i32 (txI I lev i (j + 1) 2), .int .i32 (txI I lev i (j + 1) 3)]) HS (unhide RLa)
          clear HS
          have HS := HS2
          clear HS2
          try simp only [Act.put, List.setIfInBounds_toArray, List.set_cons_zero, List.set_cons_succ]
          refine wpAnyH_ready (rs := [16]) (by kernel_rfl) (by simp) (AllReadyH.cons (o := { dst := none, op := Op.store 30 (Operand.tmp 19) (Operand.tmp 75), type := 0, pos := _, after := _, guard := none }) rfl (fun KK hK => ?_) AllReadyH.nil)
          refine Eq.mpr (if_pos (by rfl)) ?_
          refine wp_store_row 30 (.tmp 19) (.tmp 75) rfl _ #[.int .i32 (txI I lev (i + 1) (j + 1) 0), .int .i32 (txI I lev (i + 1) (j + 1) 1), .int .i32 (txI I lev (i + 1) (j + 1) 2), .int .i32 (txI I lev (i + 1) (j + 1) 3)] rfl rfl 30 _ (unhide RBb) size35 rfl (by simp [Value.oneCell']) ?_
          refine hK.out _ _ (ext_row HS (unhide RLb)) (fun _ => ?_)
          clear hK KK
          have RBa := hide (Blk.rowOther (cs' := #[.int .i32 (txI I lev (i + 1) (j + 1) 0), .int .i32 (txI I lev (i + 1) (j + 1) 1), .int .i32 (txI I lev (i + 1) (j + 1) 2), .int .i32 (txI I lev (i + 1) (j + 1) 3)]) (unhide RBa) (unhide NE))
          have RBb := hide (Blk.row (cs' := #[.int .i32 (txI I lev (i + 1) (j + 1) 0), .int .i32 (txI I lev (i + 1) (j + 1) 1), .int .i32 (txI I lev (i + 1) (j + 1) 2), .int .i32 (txI I lev (i + 1) (j + 1) 3)]) (unhide RBb))
          have HS2 := ext_row (cs := #[.int .i32 (txI I lev (i + 1) (j + 1) 0), .int .i32 (txI I lev (i + 1) (j + 1) 1), .int .i32 (txI I lev (i + 1) (j + 1) 2), .int .i32 (txI I lev (i + 1) (j + 1) 3)]) HS (unhide RLb)
          clear HS
          have HS := HS2
          clear HS2
          try simp only [Act.put, List.setIfInBounds_toArray, List.set_cons_zero, List.set_cons_succ]
          refine wpAnyH_done (by kernel_rfl) ?_ _
          refine NoPanic.normal ?_
          go_wp2
          go_meet
          exact ⟨_, _, _, rfl, rfl, rfl, unhide RBa, unhide RBb, HS⟩
        · refine Eq.mpr (if_pos (by rfl)) ?_
          go_simp
          refine hK.out _ (ws.alloc (.cells #[.int .i32 0, .int .i32 0, .int .i32 0, .int .i32 0] 30)) (HS.alloc _) (fun _ => ?_)
          clear hK KK
          have NE := hide (show _ ≠ _ from Nat.ne_of_lt (unhide RBa).lt)
          have RBa := hide ((unhide RBa).alloc (.cells #[.int .i32 0, .int .i32 0, .int .i32 0, .int .i32 0] 30))
          have RBb := hide (Blk.new ws #[.int .i32 0, .int .i32 0, .int .i32 0, .int .i32 0] 30)
          have RLb := hide (Below.size HS)
          have HS2 := HS.alloc (.cells #[.int .i32 0, .int .i32 0, .int .i32 0, .int .i32 0] 30)
          clear HS
          have HS := HS2
          clear HS2
          generalize ws.alloc (.cells #[.int .i32 0, .int .i32 0, .int .i32 0, .int .i32 0] 30) = wa at HS RBa RBb ⊢
          try simp only [Act.put, List.setIfInBounds_toArray, List.set_cons_zero, List.set_cons_succ]
          refine wpAnyH_ready (rs := [12]) (by kernel_rfl) (by simp) (AllReadyH.cons (o := { dst := some 75, op := Op.call { callee := Callee.value (Operand.func 25), args := #[Operand.tmp 69, Operand.tmp 70, Operand.tmp 72, Operand.tmp 74], argTypes := #[24, 3, 2, 2] }, type := 30, pos := _, after := _, guard := none }) rfl (fun KK hK => ?_) AllReadyH.nil)
          go_simp
          refine ((unhide HTX _ HS).2).mono ?_
          rintro e ws ⟨rfl, hxs⟩
          have RBa := hide ((unhide RBa).ext hxs)
          have RBb := hide ((unhide RBb).ext hxs)
          have HS2 := HS.trans hxs
          clear hxs HS
          have HS := HS2
          clear HS2
          refine hK.out _ _ HS (fun _ => ?_)
          clear hK KK
          try simp only [Act.put, List.setIfInBounds_toArray, List.set_cons_zero, List.set_cons_succ]
          refine wpAnyH_ready (rs := [15]) (by kernel_rfl) (by simp) (AllReadyH.cons (o := { dst := none, op := Op.store 30 (Operand.tmp 18) (Operand.tmp 68), type := 0, pos := _, after := _, guard := none }) rfl (fun KK hK => ?_) AllReadyH.nil)
          refine Eq.mpr (if_pos (by rfl)) ?_
          refine wp_store_row 30 (.tmp 18) (.tmp 68) rfl _ #[.int .i32 (txI I lev i (j + 1) 0), .int .i32 (txI I lev i (j + 1) 1), .int .i32 (txI I lev i (j + 1) 2), .int .i32 (txI I lev i (j + 1) 3)] rfl rfl 30 _ (unhide RBa) size35 rfl (by simp [Value.oneCell']) ?_
          refine hK.out _ _ (ext_row HS (unhide RLa)) (fun _ => ?_)
          clear hK KK
          have RBb := hide (Blk.rowOther (cs' := #[.int .i32 (txI I lev i (j + 1) 0), .int .i32 (txI I lev i (j + 1) 1), .int .i32 (txI I lev i (j + 1) 2), .int .i32 (txI I lev i (j + 1) 3)]) (unhide RBb) (Ne.symm (unhide NE)))
          have RBa := hide (Blk.row (cs' := #[.int .i32 (txI I lev i (j + 1) 0), .int .i32 (txI I lev i (j + 1) 1), .int .i32 (txI I lev i (j + 1) 2), .int .i32 (txI I lev i (j + 1) 3)]) (unhide RBa))
          have HS2 := ext_row (cs := #[.int .i32 (txI I lev i (j + 1) 0), .int .i32 (txI I lev i (j + 1) 1), .int .i32 (txI I lev i (j + 1) 2), .int .i32 (txI I lev i (j + 1) 3)]) HS (unhide RLa)
          clear HS
          have HS := HS2
          clear HS2
          try simp only [Act.put, List.setIfInBounds_toArray, List.set_cons_zero, List.set_cons_succ]
          refine wpAnyH_ready (rs := [16]) (by kernel_rfl) (by simp) (AllReadyH.cons (o := { dst := none, op := Op.store 30 (Operand.tmp 19) (Operand.tmp 75), type := 0, pos := _, after := _, guard := none }) rfl (fun KK hK => ?_) AllReadyH.nil)
          refine Eq.mpr (if_pos (by rfl)) ?_
          refine wp_store_row 30 (.tmp 19) (.tmp 75) rfl _ #[.int .i32 (txI I lev (i + 1) (j + 1) 0), .int .i32 (txI I lev (i + 1) (j + 1) 1), .int .i32 (txI I lev (i + 1) (j + 1) 2), .int .i32 (txI I lev (i + 1) (j + 1) 3)] rfl rfl 30 _ (unhide RBb) size35 rfl (by simp [Value.oneCell']) ?_
          refine hK.out _ _ (ext_row HS (unhide RLb)) (fun _ => ?_)
          clear hK KK
          have RBa := hide (Blk.rowOther (cs' := #[.int .i32 (txI I lev (i + 1) (j + 1) 0), .int .i32 (txI I lev (i + 1) (j + 1) 1), .int .i32 (txI I lev (i + 1) (j + 1) 2), .int .i32 (txI I lev (i + 1) (j + 1) 3)]) (unhide RBa) (unhide NE))
          have RBb := hide (Blk.row (cs' := #[.int .i32 (txI I lev (i + 1) (j + 1) 0), .int .i32 (txI I lev (i + 1) (j + 1) 1), .int .i32 (txI I lev (i + 1) (j + 1) 2), .int .i32 (txI I lev (i + 1) (j + 1) 3)]) (unhide RBb))
          have HS2 := ext_row (cs := #[.int .i32 (txI I lev (i + 1) (j + 1) 0), .int .i32 (txI I lev (i + 1) (j + 1) 1), .int .i32 (txI I lev (i + 1) (j + 1) 2), .int .i32 (txI I lev (i + 1) (j + 1) 3)]) HS (unhide RLb)
          clear HS
          have HS := HS2
          clear HS2
          try simp only [Act.put, List.setIfInBounds_toArray, List.set_cons_zero, List.set_cons_succ]
          refine wpAnyH_done (by kernel_rfl) ?_ _
          refine NoPanic.normal ?_
          go_wp2
          go_meet
          exact ⟨_, _, _, rfl, rfl, rfl, unhide RBa, unhide RBb, HS⟩
      · refine Eq.mpr (if_pos (by rfl)) ?_
        go_simp
        refine hK.out _ (wa.alloc (.cells #[.int .i32 0, .int .i32 0, .int .i32 0, .int .i32 0] 30)) (HS.alloc _) (fun _ => ?_)
        clear hK KK
        have NE := hide (show _ ≠ _ from Nat.ne_of_lt (unhide RBa).lt)
        have RBa := hide ((unhide RBa).alloc (.cells #[.int .i32 0, .int .i32 0, .int .i32 0, .int .i32 0] 30))
        have RBb := hide (Blk.new wa #[.int .i32 0, .int .i32 0, .int .i32 0, .int .i32 0] 30)
        have RLb := hide (Below.size HS)
        have HS2 := HS.alloc (.cells #[.int .i32 0, .int .i32 0, .int .i32 0, .int .i32 0] 30)
        clear HS
        have HS := HS2
        clear HS2
        generalize wa.alloc (.cells #[.int .i32 0, .int .i32 0, .int .i32 0, .int .i32 0] 30) = wa at HS RBa RBb ⊢
        try simp only [Act.put, List.setIfInBounds_toArray, List.set_cons_zero, List.set_cons_succ]
        refine wpAnyH_ready (rs := [5]) (by kernel_rfl) (by simp) (AllReadyH.cons (o := { dst := some 68, op := Op.call { callee := Callee.value (Operand.func 25), args := #[Operand.tmp 63, Operand.tmp 64, Operand.tmp 65, Operand.tmp 67], argTypes := #[24, 3, 2, 2] }, type := 30, pos := _, after := _, guard := none }) rfl (fun KK hK => ?_) AllReadyH.nil)
        go_simp
        refine ((unhide HTX _ HS).1).mono ?_
        rintro e ws ⟨rfl, hxs⟩
        have RBa := hide ((unhide RBa).ext hxs)
        have RBb := hide ((unhide RBb).ext hxs)
        have HS2 := HS.trans hxs
        clear hxs HS
        have HS := HS2
        clear HS2
        refine hK.out _ _ HS (fun _ => ?_)
        clear hK KK
        try simp only [Act.put, List.setIfInBounds_toArray, List.set_cons_zero, List.set_cons_succ]
        refine wpAnyH_ready (rs := [12]) (by kernel_rfl) (by simp) (AllReadyH.cons (o := { dst := some 75, op := Op.call { callee := Callee.value (Operand.func 25), args := #[Operand.tmp 69, Operand.tmp 70, Operand.tmp 72, Operand.tmp 74], argTypes := #[24, 3, 2, 2] }, type := 30, pos := _, after := _, guard := none }) rfl (fun KK hK => ?_) AllReadyH.nil)
        go_simp
        refine ((unhide HTX _ HS).2).mono ?_
        rintro e ws ⟨rfl, hxs⟩
        have RBa := hide ((unhide RBa).ext hxs)
        have RBb := hide ((unhide RBb).ext hxs)
        have HS2 := HS.trans hxs
        clear hxs HS
        have HS := HS2
        clear HS2
        refine hK.out _ _ HS (fun _ => ?_)
        clear hK KK
        try simp only [Act.put, List.setIfInBounds_toArray, List.set_cons_zero, List.set_cons_succ]
        refine wpAnyH_ready (rs := [15]) (by kernel_rfl) (by simp) (AllReadyH.cons (o := { dst := none, op := Op.store 30 (Operand.tmp 18) (Operand.tmp 68), type := 0, pos := _, after := _, guard := none }) rfl (fun KK hK => ?_) AllReadyH.nil)
        refine Eq.mpr (if_pos (by rfl)) ?_
        refine wp_store_row 30 (.tmp 18) (.tmp 68) rfl _ #[.int .i32 (txI I lev i (j + 1) 0), .int .i32 (txI I lev i (j + 1) 1), .int .i32 (txI I lev i (j + 1) 2), .int .i32 (txI I lev i (j + 1) 3)] rfl rfl 30 _ (unhide RBa) size35 rfl (by simp [Value.oneCell']) ?_
        refine hK.out _ _ (ext_row HS (unhide RLa)) (fun _ => ?_)
        clear hK KK
        have RBb := hide (Blk.rowOther (cs' := #[.int .i32 (txI I lev i (j + 1) 0), .int .i32 (txI I lev i (j + 1) 1), .int .i32 (txI I lev i (j + 1) 2), .int .i32 (txI I lev i (j + 1) 3)]) (unhide RBb) (Ne.symm (unhide NE)))
        have RBa := hide (Blk.row (cs' := #[.int .i32 (txI I lev i (j + 1) 0), .int .i32 (txI I lev i (j + 1) 1), .int .i32 (txI I lev i (j + 1) 2), .int .i32 (txI I lev i (j + 1) 3)]) (unhide RBa))
        have HS2 := ext_row (cs := #[.int .i32 (txI I lev i (j + 1) 0), .int .i32 (txI I lev i (j + 1) 1), .int .i32 (txI I lev i (j + 1) 2), .int .i32 (txI I lev i (j + 1) 3)]) HS (unhide RLa)
        clear HS
        have HS := HS2
        clear HS2
        try simp only [Act.put, List.setIfInBounds_toArray, List.set_cons_zero, List.set_cons_succ]
        refine wpAnyH_ready (rs := [16]) (by kernel_rfl) (by simp) (AllReadyH.cons (o := { dst := none, op := Op.store 30 (Operand.tmp 19) (Operand.tmp 75), type := 0, pos := _, after := _, guard := none }) rfl (fun KK hK => ?_) AllReadyH.nil)
        refine Eq.mpr (if_pos (by rfl)) ?_
        refine wp_store_row 30 (.tmp 19) (.tmp 75) rfl _ #[.int .i32 (txI I lev (i + 1) (j + 1) 0), .int .i32 (txI I lev (i + 1) (j + 1) 1), .int .i32 (txI I lev (i + 1) (j + 1) 2), .int .i32 (txI I lev (i + 1) (j + 1) 3)] rfl rfl 30 _ (unhide RBb) size35 rfl (by simp [Value.oneCell']) ?_
        refine hK.out _ _ (ext_row HS (unhide RLb)) (fun _ => ?_)
        clear hK KK
        have RBa := hide (Blk.rowOther (cs' := #[.int .i32 (txI I lev (i + 1) (j + 1) 0), .int .i32 (txI I lev (i + 1) (j + 1) 1), .int .i32 (txI I lev (i + 1) (j + 1) 2), .int .i32 (txI I lev (i + 1) (j + 1) 3)]) (unhide RBa) (unhide NE))
        have RBb := hide (Blk.row (cs' := #[.int .i32 (txI I lev (i + 1) (j + 1) 0), .int .i32 (txI I lev (i + 1) (j + 1) 1), .int .i32 (txI I lev (i + 1) (j + 1) 2), .int .i32 (txI I lev (i + 1) (j + 1) 3)]) (unhide RBb))
        have HS2 := ext_row (cs := #[.int .i32 (txI I lev (i + 1) (j + 1) 0), .int .i32 (txI I lev (i + 1) (j + 1) 1), .int .i32 (txI I lev (i + 1) (j + 1) 2), .int .i32 (txI I lev (i + 1) (j + 1) 3)]) HS (unhide RLb)
        clear HS
        have HS := HS2
        clear HS2
        try simp only [Act.put, List.setIfInBounds_toArray, List.set_cons_zero, List.set_cons_succ]
        refine wpAnyH_done (by kernel_rfl) ?_ _
        refine NoPanic.normal ?_
        go_wp2
        go_meet
        exact ⟨_, _, _, rfl, rfl, rfl, unhide RBa, unhide RBb, HS⟩
    · refine Eq.mpr (if_pos (by rfl)) ?_
      go_simp
      refine hK.out _ (w4.drew.alloc (.cells #[.int .i32 0, .int .i32 0, .int .i32 0, .int .i32 0] 30)) (HS.alloc _) (fun _ => ?_)
      clear hK KK
      have RBb := hide (Blk.new w4.drew #[.int .i32 0, .int .i32 0, .int .i32 0, .int .i32 0] 30)
      have RLb := hide (Below.size HS)
      have HS2 := HS.alloc (.cells #[.int .i32 0, .int .i32 0, .int .i32 0, .int .i32 0] 30)
      clear HS
      have HS := HS2
      clear HS2
      generalize w4.drew.alloc (.cells #[.int .i32 0, .int .i32 0, .int .i32 0, .int .i32 0] 30) = wa at HS RBb ⊢
      try simp only [Act.put, List.setIfInBounds_toArray, List.set_cons_zero, List.set_cons_succ]
      refine wpAnyH_ready (rs := [5, 13]) (by kernel_rfl) (by simp) (AllReadyH.cons (o := { dst := some 68, op := Op.call { callee := Callee.value (Operand.func 25), args := #[Operand.tmp 63, Operand.tmp 64, Operand.tmp 65, Operand.tmp 67], argTypes := #[24, 3, 2, 2] }, type := 30, pos := _, after := _, guard := none }) rfl (fun KK hK => ?_) (AllReadyH.cons (o := { dst := some 18, op := Op.alloc 30, type := 0, pos := _, after := _, guard := none }) rfl (fun KK hK => ?_) AllReadyH.nil))
      · go_simp
        refine ((unhide HTX _ HS).1).mono ?_
        rintro e ws ⟨rfl, hxs⟩
        have RBb := hide ((unhide RBb).ext hxs)
        have HS2 := HS.trans hxs
        clear hxs HS
        have HS := HS2
        clear HS2
        refine hK.out _ _ HS (fun _ => ?_)
        clear hK KK
        try simp only [Act.put, List.setIfInBounds_toArray, List.set_cons_zero, List.set_cons_succ]
        refine wpAnyH_ready (rs := [12, 13]) (by kernel_rfl) (by simp) (AllReadyH.cons (o := { dst := some 75, op := Op.call { callee := Callee.value (Operand.func 25), args := #[Operand.tmp 69, Operand.tmp 70, Operand.tmp 72, Operand.tmp 74], argTypes := #[24, 3, 2, 2] }, type := 30, pos := _, after := _, guard := none }) rfl (fun KK hK => ?_) (AllReadyH.cons (o := { dst := some 18, op := Op.alloc 30, type := 0, pos := _, after := _, guard := none }) rfl (fun KK hK => ?_) AllReadyH.nil))
        · go_simp
          refine ((unhide HTX _ HS).2).mono ?_
          rintro e ws ⟨rfl, hxs⟩
          have RBb := hide ((unhide RBb).ext hxs)
          have HS2 := HS.trans hxs
          clear hxs HS
          have HS := HS2
          clear HS2
          refine hK.out _ _ HS (fun _ => ?_)
          clear hK KK
          try simp only [Act.put, List.setIfInBounds_toArray, List.set_cons_zero, List.set_cons_succ]
          refine wpAnyH_ready (rs := [13]) (by kernel_rfl) (by simp) (AllReadyH.cons (o := { dst := some 18, op := Op.alloc 30, type := 0, pos := _, after := _, guard := none }) rfl (fun KK hK => ?_) AllReadyH.nil)
          refine Eq.mpr (if_pos (by rfl)) ?_
          go_simp
          refine hK.out _ (ws.alloc (.cells #[.int .i32 0, .int .i32 0, .int .i32 0, .int .i32 0] 30)) (HS.alloc _) (fun _ => ?_)
          clear hK KK
          have NE := hide (show _ ≠ _ from Nat.ne_of_lt (unhide RBb).lt)
          have RBb := hide ((unhide RBb).alloc (.cells #[.int .i32 0, .int .i32 0, .int .i32 0, .int .i32 0] 30))
          have RBa := hide (Blk.new ws #[.int .i32 0, .int .i32 0, .int .i32 0, .int .i32 0] 30)
          have RLa := hide (Below.size HS)
          have HS2 := HS.alloc (.cells #[.int .i32 0, .int .i32 0, .int .i32 0, .int .i32 0] 30)
          clear HS
          have HS := HS2
          clear HS2
          generalize ws.alloc (.cells #[.int .i32 0, .int .i32 0, .int .i32 0, .int .i32 0] 30) = wa at HS RBb RBa ⊢
          try simp only [Act.put, List.setIfInBounds_toArray, List.set_cons_zero, List.set_cons_succ]
          refine wpAnyH_ready (rs := [15]) (by kernel_rfl) (by simp) (AllReadyH.cons (o := { dst := none, op := Op.store 30 (Operand.tmp 18) (Operand.tmp 68), type := 0, pos := _, after := _, guard := none }) rfl (fun KK hK => ?_) AllReadyH.nil)
          refine Eq.mpr (if_pos (by rfl)) ?_
          refine wp_store_row 30 (.tmp 18) (.tmp 68) rfl _ #[.int .i32 (txI I lev i (j + 1) 0), .int .i32 (txI I lev i (j + 1) 1), .int .i32 (txI I lev i (j + 1) 2), .int .i32 (txI I lev i (j + 1) 3)] rfl rfl 30 _ (unhide RBa) size35 rfl (by simp [Value.oneCell']) ?_
          refine hK.out _ _ (ext_row HS (unhide RLa)) (fun _ => ?_)
          clear hK KK
          have RBb := hide (Blk.rowOther (cs' := #[.int .i32 (txI I lev i (j + 1) 0), .int .i32 (txI I lev i (j + 1) 1), .int .i32 (txI I lev i (j + 1) 2), .int .i32 (txI I lev i (j + 1) 3)]) (unhide RBb) (unhide NE))
          have RBa := hide (Blk.row (cs' := #[.int .i32 (txI I lev i (j + 1) 0), .int .i32 (txI I lev i (j + 1) 1), .int .i32 (txI I lev i (j + 1) 2), .int .i32 (txI I lev i (j + 1) 3)]) (unhide RBa))
          have HS2 := ext_row (cs := #[.int .i32 (txI I lev i (j + 1) 0), .int .i32 (txI I lev i (j + 1) 1), .int .i32 (txI I lev i (j + 1) 2), .int .i32 (txI I lev i (j + 1) 3)]) HS (unhide RLa)
          clear HS
          have HS := HS2
          clear HS2
          try simp only [Act.put, List.setIfInBounds_toArray, List.set_cons_zero, List.set_cons_succ]
          refine wpAnyH_ready (rs := [16]) (by kernel_rfl) (by simp) (AllReadyH.cons (o := { dst := none, op := Op.store 30 (Operand.tmp 19) (Operand.tmp 75), type := 0, pos := _, after := _, guard := none }) rfl (fun KK hK => ?_) AllReadyH.nil)
          refine Eq.mpr (if_pos (by rfl)) ?_
          refine wp_store_row 30 (.tmp 19) (.tmp 75) rfl _ #[.int .i32 (txI I lev (i + 1) (j + 1) 0), .int .i32 (txI I lev (i + 1) (j + 1) 1), .int .i32 (txI I lev (i + 1) (j + 1) 2), .int .i32 (txI I lev (i + 1) (j + 1) 3)] rfl rfl 30 _ (unhide RBb) size35 rfl (by simp [Value.oneCell']) ?_
          refine hK.out _ _ (ext_row HS (unhide RLb)) (fun _ => ?_)
          clear hK KK
          have RBa := hide (Blk.rowOther (cs' := #[.int .i32 (txI I lev (i + 1) (j + 1) 0), .int .i32 (txI I lev (i + 1) (j + 1) 1), .int .i32 (txI I lev (i + 1) (j + 1) 2), .int .i32 (txI I lev (i + 1) (j + 1) 3)]) (unhide RBa) (Ne.symm (unhide NE)))
          have RBb := hide (Blk.row (cs' := #[.int .i32 (txI I lev (i + 1) (j + 1) 0), .int .i32 (txI I lev (i + 1) (j + 1) 1), .int .i32 (txI I lev (i + 1) (j + 1) 2), .int .i32 (txI I lev (i + 1) (j + 1) 3)]) (unhide RBb))
          have HS2 := ext_row (cs := #[.int .i32 (txI I lev (i + 1) (j + 1) 0), .int .i32 (txI I lev (i + 1) (j + 1) 1), .int .i32 (txI I lev (i + 1) (j + 1) 2), .int .i32 (txI I lev (i + 1) (j + 1) 3)]) HS (unhide RLb)
          clear HS
          have HS := HS2
          clear HS2
          try simp only [Act.put, List.setIfInBounds_toArray, List.set_cons_zero, List.set_cons_succ]
          refine wpAnyH_done (by kernel_rfl) ?_ _
          refine NoPanic.normal ?_
          go_wp2
          go_meet
          exact ⟨_, _, _, rfl, rfl, rfl, unhide RBa, unhide RBb, HS⟩
        · refine Eq.mpr (if_pos (by rfl)) ?_
          go_simp
          refine hK.out _ (ws.alloc (.cells #[.int .i32 0, .int .i32 0, .int .i32 0, .int .i32 0] 30)) (HS.alloc _) (fun _ => ?_)
          clear hK KK
          have NE := hide (show _ ≠ _ from Nat.ne_of_lt (unhide RBb).lt)
          have RBb := hide ((unhide RBb).alloc (.cells #[.int .i32 0, .int .i32 0, .int .i32 0, .int .i32 0] 30))
          have RBa := hide (Blk.new ws #[.int .i32 0, .int .i32 0, .int .i32 0, .int .i32 0] 30)
          have RLa := hide (Below.size HS)
          have HS2 := HS.alloc (.cells #[.int .i32 0, .int .i32 0, .int .i32 0, .int .i32 0] 30)
          clear HS
          have HS := HS2
          clear HS2
          generalize ws.alloc (.cells #[.int .i32 0, .int .i32 0, .int .i32 0, .int .i32 0] 30) = wa at HS RBb RBa ⊢
          try simp only [Act.put, List.setIfInBounds_toArray, List.set_cons_zero, List.set_cons_succ]
          refine wpAnyH_ready (rs := [12]) (by kernel_rfl) (by simp) (AllReadyH.cons (o := { dst := some 75, op := Op.call { callee := Callee.value (Operand.func 25), args := #[Operand.tmp 69, Operand.tmp 70, Operand.tmp 72, Operand.tmp 74], argTypes := #[24, 3, 2, 2] }, type := 30, pos := _, after := _, guard := none }) rfl (fun KK hK => ?_) AllReadyH.nil)
          go_simp
          refine ((unhide HTX _ HS).2).mono ?_
          rintro e ws ⟨rfl, hxs⟩
          have RBb := hide ((unhide RBb).ext hxs)
          have RBa := hide ((unhide RBa).ext hxs)
          have HS2 := HS.trans hxs
          clear hxs HS
          have HS := HS2
          clear HS2
          refine hK.out _ _ HS (fun _ => ?_)
          clear hK KK
          try simp only [Act.put, List.setIfInBounds_toArray, List.set_cons_zero, List.set_cons_succ]
          refine wpAnyH_ready (rs := [15]) (by kernel_rfl) (by simp) (AllReadyH.cons (o := { dst := none, op := Op.store 30 (Operand.tmp 18) (Operand.tmp 68), type := 0, pos := _, after := _, guard := none }) rfl (fun KK hK => ?_) AllReadyH.nil)
          refine Eq.mpr (if_pos (by rfl)) ?_
          refine wp_store_row 30 (.tmp 18) (.tmp 68) rfl _ #[.int .i32 (txI I lev i (j + 1) 0), .int .i32 (txI I lev i (j + 1) 1), .int .i32 (txI I lev i (j + 1) 2), .int .i32 (txI I lev i (j + 1) 3)] rfl rfl 30 _ (unhide RBa) size35 rfl (by simp [Value.oneCell']) ?_
          refine hK.out _ _ (ext_row HS (unhide RLa)) (fun _ => ?_)
          clear hK KK
          have RBb := hide (Blk.rowOther (cs' := #[.int .i32 (txI I lev i (j + 1) 0), .int .i32 (txI I lev i (j + 1) 1), .int .i32 (txI I lev i (j + 1) 2), .int .i32 (txI I lev i (j + 1) 3)]) (unhide RBb) (unhide NE))
          have RBa := hide (Blk.row (cs' := #[.int .i32 (txI I lev i (j + 1) 0), .int .i32 (txI I lev i (j + 1) 1), .int .i32 (txI I lev i (j + 1) 2), .int .i32 (txI I lev i (j + 1) 3)]) (unhide RBa))
          have HS2 := ext_row (cs := #[.int .i32 (txI I lev i (j + 1) 0), .int .i32 (txI I lev i (j + 1) 1), .int .i32 (txI I lev i (j + 1) 2), .int .i32 (txI I lev i (j + 1) 3)]) HS (unhide RLa)
          clear HS
          have HS := HS2
          clear HS2
          try simp only [Act.put, List.setIfInBounds_toArray, List.set_cons_zero, List.set_cons_succ]
          refine wpAnyH_ready (rs := [16]) (by kernel_rfl) (by simp) (AllReadyH.cons (o := { dst := none, op := Op.store 30 (Operand.tmp 19) (Operand.tmp 75), type := 0, pos := _, after := _, guard := none }) rfl (fun KK hK => ?_) AllReadyH.nil)
          refine Eq.mpr (if_pos (by rfl)) ?_
          refine wp_store_row 30 (.tmp 19) (.tmp 75) rfl _ #[.int .i32 (txI I lev (i + 1) (j + 1) 0), .int .i32 (txI I lev (i + 1) (j + 1) 1), .int .i32 (txI I lev (i + 1) (j + 1) 2), .int .i32 (txI I lev (i + 1) (j + 1) 3)] rfl rfl 30 _ (unhide RBb) size35 rfl (by simp [Value.oneCell']) ?_
          refine hK.out _ _ (ext_row HS (unhide RLb)) (fun _ => ?_)
          clear hK KK
          have RBa := hide (Blk.rowOther (cs' := #[.int .i32 (txI I lev (i + 1) (j + 1) 0), .int .i32 (txI I lev (i + 1) (j + 1) 1), .int .i32 (txI I lev (i + 1) (j + 1) 2), .int .i32 (txI I lev (i + 1) (j + 1) 3)]) (unhide RBa) (Ne.symm (unhide NE)))
          have RBb := hide (Blk.row (cs' := #[.int .i32 (txI I lev (i + 1) (j + 1) 0), .int .i32 (txI I lev (i + 1) (j + 1) 1), .int .i32 (txI I lev (i + 1) (j + 1) 2), .int .i32 (txI I lev (i + 1) (j + 1) 3)]) (unhide RBb))
          have HS2 := ext_row (cs := #[.int .i32 (txI I lev (i + 1) (j + 1) 0), .int .i32 (txI I lev (i + 1) (j + 1) 1), .int .i32 (txI I lev (i + 1) (j + 1) 2), .int .i32 (txI I lev (i + 1) (j + 1) 3)]) HS (unhide RLb)
          clear HS
          have HS := HS2
          clear HS2
          try simp only [Act.put, List.setIfInBounds_toArray, List.set_cons_zero, List.set_cons_succ]
          refine wpAnyH_done (by kernel_rfl) ?_ _
          refine NoPanic.normal ?_
          go_wp2
          go_meet
          exact ⟨_, _, _, rfl, rfl, rfl, unhide RBa, unhide RBb, HS⟩
      · refine Eq.mpr (if_pos (by rfl)) ?_
        go_simp
        refine hK.out _ (wa.alloc (.cells #[.int .i32 0, .int .i32 0, .int .i32 0, .int .i32 0] 30)) (HS.alloc _) (fun _ => ?_)
        clear hK KK
        have NE := hide (show _ ≠ _ from Nat.ne_of_lt (unhide RBb).lt)
        have RBb := hide ((unhide RBb).alloc (.cells #[.int .i32 0, .int .i32 0, .int .i32 0, .int .i32 0] 30))
        have RBa := hide (Blk.new wa #[.int .i32 0, .int .i32 0, .int .i32 0, .int .i32 0] 30)
        have RLa := hide (Below.size HS)
        have HS2 := HS.alloc (.cells #[.int .i32 0, .int .i32 0, .int .i32 0, .int .i32 0] 30)
        clear HS
        have HS := HS2
        clear HS2
        generalize wa.alloc (.cells #[.int .i32 0, .int .i32 0, .int .i32 0, .int .i32 0] 30) = wa at HS RBb RBa ⊢
        try simp only [Act.put, List.setIfInBounds_toArray, List.set_cons_zero, List.set_cons_succ]
        refine wpAnyH_ready (rs := [5]) (by kernel_rfl) (by simp) (AllReadyH.cons (o := { dst := some 68, op := Op.call { callee := Callee.value (Operand.func 25), args := #[Operand.tmp 63, Operand.tmp 64, Operand.tmp 65, Operand.tmp 67], argTypes := #[24, 3, 2, 2] }, type := 30, pos := _, after := _, guard := none }) rfl (fun KK hK => ?_) AllReadyH.nil)
        go_simp
        refine ((unhide HTX _ HS).1).mono ?_
        rintro e ws ⟨rfl, hxs⟩
        have RBb := hide ((unhide RBb).ext hxs)
        have RBa := hide ((unhide RBa).ext hxs)
        have HS2 := HS.trans hxs
        clear hxs HS
        have HS := HS2
        clear HS2
        refine hK.out _ _ HS (fun _ => ?_)
        clear hK KK
        try simp only [Act.put, List.setIfInBounds_toArray, List.set_cons_zero, List.set_cons_succ]
        refine wpAnyH_ready (rs := [12]) (by kernel_rfl) (by simp) (AllReadyH.cons (o := { dst := some 75, op := Op.call { callee := Callee.value (Operand.func 25), args := #[Operand.tmp 69, Operand.tmp 70, Operand.tmp 72, Operand.tmp 74], argTypes := #[24, 3, 2, 2] }, type := 30, pos := _, after := _, guard := none }) rfl (fun KK hK => ?_) AllReadyH.nil)
        go_simp
        refine ((unhide HTX _ HS).2).mono ?_
        rintro e ws ⟨rfl, hxs⟩
        have RBb := hide ((unhide RBb).ext hxs)
        have RBa := hide ((unhide RBa).ext hxs)
        have HS2 := HS.trans hxs
        clear hxs HS
        have HS := HS2
        clear HS2
        refine hK.out _ _ HS (fun _ => ?_)
        clear hK KK
        try simp only [Act.put, List.setIfInBounds_toArray, List.set_cons_zero, List.set_cons_succ]
        refine wpAnyH_ready (rs := [15]) (by kernel_rfl) (by simp) (AllReadyH.cons (o := { dst := none, op := Op.store 30 (Operand.tmp 18) (Operand.tmp 68), type := 0, pos := _, after := _, guard := none }) rfl (fun KK hK => ?_) AllReadyH.nil)
        refine Eq.mpr (if_pos (by rfl)) ?_
        refine wp_store_row 30 (.tmp 18) (.tmp 68) rfl _ #[.int .i32 (txI I lev i (j + 1) 0), .int .i32 (txI I lev i (j + 1) 1), .int .i32 (txI I lev i (j + 1) 2), .int .i32 (txI I lev i (j + 1) 3)] rfl rfl 30 _ (unhide RBa) size35 rfl (by simp [Value.oneCell']) ?_
        refine hK.out _ _ (ext_row HS (unhide RLa)) (fun _ => ?_)
        clear hK KK
        have RBb := hide (Blk.rowOther (cs' := #[.int .i32 (txI I lev i (j + 1) 0), .int .i32 (txI I lev i (j + 1) 1), .int .i32 (txI I lev i (j + 1) 2), .int .i32 (txI I lev i (j + 1) 3)]) (unhide RBb) (unhide NE))
        have RBa := hide (Blk.row (cs' := #[.int .i32 (txI I lev i (j + 1) 0), .int .i32 (txI I lev i (j + 1) 1), .int .i32 (txI I lev i (j + 1) 2), .int .i32 (txI I lev i (j + 1) 3)]) (unhide RBa))
        have HS2 := ext_row (cs := #[.int .i32 (txI I lev i (j + 1) 0), .int .i32 (txI I lev i (j + 1) 1), .int .i32 (txI I lev i (j + 1) 2), .int .i32 (txI I lev i (j + 1) 3)]) HS (unhide RLa)
        clear HS
        have HS := HS2
        clear HS2
        try simp only [Act.put, List.setIfInBounds_toArray, List.set_cons_zero, List.set_cons_succ]
        refine wpAnyH_ready (rs := [16]) (by kernel_rfl) (by simp) (AllReadyH.cons (o := { dst := none, op := Op.store 30 (Operand.tmp 19) (Operand.tmp 75), type := 0, pos := _, after := _, guard := none }) rfl (fun KK hK => ?_) AllReadyH.nil)
        refine Eq.mpr (if_pos (by rfl)) ?_
        refine wp_store_row 30 (.tmp 19) (.tmp 75) rfl _ #[.int .i32 (txI I lev (i + 1) (j + 1) 0), .int .i32 (txI I lev (i + 1) (j + 1) 1), .int .i32 (txI I lev (i + 1) (j + 1) 2), .int .i32 (txI I lev (i + 1) (j + 1) 3)] rfl rfl 30 _ (unhide RBb) size35 rfl (by simp [Value.oneCell']) ?_
        refine hK.out _ _ (ext_row HS (unhide RLb)) (fun _ => ?_)
        clear hK KK
        have RBa := hide (Blk.rowOther (cs' := #[.int .i32 (txI I lev (i + 1) (j + 1) 0), .int .i32 (txI I lev (i + 1) (j + 1) 1), .int .i32 (txI I lev (i + 1) (j + 1) 2), .int .i32 (txI I lev (i + 1) (j + 1) 3)]) (unhide RBa) (Ne.symm (unhide NE)))
        have RBb := hide (Blk.row (cs' := #[.int .i32 (txI I lev (i + 1) (j + 1) 0), .int .i32 (txI I lev (i + 1) (j + 1) 1), .int .i32 (txI I lev (i + 1) (j + 1) 2), .int .i32 (txI I lev (i + 1) (j + 1) 3)]) (unhide RBb))
        have HS2 := ext_row (cs := #[.int .i32 (txI I lev (i + 1) (j + 1) 0), .int .i32 (txI I lev (i + 1) (j + 1) 1), .int .i32 (txI I lev (i + 1) (j + 1) 2), .int .i32 (txI I lev (i + 1) (j + 1) 3)]) HS (unhide RLb)
        clear HS
        have HS := HS2
        clear HS2
        try simp only [Act.put, List.setIfInBounds_toArray, List.set_cons_zero, List.set_cons_succ]
        refine wpAnyH_done (by kernel_rfl) ?_ _
        refine NoPanic.normal ?_
        go_wp2
        go_meet
        exact ⟨_, _, _, rfl, rfl, rfl, unhide RBa, unhide RBb, HS⟩
  case rest =>
  obtain ⟨w5, rc, rd, rfl, rfl, rfl, hVc, hVd, hx5⟩ := hcut
  have hX5 := (unhide H2).1.trans ((unhide H4).2.2.trans hx5)
  have H5 : Hid (RlS w (w5.alloc (.cells #[.int .i32 0, .int .i32 0, .int .i32 0, .int .i32 0] 30)) ra rb rc rd w5.heap.size (txI I lev i j) (txI I lev (i + 1) j) (txI I lev i (j + 1)) (txI I lev (i + 1) (j + 1)) (fun c => linI (txI I lev i j c) (txI I lev (i + 1) j c) (txI I lev i (j + 1) c) (txI I lev (i + 1) (j + 1) c) f g) 0) :=
    ⟨((unhide H4).1.ext hx5).alloc _, ((unhide H4).2.1.ext hx5).alloc _, hVc.alloc _, hVd.alloc _, ((unhide H2).2.2.2.ext ((unhide H4).2.2.trans hx5)).alloc _, Blk.new _ _ _, ⟨Nat.ne_of_lt ((unhide H4).1.ext hx5).lt, Nat.ne_of_lt ((unhide H4).2.1.ext hx5).lt, Nat.ne_of_lt hVc.lt, Nat.ne_of_lt hVd.lt, Nat.ne_of_lt ((unhide H2).2.2.2.ext ((unhide H4).2.2.trans hx5)).lt⟩, hX5.alloc _, hX5.size⟩
  have HTA : Hid (∀ c, c < 4 → 0 ≤ txI I lev i j c ∧ txI I lev i j c ≤ 65536) := fun c hc => unhide HTB _ _ c hc
  have HTBb : Hid (∀ c, c < 4 → 0 ≤ txI I lev (i + 1) j c ∧ txI I lev (i + 1) j c ≤ 65536) := fun c hc => unhide HTB _ _ c hc
  have HTC : Hid (∀ c, c < 4 → 0 ≤ txI I lev i (j + 1) c ∧ txI I lev i (j + 1) c ≤ 65536) := fun c hc => unhide HTB _ _ c hc
  have HTD : Hid (∀ c, c < 4 → 0 ≤ txI I lev (i + 1) (j + 1) c ∧ txI I lev (i + 1) (j + 1) c ≤ 65536) := fun c hc => unhide HTB _ _ c hc
  clear hVc hVd hx5 hX5 H4 H2 HTX HT0 HBI HTB gi gj HDW HDH ef eg g1 g2 gu gq
  generalize txI I lev i j = A at *
  generalize txI I lev (i + 1) j = B at *
  generalize txI I lev i (j + 1) = C at *
  generalize txI I lev (i + 1) (j + 1) = E at *
  go_upto_region 9 with fail
  generalize hw6 : w5.alloc (.cells #[.int .i32 0, .int .i32 0, .int .i32 0, .int .i32 0] 30) = w6 at H5 ⊢
  clear hw6
  go_wp2_with fail
  go_loopw [21] (fun iv wr => ∃ n : Nat, n ≤ 4 ∧ iv = .int .i64 (n : Int) ∧ RlS w wr ra rb rc rd w5.heap.size A B C E (fun c => linI (A c) (B c) (C c) (E c) f g) n) (fun iv _ => 4 - (intOf iv).toNat)
  case atStart => exact ⟨0, by omega, rfl, unhide H5⟩
  case round =>
    clear H5
    obtain ⟨n, hn, rfl, hI⟩ := hrel
    have HI := hide hI
    by_cases hlt : n < 4
    · have hnn : (n : Int) < 4 := by omega
      have ca := hI.a.vec n hlt
      have cb := hI.b.vec n hlt
      have cc := hI.c.vec n hlt
      have cd := hI.d.vec n hlt
      have co := hI.o.free n
      have co2 := hI.o.vec n hlt
      have ta := unhide HTA n hlt
      have tb := unhide HTBb n hlt
      have tc := unhide HTC n hlt
      have td := unhide HTD n hlt
      have HI9 := hide hI
      clear hI
      have HLI : Hid (linI (A n) (B n) (C n) (E n) f g = (A n * (65536 - f) * (65536 - g) + B n * f * (65536 - g) + C n * (65536 - f) * g + E n * f * g + 2147483648) / 4294967296) := by
        show _ = _
        unfold linI shS
        rw [Int.mul_assoc (A n), Int.mul_assoc (B n), Int.mul_assoc (C n), Int.mul_assoc (E n)]
      have HPUT : Hid (∀ nq, RlS w ((wr.drewN nq).setCell ⟨w5.heap.size, n, none⟩ (.int .i32 ((A n * (65536 - f) * (65536 - g) + B n * f * (65536 - g) + C n * (65536 - f) * g + E n * f * g + 2147483648) / 4294967296))) ra rb rc rd w5.heap.size A B C E (fun c => linI (A c) (B c) (C c) (E c) f g) (n + 1)) := fun nq => by
        have h9 := ((unhide HI9).later ((Ext.refl _).drewN nq)).put hlt
        have e9 := unhide HLI
        rw [← e9]
        exact h9
      clear HLI HI9
      generalize A n = a at *
      generalize B n = b' at *
      generalize C n = c at *
      generalize E n = d at *
      have s1 := rl_bd ta (show 0 ≤ 65536 - f ∧ 65536 - f ≤ 65536 by omega) (show 0 ≤ 65536 - g ∧ 65536 - g ≤ 65536 by omega)
      have s2 := rl_bd tb (show 0 ≤ f ∧ f ≤ 65536 by omega) (show 0 ≤ 65536 - g ∧ 65536 - g ≤ 65536 by omega)
      have s3 := rl_bd tc (show 0 ≤ 65536 - f ∧ 65536 - f ≤ 65536 by omega) (show 0 ≤ g ∧ g ≤ 65536 by omega)
      have s4 := rl_bd td (show 0 ≤ f ∧ f ≤ 65536 by omega) (show 0 ≤ g ∧ g ≤ 65536 by omega)
      have x0 : IntKind.i64.wrap (65536 - f) = 65536 - f := by simp [IntKind.wrap, IntKind.bits, IntKind.signed]; omega
      have x0' : IntKind.i64.wrap (65536 - g) = 65536 - g := by simp [IntKind.wrap, IntKind.bits, IntKind.signed]; omega
      have y1 : IntKind.i64.wrap a = a := by simp [IntKind.wrap, IntKind.bits, IntKind.signed]; omega
      have y2 : IntKind.i64.wrap b' = b' := by simp [IntKind.wrap, IntKind.bits, IntKind.signed]; omega
      have y3 : IntKind.i64.wrap c = c := by simp [IntKind.wrap, IntKind.bits, IntKind.signed]; omega
      have y4 : IntKind.i64.wrap d = d := by simp [IntKind.wrap, IntKind.bits, IntKind.signed]; omega
      have x1 : IntKind.i64.wrap (a * (65536 - f)) = a * (65536 - f) := by simp [IntKind.wrap, IntKind.bits, IntKind.signed]; omega
      have x2 : IntKind.i64.wrap (a * (65536 - f) * (65536 - g)) = a * (65536 - f) * (65536 - g) := by simp [IntKind.wrap, IntKind.bits, IntKind.signed]; omega
      have x3 : IntKind.i64.wrap (b' * f) = b' * f := by simp [IntKind.wrap, IntKind.bits, IntKind.signed]; omega
      have x4 : IntKind.i64.wrap (b' * f * (65536 - g)) = b' * f * (65536 - g) := by simp [IntKind.wrap, IntKind.bits, IntKind.signed]; omega
      have x5 : IntKind.i64.wrap (c * (65536 - f)) = c * (65536 - f) := by simp [IntKind.wrap, IntKind.bits, IntKind.signed]; omega
      have x6 : IntKind.i64.wrap (c * (65536 - f) * g) = c * (65536 - f) * g := by simp [IntKind.wrap, IntKind.bits, IntKind.signed]; omega
      have x7 : IntKind.i64.wrap (d * f) = d * f := by simp [IntKind.wrap, IntKind.bits, IntKind.signed]; omega
      have x8 : IntKind.i64.wrap (d * f * g) = d * f * g := by simp [IntKind.wrap, IntKind.bits, IntKind.signed]; omega
      have x9 : IntKind.i64.wrap (a * (65536 - f) * (65536 - g) + b' * f * (65536 - g)) = a * (65536 - f) * (65536 - g) + b' * f * (65536 - g) := by simp [IntKind.wrap, IntKind.bits, IntKind.signed]; omega
      have x10 : IntKind.i64.wrap (a * (65536 - f) * (65536 - g) + b' * f * (65536 - g) + c * (65536 - f) * g) = a * (65536 - f) * (65536 - g) + b' * f * (65536 - g) + c * (65536 - f) * g := by simp [IntKind.wrap, IntKind.bits, IntKind.signed]; omega
      have x11 : IntKind.i64.wrap (a * (65536 - f) * (65536 - g) + b' * f * (65536 - g) + c * (65536 - f) * g + d * f * g) = a * (65536 - f) * (65536 - g) + b' * f * (65536 - g) + c * (65536 - f) * g + d * f * g := by simp [IntKind.wrap, IntKind.bits, IntKind.signed]; omega
      have hS : 0 ≤ a * (65536 - f) * (65536 - g) + b' * f * (65536 - g) + c * (65536 - f) * g + d * f * g ∧ a * (65536 - f) * (65536 - g) + b' * f * (65536 - g) + c * (65536 - f) * g + d * f * g ≤ 1125899906842624 := by omega
      go_upto_region 12 with fail
      go_quiet (fail)
      generalize a * (65536 - f) * (65536 - g) + b' * f * (65536 - g) + c * (65536 - f) * g + d * f * g = P at *
      clear x1 x2 x3 x4 x5 x6 x7 x8 x9 x10 x11 s1 s2 s3 s4 y1 y2 y3 y4 x0 x0' ca cb cc cd
      obtain ⟨hS1, hS2⟩ := hS
      have hT : (P + 2147483648).tdiv 4294967296 = (P + 2147483648) / 4294967296 := Int.tdiv_eq_ediv_of_nonneg (by omega)
      go_wp2
      go_roundw
      case rel => exact ⟨n + 1, by omega, by go_num, unhide HPUT nq⟩
      case measure => simp [intOf]; omega
    · have hnn : ¬ (n : Int) < 4 := by omega
      obtain rfl : n = 4 := by omega
      obtain ⟨v0, v1, v2, v3⟩ := hI.o.vecs
      simp only [upTo] at v0 v1 v2 v3
      rw [if_pos (by omega)] at v0 v1 v2 v3
      rw [← unhide HN 0] at v0
      rw [← unhide HN 1] at v1
      rw [← unhide HN 2] at v2
      rw [← unhide HN 3] at v3
      obtain ⟨V, hV⟩ : ∃ V, V = lnI I lev u q := ⟨_, rfl⟩
      have HVE := hide hV
      rw [← hV] at v0 v1 v2 v3
      clear hV
      obtain ⟨r0, r1, r2, r3⟩ := hI.r.four
      obtain ⟨f0, f1, f2, f3, _⟩ := hI.r.frees
      have H9 := hide (And.intro (hI.r.put4 (.int .i32 (V 0)) (.int .i32 (V 1)) (.int .i32 (V 2)) (.int .i32 (V 3))) (ext_put4 (b := w.heap.size + 1) (a0 := .int .i32 (V 0)) (a1 := .int .i32 (V 1)) (a2 := .int .i32 (V 2)) (a3 := .int .i32 (V 3)) hI.ext (by omega)))
      clear hI HI
      go_wp2
      obtain ⟨t0, t1, t2, t3⟩ := (unhide H9).1.four
      refine bodyPost_ret (v := .agg #[.int .i32 (V 0), .int .i32 (V 1), .int .i32 (V 2), .int .i32 (V 3)]) (by simp [results, Try.results12, go_sem, t0, t1, t2, t3]) rfl ⟨by rw [unhide HVE], (unhide H9).2⟩
end
end Go.Proofs.Ytadajaoidhbmgaa
