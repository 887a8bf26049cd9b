/-
  Print: the text of tokens.
-/
import Derived.Test.YtgoldmohmjjngaaXN
namespace Go.Proofs.Ytgoldmohmjjngaa
open Go.RowKit
set_option linter.unusedSimpArgs false
set_option linter.unusedVariables false

theorem join_snoc : ∀ (L : List Tok) (t u : Tok), joinT (L ++ [t, u]) = joinT (L ++ [t]) ++ (if t.line < u.line then 10 else 32) :: u.text
  | [], t, u => by simp [joinT]
  | [a], t, u => by simp [joinT]
  | a :: b :: r, t, u => by
    have ih := join_snoc (b :: r) t u
    show a.text ++ _ :: joinT (b :: r ++ [t, u]) = (a.text ++ _ :: joinT (b :: r ++ [t])) ++ _
    rw [ih]
    simp
theorem join_step (A : List Tok) (j : Nat) (h : j + 1 < A.length) : joinT (A.take (j + 2)) = (joinT (A.take (j + 1)) ++ [if A[j].line < A[j + 1].line then 10 else 32]) ++ A[j + 1].text := by
  rw [show A.take (j + 2) = A.take j ++ [A[j], A[j + 1]] by rw [List.take_succ_eq_append_getElem (show j + 1 < A.length from h), List.take_succ_eq_append_getElem (show j < A.length by omega), List.append_assoc]; rfl, join_snoc, List.take_succ_eq_append_getElem (show j < A.length by omega)]
  simp
theorem short_text {t : Tok} (h : wrongP t = false) : t.text.length ≤ 8192 := by
  refine Nat.le_of_not_lt fun h2 => ?_
  unfold wrongP lexP at h
  rw [if_pos h2] at h
  simp [sameK, keys] at h
/-- What Print answers. -/
def printP (A : List Tok) : Byts8 := if checkE A = 0 then joinT A else []

set_option maxHeartbeats 4000000 in
set_option maxRecDepth 100000 in
theorem print_any (A : List Tok) (ao : Option Addr) (ca : Nat) (w : World) (m : Int) (hm : w.cell? ⟨0, 0, none⟩ = some (.int .i64 m)) (hA : TR w (.slice ao A.length ca) A) :
    Calls Try.prog 16 #[.slice ao A.length ca] w fun e w' => e = .returned (.string ⟨(printP A).toArray⟩) ∧ Ext w w' := by
  have HA := hide hA
  have HQ := hide (check_any A ao ca w m hm hA)
  clear hA hm
  unfold printP
  by_cases hc : checkE A = 0
  · rw [if_pos hc]
    have hA2 : A.length ≤ 2048 := by
      refine Nat.le_of_not_lt fun h => ?_
      unfold checkE at hc
      rw [if_pos (.inl h)] at hc
      cases hc
    have hsh : ∀ t ∈ A, t.text.length ≤ 8192 := fun t ht => by
      refine short_text ?_
      refine Bool.eq_false_iff.2 fun h => ?_
      unfold checkE at hc
      rw [if_pos (.inr (List.any_eq_true.2 ⟨t, ht, h⟩))] at hc
      cases hc
    rw [hc] at HQ
    have HSH := hide hsh
    clear hsh hc
    go_enter Try.func16, Try.ntmps16
    go_wp2_with fail
    refine (unhide HQ).mono ?_
    rintro e w0 ⟨rfl, hx0⟩
    have X0 := hide hx0
    clear hx0 HQ
    have HN0 := hide (BW.new w0)
    have HE0 : Hid (Below w0.heap.size w0 (w0.alloc (.cells #[.pointer none, .slice none 0 0] 53))) := (Ext.refl w0).alloc _
    go_wp2
    obtain ⟨base, hbase⟩ : ∃ n, n = w0.heap.size := ⟨_, rfl⟩
    rw [← hbase]
    have HBB : Hid (w.heap.size ≤ base) := by
      have h1 := (unhide X0).size
      rw [← hbase] at h1
      exact h1
    rw [← hbase] at HN0 HE0
    clear hbase
    go_loopw [11] (fun iv wr => ∃ (k : Nat) (l : Byts8), k ≤ A.length ∧ iv = .int .i64 k ∧ l = joinT (A.take k) ∧ l.length ≤ k * 8193 ∧ BW wr base base l ∧ Below base w0 wr ∧ base < wr.heap.size) (fun iv _ => A.length - (intOf iv).toNat)
    case atStart =>
      obtain ⟨_, _, _, hBl, _⟩ := unhide HN0
      exact ⟨0, [], by omega, rfl, by simp [joinT], by simp, unhide HN0, unhide HE0, hBl.lt⟩
    case round =>
      obtain ⟨k, l, hk, rfl, hl, hll, hbw, hbel, hsz⟩ := hrel
      have HL := hide hl
      have HBW0 := hide hbw
      have HE1 := hide hbel
      have HX : Hid (Ext w wr) := Below.trans (unhide X0) (hbel.mono (unhide HBB))
      clear hl hbw hbel HN0 HE0
      by_cases hlt : k < A.length
      · obtain ⟨b1, o1, rfl, h1⟩ := ((unhide HA).ext (unhide HX)).at k hlt
        have c0 := h1.kind; have c1 := h1.text; have c2 := h1.num; have c3 := h1.place; have c4 := h1.line
        clear h1
        have hshk := unhide HSH A[k] (List.getElem_mem hlt)
        have HTB := hide (Blk.new wr #[.int .i64 A[k].kind, .string ⟨A[k].text.toArray⟩, .int .i32 A[k].num, .int .i64 A[k].place, .int .i64 A[k].line] 33)
        have XW : Hid (Ext w (wr.alloc (.cells #[.int .i64 A[k].kind, .string ⟨A[k].text.toArray⟩, .int .i32 A[k].num, .int .i64 A[k].place, .int .i64 A[k].line] 33))) := (unhide HX).alloc _
        have HBW := hide ((unhide HBW0).ext ((Ext.refl wr).alloc (.cells #[.int .i64 A[k].kind, .string ⟨A[k].text.toArray⟩, .int .i32 A[k].num, .int .i64 A[k].place, .int .i64 A[k].line] 33)))
        have HE : Hid (Below base w0 (wr.alloc (.cells #[.int .i64 A[k].kind, .string ⟨A[k].text.toArray⟩, .int .i32 A[k].num, .int .i64 A[k].place, .int .i64 A[k].line] 33))) := (unhide HE1).alloc (Nat.le_of_lt hsz) _
        have HZ : Hid (base ≤ (wr.alloc (.cells #[.int .i64 A[k].kind, .string ⟨A[k].text.toArray⟩, .int .i32 A[k].num, .int .i64 A[k].place, .int .i64 A[k].line] 33)).heap.size) := by
          show base ≤ _
          rw [World.size_alloc]
          omega
        have HNB : Hid (wr.heap.size ≠ base) := Nat.ne_of_gt hsz
        rcases k with _ | j
        · have HLT : Hid (l ++ A[0].text = joinT (A.take 1)) := by
            show l ++ A[0].text = joinT (A.take 1)
            rw [unhide HL, List.take_succ_eq_append_getElem hlt]
            simp [joinT]
          have hll2 : (l ++ A[0].text).length ≤ 1 * 8193 := by rw [List.length_append]; omega
          simp only [Nat.zero_mul, Nat.add_zero] at c0 c1 c2 c3 c4
          generalize A[0] = y at *
          clear HL HBW0 HE1 HX
          go_wp2_with (go_at_call 30; refine (writeString_any base base (l) y.text _ (unhide HBW) (by omega) (by omega) (unhide HZ)).mono ?_; rintro e w7 ⟨⟨nn, rfl⟩, hbw7, hbl7, _⟩; have HBW7 := hide hbw7; have HE7 : Hid (Below base w0 w7) := Below.trans (unhide HE) hbl7; have HB7 : Hid (base < w7.heap.size) := (let ⟨_, _, _, hBl, _⟩ := unhide HBW7; hBl.lt); clear hbw7 hbl7)
          refine ⟨⟨0 + 1, _, by omega, rfl, unhide HLT, hll2, unhide HBW7, unhide HE7, unhide HB7⟩, ?_⟩
          simp [intOf]
          omega
        · have hjl : j < A.length := by omega
          have HLT : Hid ((l ++ [if A[j].line < A[j + 1].line then 10 else 32]) ++ A[j + 1].text = joinT (A.take (j + 1 + 1))) := by
            show (l ++ [if A[j].line < A[j + 1].line then 10 else 32]) ++ A[j + 1].text = joinT (A.take (j + 1 + 1))
            rw [unhide HL, ← join_step A j hlt]
          have hll2 : ((l ++ [if A[j].line < A[j + 1].line then 10 else 32]) ++ A[j + 1].text).length ≤ (j + 1 + 1) * 8193 := by
            rw [List.length_append, List.length_append]
            simp only [List.length_cons, List.length_nil]
            omega
          have HX1 : Hid (∀ wx, Ext w wx → TokAt wx b1 (o1 + j * 5) A[j]) := fun wx hx => by
            obtain ⟨b2, o2, e, h⟩ := ((unhide HA).ext hx).at j hjl
            cases e
            exact h
          have hl5 : l.length ≤ 1000000000 := by omega
          generalize A[j + 1] = y at *
          generalize A[j] = x at *
          clear HL HBW0 HE1 HX
          have d0 : decide ((0 : Int) < (j : Int) + 1) = true := by simp <;> omega
          go_wp2
          generalize wr.alloc (.cells #[.int .i64 y.kind, .string ⟨y.text.toArray⟩, .int .i32 y.num, .int .i64 y.place, .int .i64 y.line] 33) = wA at HTB XW HBW HE HZ ⊢
          refine wp_region_noPanic ?_
          refine wp_region_held_drew (S := fun wx => Ext w wx ∧ Blk wx wr.heap.size #[.int .i64 y.kind, .string ⟨y.text.toArray⟩, .int .i32 y.num, .int .i64 y.place, .int .i64 y.line] 33) (by kernel_rfl) ⟨(unhide XW).drew, unhide HTB⟩ (fun HS => ?_)
          refine wpAnyH_take (i := 0) (oi := { dst := some 18, op := Op.move (Operand.tmp 0), type := _, pos := _, after := _, guard := none }) (v := .slice (some ⟨b1, o1, none⟩) A.length ca) rfl (by kernel_rfl) (by kernel_rfl) (by kernel_rfl) (fun _ _ _ h => h) (Or.inl ⟨by rfl, fun wx hx => by go_simp⟩) HS ?_
          simp only [Act.put, List.setIfInBounds_toArray, List.set_cons_zero, List.set_cons_succ]
          refine wpAnyH_take (i := 1) (oi := { dst := some 19, op := Op.move (Operand.tmp 4), type := _, pos := _, after := _, guard := none }) (v := .int .i64 ((j + 1 : Nat) : Int)) rfl (by kernel_rfl) (by kernel_rfl) (by kernel_rfl) (fun _ _ _ h => h) (Or.inl ⟨by rfl, fun wx hx => by go_simp⟩) HS ?_
          simp only [Act.put, List.setIfInBounds_toArray, List.set_cons_zero, List.set_cons_succ]
          refine wpAnyH_take (i := 2) (oi := { dst := some 20, op := Op.binOp BinOp.sub 3 (Operand.tmp 19) (Operand.const (Value.int IntKind.i64 1)) 3, type := _, pos := _, after := _, guard := none }) (v := .int .i64 (j : Int)) rfl (by kernel_rfl) (by kernel_rfl) (by kernel_rfl) (fun _ _ _ h => h) (Or.inl ⟨by rfl, fun wx hx => by go_simp; exact wrapId (by omega) (by omega)⟩) HS ?_
          simp only [Act.put, List.setIfInBounds_toArray, List.set_cons_zero, List.set_cons_succ]
          refine wpAnyH_take (i := 3) (oi := { dst := some 21, op := Op.indexAddr 24 (Operand.tmp 18) (Operand.tmp 20), type := _, pos := _, after := _, guard := none }) (v := .pointer (some ⟨b1, o1 + j * 5, none⟩)) rfl (by kernel_rfl) (by kernel_rfl) (by kernel_rfl) (fun _ _ _ h => h) (Or.inl ⟨by rfl, fun wx hx => by go_simp⟩) HS ?_
          simp only [Act.put, List.setIfInBounds_toArray, List.set_cons_zero, List.set_cons_succ]
          refine wpAnyH_take (i := 4) (oi := { dst := some 22, op := Op.load 33 (Operand.tmp 21), type := _, pos := _, after := _, guard := none }) (v := .agg #[.int .i64 x.kind, .string ⟨x.text.toArray⟩, .int .i32 x.num, .int .i64 x.place, .int .i64 x.line]) rfl (by kernel_rfl) (by kernel_rfl) (by kernel_rfl) (fun _ _ _ h => h) (Or.inl ⟨by rfl, fun wx hx => by have ht := unhide HX1 wx hx.1; have c0 := ht.kind; have c1 := ht.text; have c2 := ht.num; have c3 := ht.place; have c4 := ht.line; go_simp⟩) HS ?_
          simp only [Act.put, List.setIfInBounds_toArray, List.set_cons_zero, List.set_cons_succ]
          refine wpAnyH_take (i := 5) (oi := { dst := some 23, op := Op.load 33 (Operand.tmp 5), type := _, pos := _, after := _, guard := none }) (v := .agg #[.int .i64 y.kind, .string ⟨y.text.toArray⟩, .int .i32 y.num, .int .i64 y.place, .int .i64 y.line]) rfl (by kernel_rfl) (by kernel_rfl) (by kernel_rfl) (fun _ _ _ h => h) (Or.inl ⟨by rfl, fun wx hx => by have d0 := hx.2.cell (i := 0) (v := .int .i64 y.kind) rfl; have d1 := hx.2.cell (i := 1) (v := .string ⟨y.text.toArray⟩) rfl; have d2 := hx.2.cell (i := 2) (v := .int .i32 y.num) rfl; have d3 := hx.2.cell (i := 3) (v := .int .i64 y.place) rfl; have d4 := hx.2.cell (i := 4) (v := .int .i64 y.line) rfl; go_simp⟩) HS ?_
          simp only [Act.put, List.setIfInBounds_toArray, List.set_cons_zero, List.set_cons_succ]
          refine wpAnyH_ready (rs := [6]) (by kernel_rfl) (by simp) (AllReadyH.cons (o := { dst := some 24, op := Op.call { callee := Callee.value (Operand.func 29), args := #[Operand.tmp 22, Operand.tmp 23], argTypes := #[33, 33] }, type := _, pos := _, after := _, guard := none }) rfl (fun KK hK => ?_) AllReadyH.nil)
          go_simp
          refine (parting_any x y _).mono ?_
          rintro e w5 ⟨rfl, hx5⟩
          have HBW5 := hide ((unhide HBW).ext ((Ext.drew (Ext.refl _)).trans hx5))
          have HZ5 : Hid (base ≤ w5.heap.size) := Nat.le_trans (unhide HZ) hx5.size
          have HE5 : Hid (Below base w0 w5) := Below.trans (Below.drew (unhide HE)) (Below.mono hx5 (unhide HZ))
          have HS2 : Ext w w5 ∧ Blk w5 wr.heap.size #[.int .i64 y.kind, .string ⟨y.text.toArray⟩, .int .i32 y.num, .int .i64 y.place, .int .i64 y.line] 33 := ⟨HS.1.trans hx5, HS.2.ext hx5⟩
          clear HS hx5 HBW HZ HE
          have HS := HS2
          clear HS2
          refine hK.out _ _ HS (fun _ => ?_)
          clear hK KK
          try simp only [Act.put, List.setIfInBounds_toArray, List.set_cons_zero, List.set_cons_succ]
          refine wpAnyH_ready (rs := [7]) (by kernel_rfl) (by simp) (AllReadyH.cons (o := { dst := some 25, op := Op.call { callee := Callee.value (Operand.func 28), args := #[Operand.tmp 3, Operand.tmp 24], argTypes := #[_, 5] }, type := _, pos := _, after := _, guard := none }) rfl (fun KK hK => ?_) AllReadyH.nil)
          go_simp
          refine (writeByte_any base base l _ w5 (unhide HBW5) (by omega) (unhide HZ5)).mono ?_
          rintro e w6 ⟨rfl, hbw6, hbl6, hkt6⟩
          have HS2 : Ext w w6 ∧ Blk w6 wr.heap.size #[.int .i64 y.kind, .string ⟨y.text.toArray⟩, .int .i32 y.num, .int .i64 y.place, .int .i64 y.line] 33 := ⟨Below.trans HS.1 (hbl6.mono (unhide HBB)), hkt6 _ _ _ HS.2 (unhide HNB) (by decide)⟩
          have HBW6 := hide hbw6
          have HE6 : Hid (Below base w0 w6) := Below.trans (unhide HE5) hbl6
          have HZ6 : Hid (base ≤ w6.heap.size) := Nat.le_trans (unhide HZ5) hbl6.size
          clear HS hbw6 hbl6 hkt6 HBW5 HE5 HZ5
          have HS := HS2
          clear HS2
          refine hK.out _ _ HS (fun _ => ?_)
          clear hK KK
          try simp only [Act.put, List.setIfInBounds_toArray, List.set_cons_zero, List.set_cons_succ]
          refine wpAnyH_done (by kernel_rfl) ?_ _
          refine NoPanic.normal ?_
          have hl6 : (l ++ [if x.line < y.line then 10 else 32]).length ≤ 1000000000 := by
            rw [List.length_append]
            simp only [List.length_cons, List.length_nil]
            omega
          have k1 := (HS.2).cell (i := 1) (v := .string ⟨y.text.toArray⟩) rfl
          go_wp2_with (go_at_call 30; refine (writeString_any base base (l ++ [if x.line < y.line then 10 else 32]) y.text w6 (unhide HBW6) (by omega) (by omega) (unhide HZ6)).mono ?_; rintro e w7 ⟨⟨nn, rfl⟩, hbw7, hbl7, _⟩; have HBW7 := hide hbw7; have HE7 : Hid (Below base w0 w7) := Below.trans (unhide HE6) hbl7; have HB7 : Hid (base < w7.heap.size) := (let ⟨_, _, _, hBl, _⟩ := unhide HBW7; hBl.lt); clear hbw7 hbl7)
          refine ⟨⟨j + 1 + 1, _, by omega, rfl, unhide HLT, hll2, unhide HBW7, unhide HE7, unhide HB7⟩, ?_⟩
          simp [intOf]
          omega
      · have hke : k = A.length := by omega
        have hlA : l = joinT A := by
          rw [unhide HL, hke, List.take_length]
        go_wp2_with fail
        refine (string_any base base l wr (unhide HBW0) (Nat.le_of_lt hsz)).mono ?_
        rintro e w7 ⟨rfl, hbl7⟩
        have HX7 : Hid (Ext w w7) := Below.trans (unhide HX) (hbl7.mono (unhide HBB))
        clear hbl7
        go_wp2
        go_ret
        exact ⟨rfl, unhide HX7⟩
  · have hc' : (checkE A == 0) = false := beq_eq_false_iff_ne.2 hc
    rw [if_neg hc]
    go_enter Try.func16, Try.ntmps16
    go_wp2_with fail
    refine (unhide HQ).mono ?_
    rintro e w0 ⟨rfl, hx0⟩
    go_wp2
    go_ret
    exact ⟨rfl, hx0⟩
end Go.Proofs.Ytgoldmohmjjngaa
