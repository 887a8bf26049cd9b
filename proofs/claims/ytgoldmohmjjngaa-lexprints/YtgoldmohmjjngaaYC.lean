/-
  The document's Right and Print.
-/
import Derived.Test.YtgoldmohmjjngaaYB
import Derived.Test.YtgoldmohmjjngaaXO
import Derived.Test.YtgoldmohmjjngaaXU
import Derived.Test.YtgoldmohmjjngaaXS
import Derived.Deep.QuietTactic
import Derived.BigQuiet
namespace Go.Proofs.Ytgoldmohmjjngaa
open Go.RowKit
set_option linter.unusedSimpArgs false
set_option linter.unusedVariables false

theorem val_top : ∀ (l : Byts8) (n : Int), 32768 ≤ n → 32768 ≤ l.foldl valF n
  | [], n, h => h
  | c :: l, n, h => by
    rw [List.foldl_cons]
    refine val_top l _ ?_
    unfold valF
    omega
theorem val_five (l : Byts8) (n : Int) (hn : 1 ≤ n) (hl : 5 ≤ l.length) : 32768 ≤ l.foldl valF n := by
  match l, hl with
  | a :: b :: c :: d :: e :: r, _ =>
    simp only [List.foldl_cons]
    refine val_top r _ ?_
    have step : ∀ (x : Int) (u : UInt8), min (10 * x) 32768 ≤ valF x u := fun x u => by unfold valF; omega
    have h1 := step n a
    have h2 := step (valF n a) b
    have h3 := step (valF (valF n a) b) c
    have h4 := step (valF (valF (valF n a) b) c) d
    have h5 := step (valF (valF (valF (valF n a) b) c) d) e
    omega
theorem piece_sort {l : Byts8} {k : Int} {z : Nat} (h : pieceP l = (k, z)) (h1 : k ≠ -1) (h2 : k ≠ -2) : k = 1 ∨ (k = 2 ∧ begN isDg l = true) ∨ k = 3 ∨ (k = 4 ∧ z ≤ 2) := by
  unfold pieceP at h
  split at h
  · cases h; exact absurd rfl h1
  · split at h
    · cases h; exact absurd rfl h1
    · split at h
      · unfold comP at h
        split at h
        · cases h; exact absurd rfl h2
        · cases h; exact absurd rfl h1
      · split at h
        · cases h; exact .inl rfl
        · split at h
          · rename_i hd
            unfold numP at h
            split at h
            · cases h; exact .inr (.inr (.inl rfl))
            · rename_i hp
              cases h
              refine .inr (.inl ⟨rfl, ?_⟩)
              rcases (Bool.or_eq_true _ _).mp hd with hd | hd
              · exact hd
              · exfalso
                obtain ⟨hd1, _⟩ := (Bool.and_eq_true _ _).mp hd
                apply hp
                have h0 : runN isDg l = 0 := by
                  cases l with
                  | nil => rfl
                  | cons b l =>
                    simp only [begN, isPt, decide_eq_true_eq] at hd1
                    unfold runN
                    rw [if_neg]
                    unfold isDg
                    simp
                    omega
                rw [h0]
                exact hd1
          · unfold signP at h
            split at h
            · cases h; exact .inr (.inr (.inr ⟨rfl, by omega⟩))
            · split at h
              · cases h; exact .inr (.inr (.inr ⟨rfl, by omega⟩))
              · cases h; exact absurd rfl h2
/-- A token's text is short. -/
theorem tok_short {x l2 : Byts8} {k : Int} (hp : pieceP (x ++ l2) = (k, x.length)) (h1 : k ≠ -1) (h2 : k ≠ -2) (ht : (tellP k x l2 0).2 = 0) : x.length ≤ 64 := by
  unfold tellP at ht
  split at ht
  · cases ht
  · rename_i hsp
    rw [if_neg (show ¬ (0 : Nat) = 2048 by decide)] at ht
    rcases piece_sort hp h1 h2 with rfl | ⟨rfl, hb⟩ | rfl | ⟨rfl, hz⟩
    · unfold measP at ht
      rw [if_pos rfl] at ht
      split at ht
      · cases ht
      · omega
    · unfold measP at ht
      rw [if_neg (by decide), if_pos rfl] at ht
      split at ht
      · rename_i hv
        refine Nat.le_of_not_lt fun hlen => ?_
        cases x with
        | nil => simp at hlen
        | cons c r =>
          simp only [List.length_cons] at hlen
          have hd : isDg c = true := hb
          have hc : ¬ c.toNat = 48 := fun e => by
            apply hsp
            unfold spoilt
            simp only [begN, List.length_cons]
            simp [e]
            omega
          have : 32768 ≤ valP (c :: r) := by
            unfold valP
            rw [List.foldl_cons]
            refine val_five r _ ?_ (by omega)
            unfold isDg at hd
            simp at hd
            unfold valF
            omega
          omega
      · cases ht
    · unfold measP at ht
      rw [if_neg (by decide), if_neg (by decide), if_pos rfl] at ht
      unfold parseI at ht
      split at ht
      · cases ht
      · omega
    · omega
/-- A token that may be: its text is short, is told without an error, and as it. -/
theorem right_tok {t : Tok} (h : wrongP t = false) : t.text.length ≤ 64 ∧ (lexP t.text).2.1 = 0 ∧ sameK (lexP t.text).1 [t] = true := by
  have hs : sameK (lexP t.text).1 [t] = true := by
    unfold wrongP at h
    simpa using h
  have hk : keys (lexP t.text).1 = [key t] := by
    have := of_decide_eq_true hs
    exact this
  have hne : (lexP t.text).1 ≠ [] := fun e => by rw [e] at hk; cases hk
  have hsm : ¬ 8192 < t.text.length := fun hl => by
    apply hne
    unfold lexP
    rw [if_pos hl]
  have hlp : lexP t.text = lexA t.text 0 0 0 := by unfold lexP; rw [if_neg hsm]
  rw [hlp] at hk hne hs ⊢
  have hf := lexA_form t.text 0 0 0
  have he : (lexA t.text 0 0 0).2.1 = 0 := Classical.byContradiction fun e => hne (hf.2 e)
  refine ⟨?_, he, hs⟩
  have hfull : lexA t.text 0 0 0 = ((lexA t.text 0 0 0).1, 0, 0) := by
    have h3 := hf.1 he
    generalize lexA t.text 0 0 0 = r at *
    obtain ⟨r1, r2, r3⟩ := r
    simp only at he h3
    rw [he, h3]
  obtain ⟨k, z, x, l2, tm, ts', ln2, e1, e2, e3, e4, e5, e6, e7, e8, e9, _⟩ := lex_first hfull hne
  rw [e9] at hk
  have hx : x = t.text := by
    have := (List.cons.inj hk).1
    unfold key at this
    simp only [Prod.mk.injEq] at this
    exact this.2.1
  rw [← hx]
  rw [← e2] at e4
  exact tok_short e4 e5 e6 e7
theorem wrong_tok {t : Tok} (h : wrongP t = true) : sameK (lexP t.text).1 [t] = false := by
  unfold wrongP at h
  simpa using h

set_option maxHeartbeats 4000000 in
set_option maxRecDepth 100000 in
theorem refRight_any (A : List Tok) (ao : Option Addr) (ca : Nat) (w : World) (hA : TR w (.slice ao A.length ca) A) :
    Calls Try.prog 17 #[.slice ao A.length ca] w fun e w' => e = .returned (.bool (decide (checkE A = 0))) ∧ Ext w w' := by
  have HA := hide hA
  clear hA
  by_cases hlen : 2048 < A.length
  · have hc : decide (checkE A = 0) = false := by
      unfold checkE
      rw [if_pos (.inl hlen)]
      rfl
    rw [hc]
    have hd : decide ((2048 : Int) < (A.length : Int)) = true := by simp; omega
    go_enter Try.func17, Try.ntmps17
    go_wp2
    go_ret
    exact ⟨rfl, Ext.refl _⟩
  have hcf : A.any wrongP = true → decide (checkE A = 0) = false := fun h => by
    unfold checkE
    rw [if_pos (.inr h)]
    rfl
  have hct : A.any wrongP = false → decide (checkE A = 0) = true := fun h => by
    unfold checkE
    rw [if_neg (by rw [h]; simp; omega)]
    rfl
  generalize decide (checkE A = 0) = ck at *
  have HCF := hide hcf
  have HCT := hide hct
  clear hcf hct
  go_enter Try.func17, Try.ntmps17
  go_wp2
  go_loopw [12] (fun iv wr => ∃ k : Nat, k ≤ A.length ∧ iv = .int .i64 (k : Int) ∧ (A.take k).any wrongP = false ∧ Ext w wr) (fun iv _ => A.length - (intOf iv).toNat)
  case atStart => exact ⟨0, by omega, rfl, by simp, Ext.refl _⟩
  case round =>
    obtain ⟨k, hk, rfl, hno, hx⟩ := hrel
    have HNO := hide hno
    have X := hide hx
    clear hno hx
    by_cases hlt : k < A.length
    · obtain ⟨b1, o1, rfl, h1⟩ := ((unhide HA).ext (unhide X)).at k hlt
      have c0 := h1.kind; have c1 := h1.text; have c2 := h1.num; have c3 := h1.place; have c4 := h1.line
      clear h1
      have HS : Hid ((A.take (k + 1)).any wrongP = wrongP A[k]) := by
        show (A.take (k + 1)).any wrongP = wrongP A[k]
        rw [List.take_succ_eq_append_getElem hlt, List.any_append, unhide HNO]
        simp
      have HBAD : Hid (wrongP A[k] = true → ck = false) := fun h => unhide HCF (List.any_eq_true.2 ⟨A[k], List.getElem_mem hlt, h⟩)
      have HRT := hide (fun (h : wrongP A[k] = false) => right_tok h)
      have HWT := hide (fun (h : wrongP A[k] = true) => wrong_tok h)
      generalize A[k] = x at *
      have HLX := hide (fun W => refLex_any ⟨x.text.toArray⟩ W)
      rw [show (⟨x.text.toArray⟩ : ByteArray).data.toList = x.text from rfl] at HLX
      obtain ⟨wA, hwA⟩ : ∃ wA, wA = wr.alloc (.cells #[.int .i64 x.kind, .string ⟨x.text.toArray⟩, .int .i32 x.num, .int .i64 x.place, .int .i64 x.line] 33) := ⟨_, rfl⟩
      have HB := hide (Blk.new wr #[.int .i64 x.kind, .string ⟨x.text.toArray⟩, .int .i32 x.num, .int .i64 x.place, .int .i64 x.line] 33)
      have XA : Hid (Ext w wA) := by rw [hwA]; exact (unhide X).alloc _
      rw [← hwA] at HB
      by_cases h64 : x.text.length ≤ 64
      · have d64 : decide ((64 : Int) < (x.text.length : Int)) = false := by simp; omega
        go_wp2_with fail
        rw [← hwA]
        clear hwA
        refine (unhide HLX wA).mono ?_
        rintro e w3 ⟨ao3, cap3, rfl, hO3, hx3⟩
        obtain ⟨R, hR⟩ : ∃ R, lexP x.text = R := ⟨_, rfl⟩
        rw [hR] at hO3 ⊢
        rw [hR] at HRT HWT
        clear hR HLX
        have HB3 := hide ((unhide HB).ext (hx3.alloc (.cells #[.int .i64 R.2.1, .int .i64 R.2.2] 27)))
        have HO3 := hide (hO3.tr.ext ((Ext.refl w3).alloc (.cells #[.int .i64 R.2.1, .int .i64 R.2.2] 27)))
        have X3 : Hid (Ext w (w3.alloc (.cells #[.int .i64 R.2.1, .int .i64 R.2.2] 27))) := ((unhide XA).trans hx3).alloc _
        have e0 := (unhide HB3).cell (i := 0) (v := .int .i64 x.kind) rfl
        have e1 := (unhide HB3).cell (i := 1) (v := .string ⟨x.text.toArray⟩) rfl
        have e2 := (unhide HB3).cell (i := 2) (v := .int .i32 x.num) rfl
        have e3 := (unhide HB3).cell (i := 3) (v := .int .i64 x.place) rfl
        have e4 := (unhide HB3).cell (i := 4) (v := .int .i64 x.line) rfl
        clear hO3 hx3 c0 c1 c2 c3 c4 HB HB3
        obtain ⟨L3, er, pl⟩ := R
        simp only at HO3 X3 e0 e1 e2 e3 e4 HRT HWT ⊢
        by_cases herr : er = 0
        · subst herr
          have HTR := hide (TR.one (w3.alloc (.cells #[.int .i64 0, .int .i64 pl] 27)) x)
          have XO : Hid (Ext w ((w3.alloc (.cells #[.int .i64 0, .int .i64 pl] 27)).alloc (.cells #[.int .i64 x.kind, .string ⟨x.text.toArray⟩, .int .i32 x.num, .int .i64 x.place, .int .i64 x.line] 33))) := (unhide X3).alloc _
          have HO4 := hide ((unhide HO3).ext ((Ext.refl _).alloc (.cells #[.int .i64 x.kind, .string ⟨x.text.toArray⟩, .int .i32 x.num, .int .i64 x.place, .int .i64 x.line] 33)))
          have HSM := hide (refSame_any L3 [x] ao3 (some ⟨(w3.alloc (.cells #[.int .i64 0, .int .i64 pl] 27)).heap.size, 0, none⟩) cap3 1 _ (unhide HO4) (unhide HTR))
          rw [World.size_alloc] at HSM
          cases hw : wrongP x with
          | true =>
            have hck := unhide HBAD hw
            subst hck
            rw [unhide HWT hw] at HSM
            clear HRT HWT HBAD hw
            go_wp2_with fail
            refine (unhide HSM).mono ?_
            rintro e w5 ⟨rfl, hx5⟩
            have X5 := hide ((unhide XO).trans hx5)
            clear hx5
            go_wp2
            go_ret
            exact ⟨rfl, unhide X5⟩
          | false =>
            obtain ⟨_, _, h3⟩ := unhide HRT hw
            rw [h3] at HSM
            rw [hw] at HS
            clear HRT HWT HBAD hw h3
            go_wp2_with fail
            refine (unhide HSM).mono ?_
            rintro e w5 ⟨rfl, hx5⟩
            have X5 := hide ((unhide XO).trans hx5)
            clear hx5
            go_wp2
            refine ⟨⟨k + 1, by omega, by push_cast; rfl, unhide HS, unhide X5⟩, ?_⟩
            simp [intOf]
            omega
        · have herr' : (er == 0) = false := beq_eq_false_iff_ne.2 herr
          have hck : ck = false := by
            refine unhide HBAD ?_
            cases hw : wrongP x with
            | true => rfl
            | false => exact absurd (unhide HRT hw).2.1 herr
          subst hck
          clear HRT HWT HBAD
          go_wp2
          go_ret
          exact ⟨rfl, unhide X3⟩
      · have d64 : decide ((64 : Int) < (x.text.length : Int)) = true := by simp; omega
        have hck : ck = false := by
          refine unhide HBAD ?_
          cases hw : wrongP x with
          | true => rfl
          | false => exact absurd (unhide HRT hw).1 h64
        subst hck
        clear HRT HWT HBAD
        go_wp2
        go_ret
        exact ⟨rfl, (unhide X).alloc _⟩
    · have hck : ck = true := by
        refine unhide HCT ?_
        have := unhide HNO
        rw [List.take_of_length_le (by omega)] at this
        exact this
      subst hck
      go_wp2
      go_ret
      exact ⟨rfl, unhide X⟩
end Go.Proofs.Ytgoldmohmjjngaa
