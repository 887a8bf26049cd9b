/-
  The document's tokens of a text: paintboxref10.Lex.
-/
import Derived.Test.YtdcamcpffiilbaaDoorYA
import Derived.Test.YtdcamcpffiilbaaDoorXF
import Derived.Test.YtdcamcpffiilbaaDoorXP
namespace Go.Proofs.YtdcamcpffiilbaaDoor
open Go.RowKit
set_option linter.unusedSimpArgs false
set_option linter.unusedVariables false

/-- What the document's Lex answers. -/
def RefQ (w : World) (R : List Tok × Int × Int) (e : Ending) (w' : World) : Prop := ∃ ao cap, e = .returned (.tuple #[.slice ao R.1.length cap, .agg #[.int .i64 R.2.1, .int .i64 R.2.2]]) ∧ TO w' (w.heap.size + 1) (.slice ao R.1.length cap) R.1 ∧ Ext w w'
/-- What holds in memory, token by token. -/
structure RefI (w wr : World) (v : Value) (acc : List Tok) : Prop where
  own : TO wr (w.heap.size + 1) v acc
  spot : Blk wr w.heap.size spotZ 26
  ext : Ext w wr
  room : w.heap.size + 1 ≤ wr.heap.size
theorem RefI.ext2 {w wr wx : World} {v : Value} {acc : List Tok} (h : RefI w wr v acc) (hx : Ext wr wx) : RefI w wx v acc := ⟨h.own.ext hx, h.spot.ext hx, h.ext.trans hx, Nat.le_trans h.room hx.size⟩
theorem meas_err (k : Int) (t : Byts8) : (measP k t).2 = 0 ∨ (measP k t).2 = 3 ∨ (measP k t).2 = 120 := by
  unfold measP
  split
  · split <;> simp
  · split
    · split <;> simp
    · split
      · unfold parseI
        split
        · simp
        · split <;> simp
      · simp
/-- The error, with n tokens ahead, is that with none, but that none, or a number too great, is then too long. -/
theorem tell_full (k : Int) (t b : Byts8) (n : Nat) : (n ≠ 2048 → tellP k t b n = tellP k t b 0) ∧ (n = 2048 → ((tellP k t b 0).2 = 0 ∨ (tellP k t b 0).2 = 120) → (tellP k t b n).2 = 3) ∧ (n = 2048 → (tellP k t b 0).2 ≠ 0 → (tellP k t b 0).2 ≠ 120 → (tellP k t b n).2 = (tellP k t b 0).2) := by
  have hm := meas_err k t
  unfold tellP
  refine ⟨fun h => ?_, fun h h2 => ?_, fun h h2 h3 => ?_⟩
  · rw [if_neg h, if_neg (show ¬ (0 : Nat) = 2048 by decide)]
  · rw [if_neg (show ¬ (0 : Nat) = 2048 by decide)] at h2
    rw [if_pos h]
    split
    · rename_i hb
      rw [if_pos hb] at h2
      simp at h2
    · rfl
  · rw [if_neg (show ¬ (0 : Nat) = 2048 by decide)] at h2 h3 ⊢
    rw [if_pos h]
    split
    · rfl
    · rename_i hb
      rw [if_neg hb] at h2 h3
      rcases hm with hm | hm | hm
      · exact absurd hm h2
      · rw [hm]
      · exact absurd hm h3
theorem cnt_next (s : ByteArray) (j : Nat) (h : j < s.size) : (cntL (s.data.toList.take (j + 1)) : Int) = (cntL (s.data.toList.take j) : Int) + (if s[j] = 10 then 1 else 0) := by
  rw [take_split, cntL_add, drop_get s j h]
  have : cntL ((s[j] :: s.data.toList.drop (j + 1)).take 1) = if s[j] = 10 then 1 else 0 := by
    simp only [List.take_succ_cons, List.take_zero, cntL, Lib.countByte]
    rw [List.count_cons, List.count_nil]
    simp
  rw [this]
  split <;> simp
theorem cntL_take_le (l : Byts8) (j : Nat) (h : j ≤ l.length) : cntL (l.take j) ≤ j := by
  have := cntL_le (l.take j)
  rw [List.length_take] at this
  omega
/-- Behind the gap. -/
theorem lexA_to (l : Byts8) (i n : Nat) : lexA (l.drop i) (i : Int) (cntL (l.take i) : Nat) n = lexA (l.drop (skipTo l i)) (skipTo l i : Nat) (cntL (l.take (skipTo l i)) : Nat) n := by
  rw [lexA_skip]
  unfold skipTo
  rw [List.drop_drop, take_split l i, cntL_add]
  push_cast
  rfl
theorem skipTo_le (l : Byts8) (i : Nat) (h : i ≤ l.length) : i ≤ skipTo l i ∧ skipTo l i ≤ l.length := by
  have := skip_le (l.drop i)
  rw [List.length_drop] at this
  unfold skipTo
  omega
theorem skipTo_stop (l : Byts8) (i : Nat) (h : l.drop (skipTo l i) ≠ []) : (pieceP (l.drop (skipTo l i))).1 ≠ -1 := by
  have := skip_stop (l.drop i)
  rw [List.drop_drop] at this
  exact this h

set_option maxHeartbeats 4000000 in
set_option maxRecDepth 100000 in
theorem refLex_any (s : ByteArray) (w : World) : Calls Tryd.prog 11 #[.string s] w (RefQ w (lexP s.data.toList)) := by
  have hl := list_size s
  by_cases hbig : 8192 < s.size
  · have he : lexP s.data.toList = ([], 3, 0) := by unfold lexP; rw [if_pos (by omega)]
    rw [he]
    go_enter Tryd.func11, Tryd.ntmps11
    go_wp2
    refine bodyPost_ret (v := .tuple #[.slice none 0 0, .agg #[.int .i64 3, .int .i64 0]]) (by simp [results, Tryd.results11, go_sem]) rfl ⟨none, 0, rfl, TO.nil _ _, (Ext.refl w).alloc _⟩
  have hs : s.size ≤ 8192 := by omega
  have he : lexP s.data.toList = comb [] (lexA s.data.toList 0 0 0) := by
    have := lexA_form s.data.toList 0 0 0
    rw [comb_nil _ this.1 this.2]
    unfold lexP
    rw [if_neg (by omega)]
  generalize lexP s.data.toList = R at *
  have HE := hide he
  clear he hbig
  have HN0 : Hid (RefI w (w.alloc (.cells spotZ 26)) (.slice none 0 0) []) := ⟨TO.nil _ _, Blk.new w spotZ 26, (Ext.refl w).alloc _, by simp⟩
  go_enter Tryd.func11, Tryd.ntmps11
  go_wp2
  go_loopw [4, 5, 6, 7] (fun ov lv fv iv wr => ∃ (i f : Nat) (acc : List Tok) (ao : Option Addr) (cap : Nat), f ≤ i ∧ i ≤ s.size ∧ acc.length ≤ i ∧ iv = .int .i64 (i : Int) ∧ fv = .int .i64 (f : Int) ∧ lv = .int .i64 ((cntL (s.data.toList.take f) : Nat) : Int) ∧ ov = .slice ao acc.length cap ∧ RefI w wr (.slice ao acc.length cap) acc ∧ R = comb acc (lexA (s.data.toList.drop i) (i : Int) (cntL (s.data.toList.take i) : Nat) acc.length)) (fun _ _ _ iv _ => s.size + 1 - (intOf iv).toNat)
  case atStart => exact ⟨0, 0, [], none, 0, by omega, by omega, by simp, rfl, rfl, rfl, rfl, unhide HN0, by rw [List.drop_zero, List.take_zero]; exact unhide HE⟩
  case round =>
    obtain ⟨i, f, acc, ao, cap, hfi, hi, hacc, rfl, rfl, rfl, rfl, hI, hR⟩ := hrel
    rw [lexA_to] at hR
    obtain ⟨hk1, hk2⟩ := skipTo_le s.data.toList i (by omega)
    have hstop := skipTo_stop s.data.toList i
    have HSK := hide (refSkip_any s i wr hi hs)
    obtain ⟨k, hk⟩ : ∃ k, k = skipTo s.data.toList i := ⟨_, rfl⟩
    rw [← hk] at HSK hR hk1 hk2 hstop
    clear hk HE HN0
    rw [hl] at hk2
    have hcf := cntL_take_le s.data.toList f (by omega)
    have c0 := hI.spot.cell (i := 0) (v := .int .i64 0) rfl
    have c1 := hI.spot.cell (i := 1) (v := .int .i64 0) rfl
    have fz := fun i => hI.spot.free i
    have HI := hide hI
    clear hI
    by_cases hend : k = s.size
    · have hd : s.data.toList.drop k = [] := List.drop_of_length_le (by omega)
      have hok : (!(decide ((pieceP (s.data.toList.drop k)).1 = -2) && pre2 47 42 (s.data.toList.drop k))) = true := by
        rw [hd]
        rfl
      rw [hok] at HSK
      rw [hd, lexA_nil] at hR
      have hR2 : R = (acc, 0, 0) := by rw [hR]; simp [comb]
      subst hR2
      subst hend
      clear hR hd hok hstop
      go_wp2_with fail
      refine (unhide HSK).mono ?_
      rintro e w1 ⟨rfl, rfl⟩
      go_wp2
      have B2 := ((unhide HI).spot.set 0 (.int .i64 0)).set 1 (.int .i64 0)
      refine bodyPost_ret (v := .tuple #[.slice ao acc.length cap, .agg #[.int .i64 0, .int .i64 0]]) (by simp [results, Tryd.results11, go_sem, B2.cell (i := 0) (v := .int .i64 0) rfl, B2.cell (i := 1) (v := .int .i64 0) rfl]) rfl ⟨ao, cap, rfl, ?_, ?_⟩
      · exact ((unhide HI).own.grown (grownBy_set _ _ 0 _) (by omega)).grown (grownBy_set _ _ 1 _) (by omega)
      · exact extSet (extSet (unhide HI).ext (Nat.le_refl _)) (Nat.le_refl _)
    have hlt : k < s.size := by omega
    have hne : s.data.toList.drop k ≠ [] := by
      intro e
      have := congrArg List.length e
      rw [List.length_drop, hl] at this
      simp at this
      omega
    have hkk := hstop hne
    have hroom := piece_room _ hne
    rw [List.length_drop, hl] at hroom
    clear hstop
    have hnb : begN isBl (s.data.toList.drop k) = false := by
      cases hb : begN isBl (s.data.toList.drop k) with
      | false => rfl
      | true => exfalso; apply hkk; unfold pieceP; rw [if_pos hb]
    have hn1 : pre2 47 47 (s.data.toList.drop k) = false := by
      cases hb : pre2 47 47 (s.data.toList.drop k) with
      | false => rfl
      | true => exfalso; apply hkk; unfold pieceP; rw [if_neg (by rw [hnb]; decide), if_pos hb]
    have bne : ((k : Int) == (s.size : Int)) = false := by rw [beq_eq_false_iff_ne]; omega
    cases hn2 : pre2 47 42 (s.data.toList.drop k) with
    | true =>
      have hp : pieceP (s.data.toList.drop k) = comP (s.data.toList.drop k) := by
        unfold pieceP
        rw [if_neg (by rw [hnb]; decide), if_neg (by rw [hn1]; decide), if_pos hn2]
      have hp2 : ∃ z, pieceP (s.data.toList.drop k) = (-2, z) := by
        rw [hp] at hkk ⊢
        unfold comP at hkk ⊢
        split
        · exact ⟨_, rfl⟩
        · rename_i h
          rw [if_neg h] at hkk
          exact absurd rfl hkk
      obtain ⟨z, hpz⟩ := hp2
      have hok : (!(decide ((pieceP (s.data.toList.drop k)).1 = -2) && pre2 47 42 (s.data.toList.drop k))) = false := by
        rw [hpz, hn2]
        rfl
      rw [hok] at HSK
      have ht : (tellP (-2) ((s.data.toList.drop k).take z) ((s.data.toList.drop k).drop z) acc.length) = (0, 200) := by unfold tellP; simp
      have hR2 : R = ([], 200, (k : Int)) := by
        rw [hR, lexA_bad hne hpz (by decide) _ _ _ (by rw [ht]; decide), ht]
        unfold comb
        exact if_pos (show (200 : Int) ≠ 0 by decide)
      subst hR2
      have B2 := ((unhide HI).spot.set 0 (.int .i64 200)).set 1 (.int .i64 (k : Int))
      have R0 := hide (B2.cell (i := 0) (v := .int .i64 200) rfl)
      have R1 := hide (B2.cell (i := 1) (v := .int .i64 (k : Int)) rfl)
      clear hR hp hpz hok ht hn2 hnb hn1 hkk hne hroom B2
      go_wp2_with fail
      refine (unhide HSK).mono ?_
      rintro e w1 ⟨rfl, rfl⟩
      go_wp2
      refine bodyPost_ret (v := .tuple #[.slice none 0 0, .agg #[.int .i64 200, .int .i64 (k : Int)]]) (by have r0 := unhide R0; have r1 := unhide R1; simp [results, Tryd.results11, go_sem, r0, r1]) rfl ⟨none, 0, rfl, TO.nil _ _, ?_⟩
      exact extSet (extSet (unhide HI).ext (Nat.le_refl _)) (Nat.le_refl _)
    | false =>
      have hok : (!(decide ((pieceP (s.data.toList.drop k)).1 = -2) && pre2 47 42 (s.data.toList.drop k))) = true := by
        rw [hn2, Bool.and_false]
        rfl
      rw [hok] at HSK
      have HTK := hide (fun W => refToken_any s k W hlt hs hnb hn1 hn2)
      obtain ⟨kk, z, hp⟩ : ∃ kk z, pieceP (s.data.toList.drop k) = (kk, z) := ⟨_, _, rfl⟩
      rw [hp] at HTK hroom hkk
      simp only at HTK hroom hkk
      obtain ⟨hz1, hz2⟩ := hroom
      have HP := hide hp
      have HR := hide hR
      have HN := hide hne
      have HF := hide (tell_full kk ((s.data.toList.drop k).take z) ((s.data.toList.drop k).drop z) acc.length)
      clear hp hR hne hok hn2 hnb hn1
      go_wp2_with fail
      refine (unhide HSK).mono ?_
      rintro e w1 ⟨rfl, rfl⟩
      clear HSK
      go_wp2_with fail
      refine (unhide HTK _).mono ?_
      rintro e w2 ⟨k', t', n', rfl, ht, hx2⟩
      have HI2 := hide ((unhide HI).ext2 hx2)
      clear hx2 HI HTK c0 c1 fz
      have c0 := (unhide HI2).spot.cell (i := 0) (v := .int .i64 0) rfl
      have c1 := (unhide HI2).spot.cell (i := 1) (v := .int .i64 0) rfl
      have fz := fun i => (unhide HI2).spot.free i
      have HTT := hide ht
      clear ht
      obtain ⟨tp, htp⟩ : ∃ tp, tp = tellP kk ((s.data.toList.drop k).take z) ((s.data.toList.drop k).drop z) 0 := ⟨_, rfl⟩
      rw [← htp]
      rw [← htp] at HTT HF
      obtain ⟨hF1, hF2, hF3⟩ := unhide HF
      have HF1 := hide hF1
      have HF2 := hide hF2
      have HF3 := hide hF3
      have HTP := hide htp
      clear HF hF1 hF2 hF3 htp
      have HA : Hid (RefI w (w2.alloc (.cells #[.int .i64 k', .string t', .int .i32 n', .int .i64 0, .int .i64 0] 33)) (.slice ao acc.length cap) acc) := (unhide HI2).ext2 ((Ext.refl _).alloc _)
      have HB := hide (Blk.new w2 #[.int .i64 k', .string t', .int .i32 n', .int .i64 0, .int .i64 0] 33)
      clear c0 c1 fz
      have c0 := (unhide HA).spot.cell (i := 0) (v := .int .i64 0) rfl
      have c1 := (unhide HA).spot.cell (i := 1) (v := .int .i64 0) rfl
      have fz := fun i => (unhide HA).spot.free i
      have hg : w.heap.size + 1 ≤ w2.heap.size := (unhide HI2).room
      have hbad : ∀ E : Int, (tellP kk ((s.data.toList.drop k).take z) ((s.data.toList.drop k).drop z) acc.length).2 = E → E ≠ 0 → R = ([], E, (k : Int)) := fun E h1 h2 => by
        rw [unhide HR, lexA_bad (unhide HN) (unhide HP) hkk _ _ _ (by rw [h1]; exact h2), h1]
        unfold comb
        rw [if_pos h2]
      have HBAD := hide hbad
      clear hbad
      by_cases h0 : tp.2 = 0
      · rw [h0]
        by_cases hn : acc.length = 2048
        · have hR2 := unhide HBAD 3 (unhide HF2 hn (.inl h0)) (by decide)
          subst hR2
          have B2 := ((unhide HA).spot.set 0 (.int .i64 (3))).set 1 (.int .i64 (k : Int))
          have R0 := hide (B2.cell (i := 0) (v := .int .i64 (3)) rfl)
          have R1 := hide (B2.cell (i := 1) (v := .int .i64 (k : Int)) rfl)
          clear HF1 HF2 HF3 HTP HR HN HP HTT HBAD B2
          go_wp2
          refine bodyPost_ret (v := .tuple #[.slice none 0 0, .agg #[.int .i64 (3), .int .i64 (k : Int)]]) (by have r0 := unhide R0; have r1 := unhide R1; simp [results, Tryd.results11, go_sem, r0, r1]) rfl ⟨none, 0, rfl, TO.nil _ _, ?_⟩
          exact extSet (extSet (unhide HA).ext (Nat.le_refl _)) (Nat.le_refl _)
        · have bn : ((acc.length : Int) == 2048) = false := by rw [beq_eq_false_iff_ne]; omega
          obtain ⟨e1, e2, e3⟩ := unhide HTT h0
          obtain ⟨tx, htx⟩ : ∃ tx, tx = (s.data.toList.drop k).take z := ⟨_, rfl⟩
          have htl : tx.length = z := by
            rw [htx, List.length_take, List.length_drop, hl]
            omega
          have e2' : t' = ⟨tx.toArray⟩ := by rw [e2, ext_text, Nat.add_sub_cancel_left, htx]
          clear e2 HTT
          subst e1 e2' e3
          have hR6 : R = comb (acc ++ [⟨k', tx, tp.1, (k : Int), (cntL (s.data.toList.take k) : Nat)⟩]) (lexA (s.data.toList.drop (k + z)) ((k + z : Nat) : Int) (cntL (s.data.toList.take (k + z)) : Nat) (acc.length + 1)) := by
            have hq := unhide HF1 hn
            rw [unhide HR, comb_tok (unhide HN) (unhide HP) hkk acc _ _ (by rw [hq]; exact h0), hq, List.drop_drop, take_split s.data.toList k z, cntL_add, htx]
            push_cast
            rfl
          have HR6 := hide hR6
          have HTX := hide htx
          clear hR6 htx HF1 HF2 HF3 HTP HR HN HP HBAD
          obtain ⟨wA, hwA⟩ : ∃ wA, wA = w2.alloc (.cells #[.int .i64 k', .string ⟨tx.toArray⟩, .int .i32 tp.1, .int .i64 0, .int .i64 0] 33) := ⟨_, rfl⟩
          obtain ⟨g, hgg⟩ : ∃ g, g = w2.heap.size := ⟨_, rfl⟩
          rw [← hwA] at HA HB c0 c1 fz
          rw [← hgg] at HB hg
          have HOB : Hid (∀ b, (Value.slice ao acc.length cap).ownBlock = some b → b < g ∧ w.heap.size + 1 ≤ b) := fun b hb => by
            have := World.ownsRow.lt (unhide HI2).own b hb
            rw [hgg]
            exact ⟨this.2, this.1⟩
          go_wp2
          rw [← hwA, ← hgg]
          have k0 := (unhide HB).cell (i := 0) (v := .int .i64 k') rfl
          have k1 := (unhide HB).cell (i := 1) (v := .string ⟨tx.toArray⟩) rfl
          have k2 := (unhide HB).cell (i := 2) (v := .int .i32 tp.1) rfl
          have k3 := (unhide HB).cell (i := 3) (v := .int .i64 0) rfl
          have k4 := (unhide HB).cell (i := 4) (v := .int .i64 0) rfl
          have fy := fun i => (unhide HB).free i
          clear hwA hgg HI2 c0 c1 fz
          go_loopw [5, 6] (fun lv fv wq => ∃ j : Nat, f ≤ j ∧ j ≤ k ∧ fv = .int .i64 (j : Int) ∧ lv = .int .i64 ((cntL (s.data.toList.take j) : Nat) : Int) ∧ wq = wA) (fun _ fv _ => k - (intOf fv).toNat)
          case atStart => exact ⟨f, Nat.le_refl _, by omega, rfl, rfl, rfl⟩
          case round =>
            obtain ⟨j, hj1, hj2, rfl, rfl, rfl⟩ := hrel
            have hcj := cntL_take_le s.data.toList j (by omega)
            by_cases hjk : j < k
            · have hjs : j < s.size := by omega
              have HCN := hide (cnt_next s j hjs)
              by_cases h10 : s[j] = 10
              · have d10 : ((s[j].toNat : Int) == 10) = true := by rw [h10]; rfl
                rw [if_pos h10] at HCN
                clear h10
                go_wp2
                refine ⟨⟨j + 1, by omega, by omega, rfl, by rw [unhide HCN], by trivial⟩, ?_⟩
                simp [intOf]
                omega
              · have d10 : ((s[j].toNat : Int) == 10) = false := by
                  rw [show (10 : Int) = ((10 : UInt8).toNat : Int) from rfl, u8beq]
                  simpa using h10
                rw [if_neg h10, Int.add_zero] at HCN
                clear h10
                go_wp2
                refine ⟨⟨j + 1, by omega, by omega, rfl, by rw [unhide HCN], by trivial⟩, ?_⟩
                simp [intOf]
                omega
            · have hje : j = k := by omega
              subst hje
              have HB5 := hide ((((unhide HB).set 3 (.int .i64 (j : Int))).set 4 (.int .i64 ((cntL (s.data.toList.take j) : Nat) : Int))))
              have HI5 : Hid (RefI w ((wr.setCell ⟨g, 3, none⟩ (.int .i64 (j : Int))).setCell ⟨g, 4, none⟩ (.int .i64 ((cntL (s.data.toList.take j) : Nat) : Int))) (.slice ao acc.length cap) acc) :=
                ⟨((unhide HA).own.keep (grownBy_set _ _ 3 _) (fun b hb => by have := (unhide HOB b hb).1; omega)).keep (grownBy_set _ _ 4 _) (fun b hb => by have := (unhide HOB b hb).1; omega), ((unhide HA).spot.other 3 _ (by omega)).other 4 _ (by omega), extSet (extSet (unhide HA).ext (by omega)) (by omega), by simpa using (unhide HA).room⟩
              clear HA HB
              go_wp2_with (at_builtin; refine wpList_append_tok rfl (.tmp 69) (.tmp 71) rfl (w.heap.size + 1) _ acc ⟨k', tx, tp.1, (j : Int), (cntL (s.data.toList.take j) : Nat)⟩ rfl ((unhide HI5).own.ext ((Ext.refl _).alloc _)) _ 1 rfl _ (blkAt (by simp)) ?c2 ?c3 ?_)
              case c2 => omega
              case c3 =>
                have := (unhide HI5).room
                simp at this ⊢
                omega
              intro ao2 cap2 w6 hown hgr
              have hx6 : Ext w w6 := Below.trans ((unhide HI5).ext.alloc _) (grown_below hgr (Nat.le_trans (unhide HI5).ext.size (by rw [World.size_alloc]; omega)) (fun b hb => by have := (unhide HOB b hb).2; omega))
              have hsp : Blk w6 w.heap.size spotZ 26 := blkGrownO ((unhide HI5).spot.alloc _) hgr (fun e => by have := (unhide HOB _ e).2; omega)
              have htk : Blk w6 g _ 33 := blkGrownO ((unhide HB5).alloc _) hgr (fun e => by have := (unhide HOB _ e).1; omega)
              have hrm : w.heap.size + 1 ≤ w6.heap.size := by
                have h1 := hgr.size
                have h2 := (unhide HI5).room
                rw [World.size_alloc] at h1
                omega
              obtain ⟨acc2, hacc2⟩ : ∃ A, A = acc ++ [(⟨k', tx, tp.1, (j : Int), (cntL (s.data.toList.take j) : Nat)⟩ : Tok)] := ⟨_, rfl⟩
              have hl2 : acc.length + 1 = acc2.length := by rw [hacc2]; simp
              rw [hl2, ← hacc2] at hown
              rw [hl2]
              rw [hl2, ← hacc2] at HR6
              have HI6 : Hid (RefI w w6 (.slice ao2 acc2.length cap2) acc2) := ⟨hown, hsp, hx6, hrm⟩
              clear k0 k1 k2 k3 k4 fy
              have k1 : w6.cell? ⟨g, 1, none⟩ = some (.string ⟨tx.toArray⟩) := htk.cell rfl
              have HA2 := hide hacc2
              clear hown hgr hx6 hsp htk hrm HI5 HB5 hacc2
              go_wp2
              refine ⟨⟨j + z, j, acc2, ao2, cap2, by omega, by omega, by omega, by push_cast; rfl, rfl, rfl, rfl, unhide HI6, unhide HR6⟩, ?_⟩
              simp [intOf]
              omega
      · by_cases h120 : tp.2 = 120
        · rw [h120]
          by_cases hn : acc.length = 2048
          · have hR2 := unhide HBAD 3 (unhide HF2 hn (.inr h120)) (by decide)
            subst hR2
            have B2 := ((unhide HA).spot.set 0 (.int .i64 (3))).set 1 (.int .i64 (k : Int))
            have R0 := hide (B2.cell (i := 0) (v := .int .i64 (3)) rfl)
            have R1 := hide (B2.cell (i := 1) (v := .int .i64 (k : Int)) rfl)
            clear HF1 HF2 HF3 HTP HR HN HP HTT HBAD B2
            go_wp2
            refine bodyPost_ret (v := .tuple #[.slice none 0 0, .agg #[.int .i64 (3), .int .i64 (k : Int)]]) (by have r0 := unhide R0; have r1 := unhide R1; simp [results, Tryd.results11, go_sem, r0, r1]) rfl ⟨none, 0, rfl, TO.nil _ _, ?_⟩
            exact extSet (extSet (unhide HA).ext (Nat.le_refl _)) (Nat.le_refl _)
          · have hR2 := unhide HBAD 120 (by rw [unhide HF1 hn, h120]) (by decide)
            subst hR2
            have B2 := ((unhide HA).spot.set 0 (.int .i64 (120))).set 1 (.int .i64 (k : Int))
            have R0 := hide (B2.cell (i := 0) (v := .int .i64 (120)) rfl)
            have R1 := hide (B2.cell (i := 1) (v := .int .i64 (k : Int)) rfl)
            clear HF1 HF2 HF3 HTP HR HN HP HTT HBAD B2
            go_wp2
            refine bodyPost_ret (v := .tuple #[.slice none 0 0, .agg #[.int .i64 (120), .int .i64 (k : Int)]]) (by have r0 := unhide R0; have r1 := unhide R1; simp [results, Tryd.results11, go_sem, r0, r1]) rfl ⟨none, 0, rfl, TO.nil _ _, ?_⟩
            exact extSet (extSet (unhide HA).ext (Nat.le_refl _)) (Nat.le_refl _)
        · have hR2 := unhide HBAD tp.2 (by
            by_cases hn : acc.length = 2048
            · exact unhide HF3 hn h0 h120
            · rw [unhide HF1 hn]) h0
          subst hR2
          have B2 := ((unhide HA).spot.set 0 (.int .i64 (tp.2))).set 1 (.int .i64 (k : Int))
          have R0 := hide (B2.cell (i := 0) (v := .int .i64 (tp.2)) rfl)
          have R1 := hide (B2.cell (i := 1) (v := .int .i64 (k : Int)) rfl)
          clear HF1 HF2 HF3 HTP HR HN HP HTT HBAD B2
          go_wp2
          refine bodyPost_ret (v := .tuple #[.slice none 0 0, .agg #[.int .i64 (tp.2), .int .i64 (k : Int)]]) (by have r0 := unhide R0; have r1 := unhide R1; simp [results, Tryd.results11, go_sem, r0, r1]) rfl ⟨none, 0, rfl, TO.nil _ _, ?_⟩
          exact extSet (extSet (unhide HA).ext (Nat.le_refl _)) (Nat.le_refl _)
end Go.Proofs.YtdcamcpffiilbaaDoor
