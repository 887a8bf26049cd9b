/-
  The document's token: a number.
-/
import Derived.Test.YtdcamcpffiilbaaDoorXZ
import Derived.Test.YtdcamcpffiilbaaDoorFxCJ
namespace Go.Proofs.YtdcamcpffiilbaaDoor
open Go.RowKit
set_option linter.unusedSimpArgs false
set_option linter.unusedVariables false
theorem begN_atP (p : UInt8 → Bool) (h0 : p 0 = false) (l : Byts8) (k : Nat) : begN p (l.drop k) = p (atP l k) := by
  by_cases h : k < l.length
  · have e : atP l k = l[k] := by unfold atP; simp [h]
    rw [List.drop_eq_getElem_cons h, e]
    rfl
  · have e : atP l k = 0 := by unfold atP; rw [List.getD_eq_getElem?_getD, List.getElem?_eq_none (by omega)]; rfl
    rw [List.drop_of_length_le (by omega), e, h0]
    rfl
theorem isPt_beq (c : UInt8) : isPt c = (c == 46) := by
  unfold isPt
  rw [Bool.eq_iff_iff]
  simp only [decide_eq_true_eq, beq_iff_eq]
  exact ⟨fun h => UInt8.toNat_inj.1 h, fun h => by rw [h]; rfl⟩
theorem atP_lt (s : ByteArray) (k : Nat) (h : atP s.data.toList k ≠ 0) : k < s.size := by
  by_cases h1 : k < s.size
  · exact h1
  · have hl := list_size s
    unfold atP at h
    rw [List.getD_eq_getElem?_getD, List.getElem?_eq_none (by omega)] at h
    exact absurd rfl h
theorem isDg_ne (c : UInt8) (h : isDg c = true) : c ≠ 0 ∧ (c == 46) = false := by
  unfold isDg at h
  simp only [Bool.and_eq_true, decide_eq_true_eq] at h
  constructor
  · intro e
    subst e
    simp at h
  · rw [beq_eq_false_iff_ne]
    intro e
    subst e
    simp at h
/-- How far a number has been read: j bytes, p points. -/
def Phase (a r : Nat) (pt : Bool) (j p : Nat) : Prop := (p = 0 ∧ j ≤ a) ∨ (p = 1 ∧ pt = true ∧ a + 1 ≤ j ∧ j ≤ a + 1 + r)
/-- What the next byte is. -/
theorem phase_next (l : Byts8) (i : Nat) (a r : Nat) (pt : Bool) (j p : Nat) (ha : a = runN isDg (l.drop i)) (hp : pt = begN isPt ((l.drop i).drop a)) (hr : r = runN isDg ((l.drop i).drop (a + 1))) (h : Phase a r pt j p) :
    (isDg (atP l (i + j)) = true ∧ Phase a r pt (j + 1) p) ∨
    (isDg (atP l (i + j)) = false ∧ atP l (i + j) = 46 ∧ p = 0 ∧ Phase a r pt (j + 1) 1) ∨
    (isDg (atP l (i + j)) = false ∧ (atP l (i + j) == 46) = false ∧ p = 0 ∧ numP (l.drop i) = (2, j)) ∨
    (isDg (atP l (i + j)) = false ∧ p = 1 ∧ numP (l.drop i) = (3, j)) := by
  have z0 : isDg 0 = false := by decide
  rcases h with ⟨rfl, hj⟩ | ⟨rfl, hpt, hj1, hj2⟩
  · have hra := run_at isDg z0 l i j (by omega)
    by_cases hja : j + 1 ≤ a
    · exact .inl ⟨hra.2 (by omega), .inl ⟨rfl, hja⟩⟩
    · have hje : j = a := by omega
      have hd : isDg (atP l (i + j)) = false := by
        by_cases h2 : isDg (atP l (i + j)) = true
        · have := hra.1 h2
          omega
        · simpa using h2
      rw [List.drop_drop, begN_atP isPt (by decide), isPt_beq] at hp
      by_cases h46 : pt = true
      · refine .inr (.inl ⟨hd, ?_, rfl, .inr ⟨rfl, h46, by omega, by omega⟩⟩)
        rw [h46] at hp
        rw [hje]
        simpa using hp.symm
      · have h46' : pt = false := by simpa using h46
        refine .inr (.inr (.inl ⟨hd, ?_, rfl, ?_⟩))
        · rw [hje, ← hp, h46']
        · unfold numP
          rw [← ha, List.drop_drop, begN_atP isPt (by decide), isPt_beq, ← hp, if_neg h46, hje]
  · have hra := run_at isDg z0 l (i + (a + 1)) (j - (a + 1)) (by rw [← List.drop_drop, ← hr]; omega)
    rw [← List.drop_drop, ← hr, show i + (a + 1) + (j - (a + 1)) = i + j by omega] at hra
    by_cases hja : j + 1 ≤ a + 1 + r
    · exact .inl ⟨hra.2 (by omega), .inr ⟨rfl, hpt, by omega, hja⟩⟩
    · have hd : isDg (atP l (i + j)) = false := by
        by_cases h2 : isDg (atP l (i + j)) = true
        · have := hra.1 h2
          omega
        · simpa using h2
      refine .inr (.inr (.inr ⟨hd, rfl, ?_⟩))
      unfold numP
      rw [← ha, ← hp, if_pos hpt, ← hr, show j = a + 1 + r by omega]

theorem tell3 (t b : Byts8) : tellP 3 t b 0 = if (begN isLt b || begN isPt b) = true then (0, 200) else parseI t := by
  unfold tellP spoilt measP
  simp
theorem tell2 (s : ByteArray) (i j : Nat) (hi : i < s.size) (hj : i + j ≤ s.size) (b : Byts8) : tellP 2 ((s.data.toList.drop i).take j) b 0 = if (begN isLt b || (decide (1 < j) && (s[i] == 48))) = true then (0, 200) else measP 2 ((s.data.toList.drop i).take j) := by
  have hl := list_size s
  have e1 : ((s.data.toList.drop i).take j).length = j := by rw [List.length_take, List.length_drop, hl]; omega
  have e2 : 1 < j → begN (fun c => decide (c.toNat = 48)) ((s.data.toList.drop i).take j) = (s[i] == 48) := fun h => by
    obtain ⟨m, rfl⟩ : ∃ m, j = m + 1 := ⟨j - 1, by omega⟩
    rw [drop_get s i hi, List.take_succ_cons]
    show decide (s[i].toNat = 48) = _
    rw [Bool.eq_iff_iff]
    simp only [decide_eq_true_eq, beq_iff_eq]
    exact ⟨fun h => UInt8.toNat_inj.1 h, fun h => by rw [h]; rfl⟩
  unfold tellP spoilt
  rw [if_pos rfl, e1]
  by_cases h : 1 < j
  · rw [e2 h]
    simp
  · simp [h]
theorem bytes_at (s : ByteArray) (i j : Nat) (w : World) (h : i + j ≤ s.size) : ∃ (W2 : World) (cp Bn : Nat), (convert 9 87 (.string (s.extract i (i + j)))).run Tryd.prog w = .ok (.slice (some ⟨Bn, 0, none⟩) j cp) W2 ∧ Ext w W2 ∧ ∀ k, k < j → W2.cell? ⟨Bn, k, none⟩ = some (.int .u8 ((atP s.data.toList (i + k)).toNat : Int)) := by
  have hsz : (s.extract i (i + j)).size = j := by
    rw [ByteArray.size_extract]
    omega
  have hc := run_bytes_of_string (P := Tryd.prog) w 9 87 5 (s.extract i (i + j)) Tryd.underlying9 Tryd.underlying87 Tryd.underlying5
  refine ⟨_, _, _, hsz ▸ hc, (Ext.refl w).drew.alloc _, fun k hk => ?_⟩
  rw [show w.heap.size = w.drew.heap.size from rfl, cell_new, bytesRow_at _ _ k (by show k < (s.extract i (i + j)).size; omega)]
  have h1 := list_size s
  have e : (s.extract i (i + j)).data[k]'(by show k < (s.extract i (i + j)).size; omega) = atP s.data.toList (i + k) := by
    rw [atP_get s (i + k) (by omega)]
    simp [ByteArray.data_extract]
    rfl
  rw [e]
def capF (n : Int) (c : UInt8) : Int := min (10 * n + ((c.toNat : Int) - 48) % 256) 99999
theorem cap_fold (l : Byts8) : ∀ n m : Int, 0 ≤ n → m = min n 32768 → 0 ≤ l.foldl capF n ∧ l.foldl valF m = min (l.foldl capF n) 32768 := by
  induction l with
  | nil => intro n m h0 hm; exact ⟨h0, hm⟩
  | cons c l ih =>
    intro n m h0 hm
    refine ih (capF n c) (valF m c) ?_ ?_
    · unfold capF
      omega
    · unfold capF valF
      omega
theorem cap_val (l : Byts8) (v : Int) (h : v = l.foldl capF 0) : valP l = min v 32768 := by
  rw [h]
  exact (cap_fold l 0 0 (by omega) (by omega)).2
theorem cap_step (s : ByteArray) (i k : Nat) (v : Int) (h : i + k < s.size) (hv : v = ((s.data.toList.drop i).take k).foldl capF 0) : min (10 * v + (((atP s.data.toList (i + k)).toNat : Int) - 48) % 256) 99999 = ((s.data.toList.drop i).take (k + 1)).foldl capF 0 := by
  have hl := list_size s
  rw [List.take_succ_eq_append_getElem (by rw [List.length_drop, hl]; omega), List.foldl_append, ← hv, List.getElem_drop]
  show _ = capF v _
  unfold capF
  rw [atP_get s (i + k) h]
  rfl
theorem parse_at (s : ByteArray) (i j : Nat) (w : World) : Calls Tryd.prog 58 #[.string (s.extract i (i + j))] w fun e w' => e = .returned (.tuple #[.int .i32 (parseI ((s.data.toList.drop i).take j)).1, .int .i64 (parseI ((s.data.toList.drop i).take j)).2]) ∧ Ext w w' := by
  rw [ext_text, Nat.add_sub_cancel_left]
  exact refParse_any _ w
theorem num_point (s : ByteArray) (i : Nat) (hi : i < s.size) (hd : isDg s[i] = false) (h : s[i] = 46) : (numP (s.data.toList.drop i)).1 = 3 := by
  have h0 : runN isDg (s[i] :: s.data.toList.drop (i + 1)) = 0 := by rw [runN_cons, if_neg (by rw [hd]; decide)]
  have h1 : begN isPt (s[i] :: s.data.toList.drop (i + 1)) = true := by
    show isPt s[i] = true
    rw [h]
    decide
  rw [drop_get s i hi]
  unfold numP
  rw [h0, List.drop_zero, if_pos h1]
set_option maxHeartbeats 4000000 in
set_option maxRecDepth 100000 in
theorem refToken_num (s : ByteArray) (i : Nat) (w : World) (hi : i < s.size) (hs : s.size ≤ 8192) (hlt : isLt s[i] = false) (hdp : (isDg s[i] || (s[i] == 46 && isDg (atP s.data.toList (i + 1)))) = true) :
    Calls Tryd.prog 25 #[.string s, .int .i64 (i : Int)] w (Told (numP (s.data.toList.drop i)).1 (s.extract i (i + (numP (s.data.toList.drop i)).2)) (tellP (numP (s.data.toList.drop i)).1 ((s.data.toList.drop i).take (numP (s.data.toList.drop i)).2) ((s.data.toList.drop i).drop (numP (s.data.toList.drop i)).2) 0) w) := by
  have hl := list_size s
  have HNB := hide (show (numP (s.data.toList.drop i)).2 + i ≤ s.size by
    have := numP_room (s.data.toList.drop i)
    rw [List.length_drop, hl] at this
    omega)
  obtain ⟨a, ha⟩ : ∃ a, a = runN isDg (s.data.toList.drop i) := ⟨_, rfl⟩
  obtain ⟨pt, hp⟩ : ∃ pt, pt = begN isPt ((s.data.toList.drop i).drop a) := ⟨_, rfl⟩
  obtain ⟨r, hr⟩ : ∃ r, r = runN isDg ((s.data.toList.drop i).drop (a + 1)) := ⟨_, rfl⟩
  have HPH := hide (fun j p h => phase_next s.data.toList i a r pt j p ha hp hr h)
  clear ha hp hr
  obtain ⟨np, hnp⟩ : ∃ np, np = numP (s.data.toList.drop i) := ⟨_, rfl⟩
  rw [← hnp] at HPH HNB ⊢
  have HNP := hide hnp
  clear hnp
  obtain ⟨te, hte⟩ : ∃ te, te = tellP np.1 ((s.data.toList.drop i).take np.2) ((s.data.toList.drop i).drop np.2) 0 := ⟨_, rfl⟩
  rw [← hte]
  have HTE := hide hte
  clear hte
  have HAT : Hid (∀ W, Calls Tryd.prog 55 #[.string s, .int .i64 ((i : Int) + 1)] W fun e w' => e = .returned (.int .u8 ((atP s.data.toList (i + 1)).toNat : Int)) ∧ w' = W) := hide (fun W => refAt_any s (i + 1) W)
  have HL := hide (fun W => refLetter_any s[i] W)
  have HD := hide (fun W => refDigit_any s[i] W)
  have HD2 := hide (fun W => refDigit_any (atP s.data.toList (i + 1)) W)
  rw [hlt] at HL
  have hc46 : ((s[i].toNat : Int) == 46) = (s[i] == 46) := u8beq s[i] 46
  clear hlt
  generalize hd : atP s.data.toList (i + 1) = d at *
  clear hd
  go_enter Tryd.func25, Tryd.ntmps25
  go_wp2_with fail
  refine (unhide HL _).mono ?_
  rintro e w1 ⟨rfl, rfl⟩
  clear HL
  go_wp2_with fail
  refine (unhide HD _).mono ?_
  rintro e w1 ⟨rfl, rfl⟩
  clear HD
  cases hb : isDg s[i]
  case true =>
    clear hdp HD2 HAT
    go_wp2_with fail
    go_loopw [7, 8] (fun kv pv wr => ∃ j p : Nat, Hid (Phase a r pt j p) ∧ p ≤ 1 ∧ i + j ≤ s.size ∧ kv = .int .i64 ((i + j : Nat) : Int) ∧ pv = .int .i64 (p : Int) ∧ wr = w.alloc (.cells #[.int .i64 0, .string ⟨#[]⟩, .int .i32 0, .int .i64 0, .int .i64 0] 33)) (fun kv _ _ => s.size - (intOf kv).toNat)
    case atStart => exact ⟨0, 0, hide (.inl ⟨rfl, by omega⟩), by omega, by omega, rfl, rfl, rfl⟩
    case round =>
      obtain ⟨j, p, hph, hp1, hjs, rfl, rfl, rfl⟩ := hrel
      have HNX := hide (unhide HPH j p (unhide hph))
      have HA := hide (fun W => refAt_any s (i + j) W)
      have HG := hide (atP_lt s (i + j))
      have HG2 := hide (atP_get s (i + j))
      generalize hck : atP s.data.toList (i + j) = ck at *
      have HCK := hide hck
      clear hck
      have HC1 := hide (fun W => refLetter_any ck W)
      have HC2 := hide (fun W => refDigit_any ck W)
      have hk46 : ((ck.toNat : Int) == 46) = (ck == 46) := u8beq ck 46
      rcases unhide HNX with ⟨h1, h2⟩ | ⟨h1, h2, h3, h4⟩ | ⟨h1, h2, h3, h4⟩ | ⟨h1, h3, h4⟩
      · -- a digit
        have hne := isDg_ne ck h1
        have hlt := unhide HG hne.1
        have hge := unhide HG2 hlt
        rw [hne.2] at hk46
        rw [h1] at HC2
        have HPN := hide h2
        have hsk : ((s[i + j].toNat : Int) == 46) = false := by rw [← hge]; exact hk46
        clear h1 h2 hne hge
        go_wp2_with fail
        refine (unhide HA _).mono ?_
        rintro e w1 ⟨rfl, rfl⟩
        go_wp2_with fail
        refine (unhide HC2 _).mono ?_
        rintro e w1 ⟨rfl, rfl⟩
        go_wp2_with fail
        refine ⟨⟨j + 1, p, HPN, hp1, by omega, rfl, rfl, trivial⟩, ?_⟩
        simp [intOf]
        omega
      · -- the point
        have hne : ck ≠ 0 := by rw [h2]; decide
        have hlt := unhide HG hne
        have hge := unhide HG2 hlt
        rw [h1] at HC2
        have hk46' : ((ck.toNat : Int) == 46) = true := by rw [h2]; rfl
        have HPN := hide h4
        have hsk : ((s[i + j].toNat : Int) == 46) = true := by rw [← hge]; exact hk46'
        subst h3
        clear h1 h2 h4 hne hge hk46
        go_wp2_with fail
        refine (unhide HA _).mono ?_
        rintro e w1 ⟨rfl, rfl⟩
        go_wp2_with fail
        refine (unhide HC2 _).mono ?_
        rintro e w1 ⟨rfl, rfl⟩
        go_wp2_with fail
        refine (unhide HA _).mono ?_
        rintro e w1 ⟨rfl, rfl⟩
        go_wp2_with fail
        refine ⟨⟨j + 1, 1, HPN, by omega, by omega, rfl, rfl, trivial⟩, ?_⟩
        simp [intOf]
        omega
      · -- an int
        rw [h1] at HC2
        rw [h2] at hk46
        subst h3
        have HNQ := hide h4
        have HT2 := hide (show te = if (isLt ck || (decide (1 < j) && (s[i] == 48))) = true then (0, 200) else measP 2 ((s.data.toList.drop i).take j) by rw [unhide HTE, h4]; show tellP 2 _ _ 0 = _; rw [tell2 s i j hi hjs, List.drop_drop, begN_atP isLt (by decide), unhide HCK])
        clear h1 h4 h2
        go_wp2_with fail
        refine (unhide HA _).mono ?_
        rintro e w1 ⟨rfl, rfl⟩
        go_wp2_with fail
        refine (unhide HC2 _).mono ?_
        rintro e w1 ⟨rfl, rfl⟩
        go_wp2_with fail
        refine (unhide HA _).mono ?_
        rintro e w1 ⟨rfl, rfl⟩
        go_wp2_with fail
        refine (unhide HA _).mono ?_
        rintro e w1 ⟨rfl, rfl⟩
        go_wp2_with fail
        refine (unhide HC1 _).mono ?_
        rintro e w1 ⟨rfl, rfl⟩
        have hij : (i : Int) + (j : Int) - (i : Int) = (j : Int) := by omega
        cases hlk : isLt ck
        case true =>
          have HTE2 := hide (show te = (0, 200) by rw [unhide HT2, hlk]; rfl)
          go_wp2_with fail
          refine bodyPost_ret (v := .tuple #[.agg zTok, .int .i64 200]) (by simp [results, Tryd.results25, go_sem, zTok]) rfl ?_
          rw [unhide HTE2]
          exact Told.bad (p := (0, 200)) (by decide) ((Ext.refl _).alloc _)
        case false =>
          go_wp2_with fail
          refine (unhide HA _).mono ?_
          rintro e w1 ⟨rfl, rfl⟩
          cases hz : (decide (1 < j) && (s[i] == 48))
          case true =>
            have HTE2 := hide (show te = (0, 200) by rw [unhide HT2, hlk, hz]; rfl)
            rw [Bool.and_eq_true] at hz
            have hj1 : decide ((1 : Int) < (j : Int)) = true := by have := hz.1; simp at this ⊢; omega
            have hs48 : ((s[i].toNat : Int) == 48) = true := (u8beq s[i] 48).trans hz.2
            clear hz
            go_wp2_with fail
            refine bodyPost_ret (v := .tuple #[.agg zTok, .int .i64 200]) (by simp [results, Tryd.results25, go_sem, zTok]) rfl ?_
            rw [unhide HTE2]
            exact Told.bad (p := (0, 200)) (by decide) ((Ext.refl _).alloc _)
          case false =>
            have HTE2 := hide (show te = measP 2 ((s.data.toList.drop i).take j) by rw [unhide HT2, hlk, hz]; rfl)
            by_cases h1j : 1 < j
            · have hj1 : decide ((1 : Int) < (j : Int)) = true := by simp; omega
              have hs48 : ((s[i].toNat : Int) == 48) = false := (u8beq s[i] 48).trans (by rw [show decide (1 < j) = true by simpa using h1j, Bool.true_and] at hz; exact hz)
              clear hz
              obtain ⟨W2, cp, Bn, hcv, hx2, hcell⟩ := bytes_at s i j (w.alloc (.cells #[.int .i64 0, .string ⟨#[]⟩, .int .i32 0, .int .i64 0, .int .i64 0] 33)) hjs
              have HX2 := hide hx2
              have HCE := hide hcell
              clear hx2 hcell
              go_wp2_with fail
              go_loopw [11, 132] (fun nv kv wr => ∃ (k : Nat) (v : Int), k ≤ j ∧ 0 ≤ v ∧ v ≤ 99999 ∧ nv = .int .i64 v ∧ kv = .int .i64 (k : Int) ∧ wr = W2 ∧ Hid (v = ((s.data.toList.drop i).take k).foldl capF 0)) (fun _ kv _ => j - (intOf kv).toNat)
              case atStart => exact ⟨0, 0, by omega, by omega, by omega, rfl, rfl, rfl, hide rfl⟩
              case round =>
                obtain ⟨k, v, hk, hv0, hv9, rfl, rfl, rfl, HV⟩ := hrel
                by_cases hkl : k < j
                · have hc := unhide HCE k hkl
                  have HST := hide (cap_step s i k v (by omega) (unhide HV))
                  generalize atP s.data.toList (i + k) = ch at *
                  have hch := ch.toNat_lt
                  go_wp2_with fail
                  refine ⟨⟨k + 1, min (10 * v + ((ch.toNat : Int) - 48) % 256) 99999, by omega, by omega, by omega, (by first | rfl | (congr 1; done) | (congr 1; omega)), rfl, trivial, HST⟩, ?_⟩
                  simp [intOf]
                  omega
                · have hkj : k = j := by omega
                  subst hkj
                  have HVP := hide (cap_val _ _ (unhide HV))
                  by_cases hbig : v ≤ 32767
                  · have HTE3 := hide (show te = (rawI (65536 * v), 0) by rw [unhide HTE2]; unfold measP; rw [if_neg (by decide), if_pos rfl, unhide HVP, if_pos (by omega), show min v 32768 = v by omega])
                    have hdb : decide ((32767 : Int) < v) = false := by simp; omega
                    have HOF := hide (fun W => refOf_any v W (by unfold I64; omega))
                    have hx2 := unhide HX2
                    have B2 := (Blk.new w #[.int .i64 0, .string ⟨#[]⟩, .int .i32 0, .int .i64 0, .int .i64 0] 33).ext hx2
                    have g0 := B2.cell (i := 0) rfl
                    have g1 := B2.cell (i := 1) rfl
                    have g2 := B2.cell (i := 2) rfl
                    have g3 := B2.cell (i := 3) rfl
                    have g4 := B2.cell (i := 4) rfl
                    have fz := fun i => B2.free i
                    have X := hide (((Ext.refl w).alloc _).trans hx2)
                    have B := hide B2
                    clear hx2 B2
                    go_wp2_with fail
                    go_region_with (first | (go_at_call 59; refine (unhide HOF _).mono ?_; rintro e w1 ⟨rfl, rfl⟩))
                    all_goals go_wp2_with fail
                    all_goals
                      have B5 := hide ((((((unhide B).set 0 (.int .i64 2)).set 1 (.string (s.extract i (i + k)))).set 2 (.int .i32 (rawI (65536 * v)))).set 3 (.int .i64 0)).set 4 (.int .i64 0))
                      have B6 := (unhide B5).ext (Ext.refl _).drew
                      have k0 := B6.cell (i := 0) (v := .int .i64 2) rfl
                      have k1 := B6.cell (i := 1) (v := .string (s.extract i (i + k))) rfl
                      have k2 := B6.cell (i := 2) (v := .int .i32 (rawI (65536 * v))) rfl
                      have k3 := B6.cell (i := 3) (v := .int .i64 0) rfl
                      have k4 := B6.cell (i := 4) (v := .int .i64 0) rfl
                      refine bodyPost_ret (v := .tuple #[.agg #[.int .i64 2, .string (s.extract i (i + k)), .int .i32 (rawI (65536 * v)), .int .i64 0, .int .i64 0], .int .i64 0]) (by simp [results, Tryd.results25, go_sem, k0, k1, k2, k3, k4]) rfl ?_
                      rw [unhide HNQ, unhide HTE3]
                      exact Told.good (p := (rawI (65536 * v), 0)) (Ext.drew (extSet (extSet (extSet (extSet (extSet (unhide X) (Nat.le_refl _)) (Nat.le_refl _)) (Nat.le_refl _)) (Nat.le_refl _)) (Nat.le_refl _)))
                  · have HTE3 := hide (show te = (0, 120) by rw [unhide HTE2]; unfold measP; rw [if_neg (by decide), if_pos rfl, unhide HVP, if_neg (by omega)])
                    have hdb : decide ((32767 : Int) < v) = true := by simp; omega
                    have hx2 := unhide HX2
                    have B2 := (Blk.new w #[.int .i64 0, .string ⟨#[]⟩, .int .i32 0, .int .i64 0, .int .i64 0] 33).ext hx2
                    have g0 := B2.cell (i := 0) rfl
                    have g1 := B2.cell (i := 1) rfl
                    have g2 := B2.cell (i := 2) rfl
                    have g3 := B2.cell (i := 3) rfl
                    have g4 := B2.cell (i := 4) rfl
                    have fz := fun i => B2.free i
                    have X := hide (((Ext.refl w).alloc _).trans hx2)
                    have B := hide B2
                    clear hx2 B2
                    go_wp2_with fail
                    have B5 := hide ((((((unhide B).set 0 (.int .i64 0)).set 1 (.string ⟨#[]⟩)).set 2 (.int .i32 0)).set 3 (.int .i64 0)).set 4 (.int .i64 0))
                    have k0 := (unhide B5).cell (i := 0) (v := .int .i64 0) rfl
                    have k1 := (unhide B5).cell (i := 1) (v := .string ⟨#[]⟩) rfl
                    have k2 := (unhide B5).cell (i := 2) (v := .int .i32 0) rfl
                    have k3 := (unhide B5).cell (i := 3) (v := .int .i64 0) rfl
                    have k4 := (unhide B5).cell (i := 4) (v := .int .i64 0) rfl
                    refine bodyPost_ret (v := .tuple #[.agg #[.int .i64 0, .string ⟨#[]⟩, .int .i32 0, .int .i64 0, .int .i64 0], .int .i64 120]) (by simp [results, Tryd.results25, go_sem, k0, k1, k2, k3, k4]) rfl ?_
                    rw [unhide HTE3]
                    exact Told.bad (p := (0, 120)) (by decide) (extSet (extSet (extSet (extSet (extSet (unhide X) (Nat.le_refl _)) (Nat.le_refl _)) (Nat.le_refl _)) (Nat.le_refl _)) (Nat.le_refl _))
            · have hj1 : decide ((1 : Int) < (j : Int)) = false := by simp; omega
              clear hz
              obtain ⟨W2, cp, Bn, hcv, hx2, hcell⟩ := bytes_at s i j (w.alloc (.cells #[.int .i64 0, .string ⟨#[]⟩, .int .i32 0, .int .i64 0, .int .i64 0] 33)) hjs
              have HX2 := hide hx2
              have HCE := hide hcell
              clear hx2 hcell
              go_wp2_with fail
              go_loopw [11, 132] (fun nv kv wr => ∃ (k : Nat) (v : Int), k ≤ j ∧ 0 ≤ v ∧ v ≤ 99999 ∧ nv = .int .i64 v ∧ kv = .int .i64 (k : Int) ∧ wr = W2 ∧ Hid (v = ((s.data.toList.drop i).take k).foldl capF 0)) (fun _ kv _ => j - (intOf kv).toNat)
              case atStart => exact ⟨0, 0, by omega, by omega, by omega, rfl, rfl, rfl, hide rfl⟩
              case round =>
                obtain ⟨k, v, hk, hv0, hv9, rfl, rfl, rfl, HV⟩ := hrel
                by_cases hkl : k < j
                · have hc := unhide HCE k hkl
                  have HST := hide (cap_step s i k v (by omega) (unhide HV))
                  generalize atP s.data.toList (i + k) = ch at *
                  have hch := ch.toNat_lt
                  go_wp2_with fail
                  refine ⟨⟨k + 1, min (10 * v + ((ch.toNat : Int) - 48) % 256) 99999, by omega, by omega, by omega, (by first | rfl | (congr 1; done) | (congr 1; omega)), rfl, trivial, HST⟩, ?_⟩
                  simp [intOf]
                  omega
                · have hkj : k = j := by omega
                  subst hkj
                  have HVP := hide (cap_val _ _ (unhide HV))
                  by_cases hbig : v ≤ 32767
                  · have HTE3 := hide (show te = (rawI (65536 * v), 0) by rw [unhide HTE2]; unfold measP; rw [if_neg (by decide), if_pos rfl, unhide HVP, if_pos (by omega), show min v 32768 = v by omega])
                    have hdb : decide ((32767 : Int) < v) = false := by simp; omega
                    have HOF := hide (fun W => refOf_any v W (by unfold I64; omega))
                    have hx2 := unhide HX2
                    have B2 := (Blk.new w #[.int .i64 0, .string ⟨#[]⟩, .int .i32 0, .int .i64 0, .int .i64 0] 33).ext hx2
                    have g0 := B2.cell (i := 0) rfl
                    have g1 := B2.cell (i := 1) rfl
                    have g2 := B2.cell (i := 2) rfl
                    have g3 := B2.cell (i := 3) rfl
                    have g4 := B2.cell (i := 4) rfl
                    have fz := fun i => B2.free i
                    have X := hide (((Ext.refl w).alloc _).trans hx2)
                    have B := hide B2
                    clear hx2 B2
                    go_wp2_with fail
                    go_region_with (first | (go_at_call 59; refine (unhide HOF _).mono ?_; rintro e w1 ⟨rfl, rfl⟩))
                    all_goals go_wp2_with fail
                    all_goals
                      have B5 := hide ((((((unhide B).set 0 (.int .i64 2)).set 1 (.string (s.extract i (i + k)))).set 2 (.int .i32 (rawI (65536 * v)))).set 3 (.int .i64 0)).set 4 (.int .i64 0))
                      have B6 := (unhide B5).ext (Ext.refl _).drew
                      have k0 := B6.cell (i := 0) (v := .int .i64 2) rfl
                      have k1 := B6.cell (i := 1) (v := .string (s.extract i (i + k))) rfl
                      have k2 := B6.cell (i := 2) (v := .int .i32 (rawI (65536 * v))) rfl
                      have k3 := B6.cell (i := 3) (v := .int .i64 0) rfl
                      have k4 := B6.cell (i := 4) (v := .int .i64 0) rfl
                      refine bodyPost_ret (v := .tuple #[.agg #[.int .i64 2, .string (s.extract i (i + k)), .int .i32 (rawI (65536 * v)), .int .i64 0, .int .i64 0], .int .i64 0]) (by simp [results, Tryd.results25, go_sem, k0, k1, k2, k3, k4]) rfl ?_
                      rw [unhide HNQ, unhide HTE3]
                      exact Told.good (p := (rawI (65536 * v), 0)) (Ext.drew (extSet (extSet (extSet (extSet (extSet (unhide X) (Nat.le_refl _)) (Nat.le_refl _)) (Nat.le_refl _)) (Nat.le_refl _)) (Nat.le_refl _)))
                  · have HTE3 := hide (show te = (0, 120) by rw [unhide HTE2]; unfold measP; rw [if_neg (by decide), if_pos rfl, unhide HVP, if_neg (by omega)])
                    have hdb : decide ((32767 : Int) < v) = true := by simp; omega
                    have hx2 := unhide HX2
                    have B2 := (Blk.new w #[.int .i64 0, .string ⟨#[]⟩, .int .i32 0, .int .i64 0, .int .i64 0] 33).ext hx2
                    have g0 := B2.cell (i := 0) rfl
                    have g1 := B2.cell (i := 1) rfl
                    have g2 := B2.cell (i := 2) rfl
                    have g3 := B2.cell (i := 3) rfl
                    have g4 := B2.cell (i := 4) rfl
                    have fz := fun i => B2.free i
                    have X := hide (((Ext.refl w).alloc _).trans hx2)
                    have B := hide B2
                    clear hx2 B2
                    go_wp2_with fail
                    have B5 := hide ((((((unhide B).set 0 (.int .i64 0)).set 1 (.string ⟨#[]⟩)).set 2 (.int .i32 0)).set 3 (.int .i64 0)).set 4 (.int .i64 0))
                    have k0 := (unhide B5).cell (i := 0) (v := .int .i64 0) rfl
                    have k1 := (unhide B5).cell (i := 1) (v := .string ⟨#[]⟩) rfl
                    have k2 := (unhide B5).cell (i := 2) (v := .int .i32 0) rfl
                    have k3 := (unhide B5).cell (i := 3) (v := .int .i64 0) rfl
                    have k4 := (unhide B5).cell (i := 4) (v := .int .i64 0) rfl
                    refine bodyPost_ret (v := .tuple #[.agg #[.int .i64 0, .string ⟨#[]⟩, .int .i32 0, .int .i64 0, .int .i64 0], .int .i64 120]) (by simp [results, Tryd.results25, go_sem, k0, k1, k2, k3, k4]) rfl ?_
                    rw [unhide HTE3]
                    exact Told.bad (p := (0, 120)) (by decide) (extSet (extSet (extSet (extSet (extSet (unhide X) (Nat.le_refl _)) (Nat.le_refl _)) (Nat.le_refl _)) (Nat.le_refl _)) (Nat.le_refl _))
      · -- a number with a point
        rw [h1] at HC2
        subst h3
        have HNQ := hide h4
        have HT3 := hide (show te = if (isLt ck || (ck == 46)) = true then (0, 200) else parseI ((s.data.toList.drop i).take j) by rw [unhide HTE, h4]; show tellP 3 _ _ 0 = _; rw [tell3, List.drop_drop, begN_atP isLt (by decide), begN_atP isPt (by decide), isPt_beq, unhide HCK])
        have h46 : (ck == 46) = true ∨ (ck == 46) = false := by cases (ck == 46) <;> simp
        clear h1 h4
        go_wp2_with fail
        refine (unhide HA _).mono ?_
        rintro e w1 ⟨rfl, rfl⟩
        go_wp2_with fail
        refine (unhide HC2 _).mono ?_
        rintro e w1 ⟨rfl, rfl⟩
        go_wp2_with fail
        refine (unhide HA _).mono ?_
        rintro e w1 ⟨rfl, rfl⟩
        rcases h46 with h46 | h46
        · have hk46' : ((ck.toNat : Int) == 46) = true := hk46.trans h46
          go_wp2_with fail
          refine (unhide HA _).mono ?_
          rintro e w1 ⟨rfl, rfl⟩
          go_wp2_with fail
          refine (unhide HC1 _).mono ?_
          rintro e w1 ⟨rfl, rfl⟩
          cases hlk : isLt ck
          case true =>
            have HTE2 := hide (show te = (0, 200) by rw [unhide HT3, hlk]; rfl)
            go_wp2_with fail
            refine bodyPost_ret (v := .tuple #[.agg zTok, .int .i64 200]) (by simp [results, Tryd.results25, go_sem, zTok]) rfl ?_
            rw [unhide HTE2]
            exact Told.bad (p := (0, 200)) (by decide) ((Ext.refl _).alloc _)
          case false =>
            go_wp2_with fail
            refine (unhide HA _).mono ?_
            rintro e w1 ⟨rfl, rfl⟩
            cases h46 : (ck == 46)
            case true =>
              have HTE2 := hide (show te = (0, 200) by rw [unhide HT3, hlk, h46]; rfl)
              rw [h46] at hk46
              go_wp2_with fail
              refine bodyPost_ret (v := .tuple #[.agg zTok, .int .i64 200]) (by simp [results, Tryd.results25, go_sem, zTok]) rfl ?_
              rw [unhide HTE2]
              exact Told.bad (p := (0, 200)) (by decide) ((Ext.refl _).alloc _)
            case false =>
              have HTE2 := hide (show te = parseI ((s.data.toList.drop i).take j) by rw [unhide HT3, hlk, h46]; rfl)
              rw [h46] at hk46
              have HPA := hide (fun W => parse_at s i j W)
              generalize parseI ((s.data.toList.drop i).take j) = pp at *
              go_wp2_with fail
              refine (unhide HPA _).mono ?_
              rintro e w2 ⟨rfl, hx2⟩
              have B2 := (Blk.new w #[.int .i64 0, .string ⟨#[]⟩, .int .i32 0, .int .i64 0, .int .i64 0] 33).ext hx2
              have g0 := B2.cell (i := 0) rfl
              have g1 := B2.cell (i := 1) rfl
              have g2 := B2.cell (i := 2) rfl
              have g3 := B2.cell (i := 3) rfl
              have g4 := B2.cell (i := 4) rfl
              have fz := fun i => B2.free i
              have X := hide (((Ext.refl w).alloc _).trans hx2)
              have B := hide B2
              clear hx2 B2
              by_cases hpz : pp.2 = 0
              · have hpz' : (pp.2 != 0) = false := by simp [hpz]
                have HPZ := hide hpz
                clear hpz
                go_wp2_with fail
                have B5 := hide ((((((unhide B).set 0 (.int .i64 3)).set 1 (.string (s.extract i (i + j)))).set 2 (.int .i32 pp.1)).set 3 (.int .i64 0)).set 4 (.int .i64 0))
                have k0 := (unhide B5).cell (i := 0) (v := .int .i64 3) rfl
                have k1 := (unhide B5).cell (i := 1) (v := .string (s.extract i (i + j))) rfl
                have k2 := (unhide B5).cell (i := 2) (v := .int .i32 pp.1) rfl
                have k3 := (unhide B5).cell (i := 3) (v := .int .i64 0) rfl
                have k4 := (unhide B5).cell (i := 4) (v := .int .i64 0) rfl
                refine bodyPost_ret (v := .tuple #[.agg #[.int .i64 3, .string (s.extract i (i + j)), .int .i32 pp.1, .int .i64 0, .int .i64 0], .int .i64 0]) (by simp [results, Tryd.results25, go_sem, k0, k1, k2, k3, k4]) rfl ?_
                rw [unhide HNQ, unhide HTE2]
                exact ⟨3, s.extract i (i + j), pp.1, by rw [unhide HPZ], fun _ => ⟨rfl, rfl, rfl⟩, (extSet (extSet (extSet (extSet (extSet (unhide X) (Nat.le_refl _)) (Nat.le_refl _)) (Nat.le_refl _)) (Nat.le_refl _)) (Nat.le_refl _))⟩
              · have hpz' : (pp.2 != 0) = true := by simp [hpz]
                go_wp2_with fail
                have B5 := hide ((((((unhide B).set 0 (.int .i64 0)).set 1 (.string ⟨#[]⟩)).set 2 (.int .i32 0)).set 3 (.int .i64 0)).set 4 (.int .i64 0))
                have k0 := (unhide B5).cell (i := 0) (v := .int .i64 0) rfl
                have k1 := (unhide B5).cell (i := 1) (v := .string ⟨#[]⟩) rfl
                have k2 := (unhide B5).cell (i := 2) (v := .int .i32 0) rfl
                have k3 := (unhide B5).cell (i := 3) (v := .int .i64 0) rfl
                have k4 := (unhide B5).cell (i := 4) (v := .int .i64 0) rfl
                refine bodyPost_ret (v := .tuple #[.agg #[.int .i64 0, .string ⟨#[]⟩, .int .i32 0, .int .i64 0, .int .i64 0], .int .i64 pp.2]) (by simp [results, Tryd.results25, go_sem, k0, k1, k2, k3, k4]) rfl ?_
                rw [unhide HTE2]
                exact ⟨0, ⟨#[]⟩, 0, rfl, fun h => absurd h hpz, (extSet (extSet (extSet (extSet (extSet (unhide X) (Nat.le_refl _)) (Nat.le_refl _)) (Nat.le_refl _)) (Nat.le_refl _)) (Nat.le_refl _))⟩
        · have hk46' : ((ck.toNat : Int) == 46) = false := hk46.trans h46
          go_wp2_with fail
          refine (unhide HA _).mono ?_
          rintro e w1 ⟨rfl, rfl⟩
          go_wp2_with fail
          refine (unhide HC1 _).mono ?_
          rintro e w1 ⟨rfl, rfl⟩
          cases hlk : isLt ck
          case true =>
            have HTE2 := hide (show te = (0, 200) by rw [unhide HT3, hlk]; rfl)
            go_wp2_with fail
            refine bodyPost_ret (v := .tuple #[.agg zTok, .int .i64 200]) (by simp [results, Tryd.results25, go_sem, zTok]) rfl ?_
            rw [unhide HTE2]
            exact Told.bad (p := (0, 200)) (by decide) ((Ext.refl _).alloc _)
          case false =>
            go_wp2_with fail
            refine (unhide HA _).mono ?_
            rintro e w1 ⟨rfl, rfl⟩
            cases h46 : (ck == 46)
            case true =>
              have HTE2 := hide (show te = (0, 200) by rw [unhide HT3, hlk, h46]; rfl)
              rw [h46] at hk46
              go_wp2_with fail
              refine bodyPost_ret (v := .tuple #[.agg zTok, .int .i64 200]) (by simp [results, Tryd.results25, go_sem, zTok]) rfl ?_
              rw [unhide HTE2]
              exact Told.bad (p := (0, 200)) (by decide) ((Ext.refl _).alloc _)
            case false =>
              have HTE2 := hide (show te = parseI ((s.data.toList.drop i).take j) by rw [unhide HT3, hlk, h46]; rfl)
              rw [h46] at hk46
              have HPA := hide (fun W => parse_at s i j W)
              generalize parseI ((s.data.toList.drop i).take j) = pp at *
              go_wp2_with fail
              refine (unhide HPA _).mono ?_
              rintro e w2 ⟨rfl, hx2⟩
              have B2 := (Blk.new w #[.int .i64 0, .string ⟨#[]⟩, .int .i32 0, .int .i64 0, .int .i64 0] 33).ext hx2
              have g0 := B2.cell (i := 0) rfl
              have g1 := B2.cell (i := 1) rfl
              have g2 := B2.cell (i := 2) rfl
              have g3 := B2.cell (i := 3) rfl
              have g4 := B2.cell (i := 4) rfl
              have fz := fun i => B2.free i
              have X := hide (((Ext.refl w).alloc _).trans hx2)
              have B := hide B2
              clear hx2 B2
              by_cases hpz : pp.2 = 0
              · have hpz' : (pp.2 != 0) = false := by simp [hpz]
                have HPZ := hide hpz
                clear hpz
                go_wp2_with fail
                have B5 := hide ((((((unhide B).set 0 (.int .i64 3)).set 1 (.string (s.extract i (i + j)))).set 2 (.int .i32 pp.1)).set 3 (.int .i64 0)).set 4 (.int .i64 0))
                have k0 := (unhide B5).cell (i := 0) (v := .int .i64 3) rfl
                have k1 := (unhide B5).cell (i := 1) (v := .string (s.extract i (i + j))) rfl
                have k2 := (unhide B5).cell (i := 2) (v := .int .i32 pp.1) rfl
                have k3 := (unhide B5).cell (i := 3) (v := .int .i64 0) rfl
                have k4 := (unhide B5).cell (i := 4) (v := .int .i64 0) rfl
                refine bodyPost_ret (v := .tuple #[.agg #[.int .i64 3, .string (s.extract i (i + j)), .int .i32 pp.1, .int .i64 0, .int .i64 0], .int .i64 0]) (by simp [results, Tryd.results25, go_sem, k0, k1, k2, k3, k4]) rfl ?_
                rw [unhide HNQ, unhide HTE2]
                exact ⟨3, s.extract i (i + j), pp.1, by rw [unhide HPZ], fun _ => ⟨rfl, rfl, rfl⟩, (extSet (extSet (extSet (extSet (extSet (unhide X) (Nat.le_refl _)) (Nat.le_refl _)) (Nat.le_refl _)) (Nat.le_refl _)) (Nat.le_refl _))⟩
              · have hpz' : (pp.2 != 0) = true := by simp [hpz]
                go_wp2_with fail
                have B5 := hide ((((((unhide B).set 0 (.int .i64 0)).set 1 (.string ⟨#[]⟩)).set 2 (.int .i32 0)).set 3 (.int .i64 0)).set 4 (.int .i64 0))
                have k0 := (unhide B5).cell (i := 0) (v := .int .i64 0) rfl
                have k1 := (unhide B5).cell (i := 1) (v := .string ⟨#[]⟩) rfl
                have k2 := (unhide B5).cell (i := 2) (v := .int .i32 0) rfl
                have k3 := (unhide B5).cell (i := 3) (v := .int .i64 0) rfl
                have k4 := (unhide B5).cell (i := 4) (v := .int .i64 0) rfl
                refine bodyPost_ret (v := .tuple #[.agg #[.int .i64 0, .string ⟨#[]⟩, .int .i32 0, .int .i64 0, .int .i64 0], .int .i64 pp.2]) (by simp [results, Tryd.results25, go_sem, k0, k1, k2, k3, k4]) rfl ?_
                rw [unhide HTE2]
                exact ⟨0, ⟨#[]⟩, 0, rfl, fun h => absurd h hpz, (extSet (extSet (extSet (extSet (extSet (unhide X) (Nat.le_refl _)) (Nat.le_refl _)) (Nat.le_refl _)) (Nat.le_refl _)) (Nat.le_refl _))⟩
  case false =>
    rw [hb, Bool.false_or, Bool.and_eq_true] at hdp
    have HN3 := hide (num_point s i hi hb (by simpa using hdp.1))
    rw [hdp.1] at hc46
    rw [hdp.2] at HD2
    clear hdp
    go_wp2_with fail
    refine (unhide HAT _).mono ?_
    rintro e w1 ⟨rfl, rfl⟩
    go_wp2_with fail
    refine (unhide HD2 _).mono ?_
    rintro e w1 ⟨rfl, rfl⟩
    clear HD2 HAT
    go_wp2_with fail
    go_loopw [7, 8] (fun kv pv wr => ∃ j p : Nat, Hid (Phase a r pt j p) ∧ p ≤ 1 ∧ i + j ≤ s.size ∧ kv = .int .i64 ((i + j : Nat) : Int) ∧ pv = .int .i64 (p : Int) ∧ wr = w.alloc (.cells #[.int .i64 0, .string ⟨#[]⟩, .int .i32 0, .int .i64 0, .int .i64 0] 33)) (fun kv _ _ => s.size - (intOf kv).toNat)
    case atStart => exact ⟨0, 0, hide (.inl ⟨rfl, by omega⟩), by omega, by omega, rfl, rfl, rfl⟩
    case round =>
      obtain ⟨j, p, hph, hp1, hjs, rfl, rfl, rfl⟩ := hrel
      have HNX := hide (unhide HPH j p (unhide hph))
      have HA := hide (fun W => refAt_any s (i + j) W)
      have HG := hide (atP_lt s (i + j))
      have HG2 := hide (atP_get s (i + j))
      generalize hck : atP s.data.toList (i + j) = ck at *
      have HCK := hide hck
      clear hck
      have HC1 := hide (fun W => refLetter_any ck W)
      have HC2 := hide (fun W => refDigit_any ck W)
      have hk46 : ((ck.toNat : Int) == 46) = (ck == 46) := u8beq ck 46
      rcases unhide HNX with ⟨h1, h2⟩ | ⟨h1, h2, h3, h4⟩ | ⟨h1, h2, h3, h4⟩ | ⟨h1, h3, h4⟩
      · -- a digit
        have hne := isDg_ne ck h1
        have hlt := unhide HG hne.1
        have hge := unhide HG2 hlt
        rw [hne.2] at hk46
        rw [h1] at HC2
        have HPN := hide h2
        have hsk : ((s[i + j].toNat : Int) == 46) = false := by rw [← hge]; exact hk46
        clear h1 h2 hne hge
        go_wp2_with fail
        refine (unhide HA _).mono ?_
        rintro e w1 ⟨rfl, rfl⟩
        go_wp2_with fail
        refine (unhide HC2 _).mono ?_
        rintro e w1 ⟨rfl, rfl⟩
        go_wp2_with fail
        refine ⟨⟨j + 1, p, HPN, hp1, by omega, rfl, rfl, trivial⟩, ?_⟩
        simp [intOf]
        omega
      · -- the point
        have hne : ck ≠ 0 := by rw [h2]; decide
        have hlt := unhide HG hne
        have hge := unhide HG2 hlt
        rw [h1] at HC2
        have hk46' : ((ck.toNat : Int) == 46) = true := by rw [h2]; rfl
        have HPN := hide h4
        have hsk : ((s[i + j].toNat : Int) == 46) = true := by rw [← hge]; exact hk46'
        subst h3
        clear h1 h2 h4 hne hge hk46
        go_wp2_with fail
        refine (unhide HA _).mono ?_
        rintro e w1 ⟨rfl, rfl⟩
        go_wp2_with fail
        refine (unhide HC2 _).mono ?_
        rintro e w1 ⟨rfl, rfl⟩
        go_wp2_with fail
        refine (unhide HA _).mono ?_
        rintro e w1 ⟨rfl, rfl⟩
        go_wp2_with fail
        refine ⟨⟨j + 1, 1, HPN, by omega, by omega, rfl, rfl, trivial⟩, ?_⟩
        simp [intOf]
        omega
      · -- an int: it begins with no point
        exact absurd (congrArg Prod.fst h4) (by rw [unhide HNP, unhide HN3]; show ¬ (3 : Int) = 2; decide)
      · -- a number with a point
        rw [h1] at HC2
        subst h3
        have HNQ := hide h4
        have HT3 := hide (show te = if (isLt ck || (ck == 46)) = true then (0, 200) else parseI ((s.data.toList.drop i).take j) by rw [unhide HTE, h4]; show tellP 3 _ _ 0 = _; rw [tell3, List.drop_drop, begN_atP isLt (by decide), begN_atP isPt (by decide), isPt_beq, unhide HCK])
        have h46 : (ck == 46) = true ∨ (ck == 46) = false := by cases (ck == 46) <;> simp
        clear h1 h4
        go_wp2_with fail
        refine (unhide HA _).mono ?_
        rintro e w1 ⟨rfl, rfl⟩
        go_wp2_with fail
        refine (unhide HC2 _).mono ?_
        rintro e w1 ⟨rfl, rfl⟩
        go_wp2_with fail
        refine (unhide HA _).mono ?_
        rintro e w1 ⟨rfl, rfl⟩
        rcases h46 with h46 | h46
        · have hk46' : ((ck.toNat : Int) == 46) = true := hk46.trans h46
          go_wp2_with fail
          refine (unhide HA _).mono ?_
          rintro e w1 ⟨rfl, rfl⟩
          go_wp2_with fail
          refine (unhide HC1 _).mono ?_
          rintro e w1 ⟨rfl, rfl⟩
          cases hlk : isLt ck
          case true =>
            have HTE2 := hide (show te = (0, 200) by rw [unhide HT3, hlk]; rfl)
            go_wp2_with fail
            refine bodyPost_ret (v := .tuple #[.agg zTok, .int .i64 200]) (by simp [results, Tryd.results25, go_sem, zTok]) rfl ?_
            rw [unhide HTE2]
            exact Told.bad (p := (0, 200)) (by decide) ((Ext.refl _).alloc _)
          case false =>
            go_wp2_with fail
            refine (unhide HA _).mono ?_
            rintro e w1 ⟨rfl, rfl⟩
            cases h46 : (ck == 46)
            case true =>
              have HTE2 := hide (show te = (0, 200) by rw [unhide HT3, hlk, h46]; rfl)
              rw [h46] at hk46
              go_wp2_with fail
              refine bodyPost_ret (v := .tuple #[.agg zTok, .int .i64 200]) (by simp [results, Tryd.results25, go_sem, zTok]) rfl ?_
              rw [unhide HTE2]
              exact Told.bad (p := (0, 200)) (by decide) ((Ext.refl _).alloc _)
            case false =>
              have HTE2 := hide (show te = parseI ((s.data.toList.drop i).take j) by rw [unhide HT3, hlk, h46]; rfl)
              rw [h46] at hk46
              have HPA := hide (fun W => parse_at s i j W)
              generalize parseI ((s.data.toList.drop i).take j) = pp at *
              go_wp2_with fail
              refine (unhide HPA _).mono ?_
              rintro e w2 ⟨rfl, hx2⟩
              have B2 := (Blk.new w #[.int .i64 0, .string ⟨#[]⟩, .int .i32 0, .int .i64 0, .int .i64 0] 33).ext hx2
              have g0 := B2.cell (i := 0) rfl
              have g1 := B2.cell (i := 1) rfl
              have g2 := B2.cell (i := 2) rfl
              have g3 := B2.cell (i := 3) rfl
              have g4 := B2.cell (i := 4) rfl
              have fz := fun i => B2.free i
              have X := hide (((Ext.refl w).alloc _).trans hx2)
              have B := hide B2
              clear hx2 B2
              by_cases hpz : pp.2 = 0
              · have hpz' : (pp.2 != 0) = false := by simp [hpz]
                have HPZ := hide hpz
                clear hpz
                go_wp2_with fail
                have B5 := hide ((((((unhide B).set 0 (.int .i64 3)).set 1 (.string (s.extract i (i + j)))).set 2 (.int .i32 pp.1)).set 3 (.int .i64 0)).set 4 (.int .i64 0))
                have k0 := (unhide B5).cell (i := 0) (v := .int .i64 3) rfl
                have k1 := (unhide B5).cell (i := 1) (v := .string (s.extract i (i + j))) rfl
                have k2 := (unhide B5).cell (i := 2) (v := .int .i32 pp.1) rfl
                have k3 := (unhide B5).cell (i := 3) (v := .int .i64 0) rfl
                have k4 := (unhide B5).cell (i := 4) (v := .int .i64 0) rfl
                refine bodyPost_ret (v := .tuple #[.agg #[.int .i64 3, .string (s.extract i (i + j)), .int .i32 pp.1, .int .i64 0, .int .i64 0], .int .i64 0]) (by simp [results, Tryd.results25, go_sem, k0, k1, k2, k3, k4]) rfl ?_
                rw [unhide HNQ, unhide HTE2]
                exact ⟨3, s.extract i (i + j), pp.1, by rw [unhide HPZ], fun _ => ⟨rfl, rfl, rfl⟩, (extSet (extSet (extSet (extSet (extSet (unhide X) (Nat.le_refl _)) (Nat.le_refl _)) (Nat.le_refl _)) (Nat.le_refl _)) (Nat.le_refl _))⟩
              · have hpz' : (pp.2 != 0) = true := by simp [hpz]
                go_wp2_with fail
                have B5 := hide ((((((unhide B).set 0 (.int .i64 0)).set 1 (.string ⟨#[]⟩)).set 2 (.int .i32 0)).set 3 (.int .i64 0)).set 4 (.int .i64 0))
                have k0 := (unhide B5).cell (i := 0) (v := .int .i64 0) rfl
                have k1 := (unhide B5).cell (i := 1) (v := .string ⟨#[]⟩) rfl
                have k2 := (unhide B5).cell (i := 2) (v := .int .i32 0) rfl
                have k3 := (unhide B5).cell (i := 3) (v := .int .i64 0) rfl
                have k4 := (unhide B5).cell (i := 4) (v := .int .i64 0) rfl
                refine bodyPost_ret (v := .tuple #[.agg #[.int .i64 0, .string ⟨#[]⟩, .int .i32 0, .int .i64 0, .int .i64 0], .int .i64 pp.2]) (by simp [results, Tryd.results25, go_sem, k0, k1, k2, k3, k4]) rfl ?_
                rw [unhide HTE2]
                exact ⟨0, ⟨#[]⟩, 0, rfl, fun h => absurd h hpz, (extSet (extSet (extSet (extSet (extSet (unhide X) (Nat.le_refl _)) (Nat.le_refl _)) (Nat.le_refl _)) (Nat.le_refl _)) (Nat.le_refl _))⟩
        · have hk46' : ((ck.toNat : Int) == 46) = false := hk46.trans h46
          go_wp2_with fail
          refine (unhide HA _).mono ?_
          rintro e w1 ⟨rfl, rfl⟩
          go_wp2_with fail
          refine (unhide HC1 _).mono ?_
          rintro e w1 ⟨rfl, rfl⟩
          cases hlk : isLt ck
          case true =>
            have HTE2 := hide (show te = (0, 200) by rw [unhide HT3, hlk]; rfl)
            go_wp2_with fail
            refine bodyPost_ret (v := .tuple #[.agg zTok, .int .i64 200]) (by simp [results, Tryd.results25, go_sem, zTok]) rfl ?_
            rw [unhide HTE2]
            exact Told.bad (p := (0, 200)) (by decide) ((Ext.refl _).alloc _)
          case false =>
            go_wp2_with fail
            refine (unhide HA _).mono ?_
            rintro e w1 ⟨rfl, rfl⟩
            cases h46 : (ck == 46)
            case true =>
              have HTE2 := hide (show te = (0, 200) by rw [unhide HT3, hlk, h46]; rfl)
              rw [h46] at hk46
              go_wp2_with fail
              refine bodyPost_ret (v := .tuple #[.agg zTok, .int .i64 200]) (by simp [results, Tryd.results25, go_sem, zTok]) rfl ?_
              rw [unhide HTE2]
              exact Told.bad (p := (0, 200)) (by decide) ((Ext.refl _).alloc _)
            case false =>
              have HTE2 := hide (show te = parseI ((s.data.toList.drop i).take j) by rw [unhide HT3, hlk, h46]; rfl)
              rw [h46] at hk46
              have HPA := hide (fun W => parse_at s i j W)
              generalize parseI ((s.data.toList.drop i).take j) = pp at *
              go_wp2_with fail
              refine (unhide HPA _).mono ?_
              rintro e w2 ⟨rfl, hx2⟩
              have B2 := (Blk.new w #[.int .i64 0, .string ⟨#[]⟩, .int .i32 0, .int .i64 0, .int .i64 0] 33).ext hx2
              have g0 := B2.cell (i := 0) rfl
              have g1 := B2.cell (i := 1) rfl
              have g2 := B2.cell (i := 2) rfl
              have g3 := B2.cell (i := 3) rfl
              have g4 := B2.cell (i := 4) rfl
              have fz := fun i => B2.free i
              have X := hide (((Ext.refl w).alloc _).trans hx2)
              have B := hide B2
              clear hx2 B2
              by_cases hpz : pp.2 = 0
              · have hpz' : (pp.2 != 0) = false := by simp [hpz]
                have HPZ := hide hpz
                clear hpz
                go_wp2_with fail
                have B5 := hide ((((((unhide B).set 0 (.int .i64 3)).set 1 (.string (s.extract i (i + j)))).set 2 (.int .i32 pp.1)).set 3 (.int .i64 0)).set 4 (.int .i64 0))
                have k0 := (unhide B5).cell (i := 0) (v := .int .i64 3) rfl
                have k1 := (unhide B5).cell (i := 1) (v := .string (s.extract i (i + j))) rfl
                have k2 := (unhide B5).cell (i := 2) (v := .int .i32 pp.1) rfl
                have k3 := (unhide B5).cell (i := 3) (v := .int .i64 0) rfl
                have k4 := (unhide B5).cell (i := 4) (v := .int .i64 0) rfl
                refine bodyPost_ret (v := .tuple #[.agg #[.int .i64 3, .string (s.extract i (i + j)), .int .i32 pp.1, .int .i64 0, .int .i64 0], .int .i64 0]) (by simp [results, Tryd.results25, go_sem, k0, k1, k2, k3, k4]) rfl ?_
                rw [unhide HNQ, unhide HTE2]
                exact ⟨3, s.extract i (i + j), pp.1, by rw [unhide HPZ], fun _ => ⟨rfl, rfl, rfl⟩, (extSet (extSet (extSet (extSet (extSet (unhide X) (Nat.le_refl _)) (Nat.le_refl _)) (Nat.le_refl _)) (Nat.le_refl _)) (Nat.le_refl _))⟩
              · have hpz' : (pp.2 != 0) = true := by simp [hpz]
                go_wp2_with fail
                have B5 := hide ((((((unhide B).set 0 (.int .i64 0)).set 1 (.string ⟨#[]⟩)).set 2 (.int .i32 0)).set 3 (.int .i64 0)).set 4 (.int .i64 0))
                have k0 := (unhide B5).cell (i := 0) (v := .int .i64 0) rfl
                have k1 := (unhide B5).cell (i := 1) (v := .string ⟨#[]⟩) rfl
                have k2 := (unhide B5).cell (i := 2) (v := .int .i32 0) rfl
                have k3 := (unhide B5).cell (i := 3) (v := .int .i64 0) rfl
                have k4 := (unhide B5).cell (i := 4) (v := .int .i64 0) rfl
                refine bodyPost_ret (v := .tuple #[.agg #[.int .i64 0, .string ⟨#[]⟩, .int .i32 0, .int .i64 0, .int .i64 0], .int .i64 pp.2]) (by simp [results, Tryd.results25, go_sem, k0, k1, k2, k3, k4]) rfl ?_
                rw [unhide HTE2]
                exact ⟨0, ⟨#[]⟩, 0, rfl, fun h => absurd h hpz, (extSet (extSet (extSet (extSet (extSet (unhide X) (Nat.le_refl _)) (Nat.le_refl _)) (Nat.le_refl _)) (Nat.le_refl _)) (Nat.le_refl _))⟩
end Go.Proofs.YtdcamcpffiilbaaDoor
