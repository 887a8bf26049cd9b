/-
  The walks of the document's answer for a number's text.
-/
import Derived.Test.YtcakdniggepkoaaDoorFxC
import Derived.Test.YtcakdniggepkoaaDoorFxP
namespace Go.Proofs.YtcakdniggepkoaaDoor
open Go.RowKit
set_option linter.unusedSimpArgs false
set_option linter.unusedVariables false

theorem nDigits_pos (m : Nat) : 1 ≤ Lib.nDigits m := by
  rw [Lib.nDigits]
  split <;> omega
theorem nDigits_le6 {n : Nat} (h : n ≤ 1000000) : Lib.nDigits n ≤ 10 := by
  have h1 := nd_small (u := n) (by omega)
  rw [Lib.decDigits_length] at h1
  by_cases h2 : n < 10
  · rw [Lib.nDigits_small h2]; omega
  · by_cases k1 : n < 100
    · rw [Lib.nDigits_unique 1 n (by omega) (by omega)]; omega
    · by_cases k2 : n < 1000
      · rw [Lib.nDigits_unique 2 n (by omega) (by omega)]; omega
      · by_cases k3 : n < 10000
        · rw [Lib.nDigits_unique 3 n (by omega) (by omega)]; omega
        · by_cases k4 : n < 100000
          · rw [Lib.nDigits_unique 4 n (by omega) (by omega)]; omega
          · by_cases k5 : n < 1000000
            · rw [Lib.nDigits_unique 5 n (by omega) (by omega)]; omega
            · rw [Lib.nDigits_unique 6 n (by omega) (by omega)]; omega
theorem enc_dig (k : Nat) (h : k < 10) : Utf8.encode (48 + (k : Int)) = ⟨[UInt8.ofNat (48 + k)].toArray⟩ := by
  match k, h with
  | 0, _ => decide +kernel
  | 1, _ => decide +kernel
  | 2, _ => decide +kernel
  | 3, _ => decide +kernel
  | 4, _ => decide +kernel
  | 5, _ => decide +kernel
  | 6, _ => decide +kernel
  | 7, _ => decide +kernel
  | 8, _ => decide +kernel
  | 9, _ => decide +kernel

set_option maxHeartbeats 1000000 in
theorem refDigits_any (n : Nat) (w : World) (hn : n ≤ 1000000) :
    Calls Tryd.prog 18 #[.int .i64 n] w fun e w' => e = .returned (.string ⟨(Lib.decDigits n).toArray⟩) ∧ w' = w := by
  go_enter Tryd.func18, Tryd.ntmps18
  go_wp2
  go_loop [0, 3] (fun k s => ∃ (m : Nat) (l : List UInt8), m ≤ 1000000 ∧ l.length + Lib.nDigits m ≤ 10 ∧ k = .int .i64 m ∧ s = .string ⟨l.toArray⟩ ∧ Lib.decDigits m ++ l = Lib.decDigits n) (fun k _ => (intOf k).toNat)
  case atStart => exact ⟨n, [], by omega, by have := nDigits_le6 hn; simpa using this, rfl, rfl, by simp⟩
  case round =>
    obtain ⟨m, l, hm, hl, rfl, rfl, he⟩ := hrel
    have H := hide he
    clear he
    have hnd := nDigits_pos m
    by_cases h9 : 9 < m
    · have t1 : decide ((9 : Int) < (m : Int)) = true := by simp; omega
      have e1 : Utf8.encode (48 + (m : Int) % 10) = ⟨[UInt8.ofNat (48 + m % 10)].toArray⟩ := enc_dig (m % 10) (by omega)
      have hd : Hid (Lib.decDigits m = Lib.decDigits (m / 10) ++ [UInt8.ofNat (48 + m % 10)]) := by show _ = _; rw [Lib.decDigits, dif_neg (by omega)]
      have hq : Hid (Lib.nDigits m = Lib.nDigits (m / 10) + 1) := Lib.nDigits_big (by omega)
      generalize UInt8.ofNat (48 + m % 10) = c at *
      go_wp2
      go_round
      case rel =>
        refine ⟨m / 10, c :: l, by omega, by have := unhide hq; simp; omega, by simp, congrArg Value.string (bstr_app [c] l), ?_⟩
        rw [← unhide H, unhide hd]
        simp
      case measure => simp [intOf]; omega
    · have t1 : decide ((9 : Int) < (m : Int)) = false := by simp; omega
      have e1 : Utf8.encode (48 + (m : Int)) = ⟨[UInt8.ofNat (48 + m)].toArray⟩ := enc_dig m (by omega)
      have hd : Hid (Lib.decDigits m = [UInt8.ofNat (48 + m)]) := Lib.decDigits_one (by omega)
      generalize UInt8.ofNat (48 + m) = c at *
      go_wp2
      go_ret
      refine ⟨?_, rfl⟩
      rw [← unhide H, unhide hd]
      exact congrArg (fun b => Ending.returned (.string b)) (bstr_app [c] l)

theorem dec_pad (k : Nat) : ∀ f, f < 10 ^ (k + 1) → Lib.decDigits (10 ^ (k + 1) + f) = 49 :: (List.replicate (k + 1 - Lib.nDigits f) 48 ++ Lib.decDigits f) := by
  induction k with
  | zero =>
    intro f hf
    have hf2 : f < 10 := by simpa using hf
    rw [Lib.nDigits_small hf2, Lib.decDigits_one hf2, Lib.decDigits, dif_neg (by omega), show (10 ^ (0 + 1) + f) / 10 = 1 by omega, show (10 ^ (0 + 1) + f) % 10 = f by omega, Lib.decDigits_one (by omega)]
    rfl
  | succ k ih =>
    intro f hf
    have hp : 10 ^ (k + 1 + 1) = 10 * 10 ^ (k + 1) := by rw [Nat.pow_succ, Nat.mul_comm]
    have hk : 1 ≤ 10 ^ (k + 1) := Nat.pow_pos (by omega)
    rw [hp] at hf ⊢
    rw [Lib.decDigits, dif_neg (by omega), show (10 * 10 ^ (k + 1) + f) / 10 = 10 ^ (k + 1) + f / 10 by omega, show (10 * 10 ^ (k + 1) + f) % 10 = f % 10 by omega, ih (f / 10) (by omega)]
    by_cases h10 : f < 10
    · rw [show f / 10 = 0 by omega, show f % 10 = f by omega, Lib.nDigits_small h10, Lib.decDigits_one h10, Lib.nDigits_small (by omega), Lib.decDigits_one (by omega)]
      rw [show k + 1 + 1 - 1 = (k + 1 - 1) + 1 by omega, List.replicate_succ']
      simp
    · rw [Lib.nDigits_big h10]
      have e : Lib.decDigits f = Lib.decDigits (f / 10) ++ [UInt8.ofNat (48 + f % 10)] := by rw [Lib.decDigits, dif_neg h10]
      rw [e, show k + 1 + 1 - (Lib.nDigits (f / 10) + 1) = k + 1 - Lib.nDigits (f / 10) by omega]
      simp
theorem pad5 (f : Nat) (h : f < 100000) : (Lib.decDigits (100000 + f)).drop 1 = List.replicate (5 - Lib.nDigits f) 48 ++ Lib.decDigits f := by
  rw [show 100000 + f = 10 ^ (4 + 1) + f by rfl, dec_pad 4 f (by simpa using h)]
  rfl

theorem trim_snoc_zero (l : List UInt8) : Lib.trimRightB (l ++ [48]) 48 = Lib.trimRightB l 48 := by
  unfold Lib.trimRightB
  rw [List.reverse_append]
  simp
theorem trim_snoc_other (l : List UInt8) (c : UInt8) (h : c ≠ 48) : Lib.trimRightB (l ++ [c]) 48 = l ++ [c] := by
  unfold Lib.trimRightB
  rw [List.reverse_append, List.reverse_singleton, List.singleton_append, List.dropWhile_cons_of_neg (by simpa using h)]
  simp
theorem trim_nonempty (f : Nat) (h : f < 100000) (h0 : f ≠ 0) : Lib.trimRightB ((Lib.decDigits (100000 + f)).drop 1) 48 ≠ [] := by
  intro e
  obtain ⟨hv, _⟩ := part_val f h
  obtain ⟨k, hk⟩ := trimR_zeros ((Lib.decDigits (100000 + f)).drop 1)
  rw [e, List.nil_append] at hk
  rw [hk, pval_zeros] at hv
  omega

set_option maxHeartbeats 2000000 in
theorem refText_any (x : Int) (w : World) (hx : I32 x) :
    Calls Tryd.prog 8 #[.int .i32 x] w fun e w' => e = .returned (.string ⟨(textL x).toArray⟩) ∧ w' = w := by
  go_enter Tryd.func8, Tryd.ntmps8
  unfold I32 at hx
  have htl : Hid (textL x = (if x < 0 then [45] else []) ++ (Lib.decDigits (x.natAbs / 65536) ++ partL (x.natAbs % 65536))) := by
    show _ = _
    unfold textL
    split <;> simp
  by_cases hn : x < 0
  · obtain ⟨m, rfl⟩ : ∃ m : Nat, x = -(m : Int) := ⟨x.natAbs, by omega⟩
    have hab : (-(m : Int)).natAbs = m := by omega
    rw [hab, if_pos hn] at htl
    clear hab
    have hd : Hid ((m : Int) / 65536 = ((m / 65536 : Nat) : Int)) := by show _ = _; omega
    go_wp2_with fail
    rw [unhide hd]
    refine (refDigits_any _ _ (by omega)).mono ?_
    rintro e w1 ⟨rfl, rfl⟩
    have hds := nd_small (u := m / 65536) (by omega)
    generalize Lib.decDigits (m / 65536) = ds at *
    have happ := bstr_app [45] ds
    have hpl : Hid (partL (m % 65536) = if (m % 65536 * 100000 + 32768) / 65536 = 0 then [] else 46 :: Lib.trimRightB ((Lib.decDigits (100000 + (m % 65536 * 100000 + 32768) / 65536)).drop 1) 48) := rfl
    have hF : (m % 65536 * 100000 + 32768) / 65536 < 100000 := by omega
    have hFe : Hid ((100000 * ((m : Int) % 65536) * 2 + 65536) / 131072 = (((m % 65536 * 100000 + 32768) / 65536 : Nat) : Int)) := by show _ = _; omega
    generalize (m % 65536 * 100000 + 32768) / 65536 = F at *
    by_cases h0 : F = 0
    · have t0 : ((100000 * ((m : Int) % 65536) * 2 + 65536) / 131072 == 0) = true := by rw [unhide hFe, h0]; rfl
      go_wp2
      go_ret
      refine ⟨?_, rfl⟩
      rw [unhide htl, unhide hpl, if_pos h0, List.append_nil]
      rfl
    · have t0 : ((100000 * ((m : Int) % 65536) * 2 + 65536) / 131072 == 0) = false := by rw [unhide hFe]; simp; omega
      go_wp2_with fail
      rw [unhide hFe]
      refine (refDigits_any _ _ (by omega)).mono ?_
      rintro e w1 ⟨rfl, rfl⟩
      have hp5 := hide (pad5 F hF)
      have hr0 := hide (trim_nonempty F hF h0)
      have htl2 : Hid (textL (-(m : Int)) = ([45] ++ ds) ++ 46 :: Lib.trimRightB ((Lib.decDigits (100000 + F)).drop 1) 48) := by show _ = _; rw [unhide htl, unhide hpl, if_neg h0]; simp
      have hfl : (Lib.decDigits F).length ≤ 5 := by
        have h := congrArg List.length (unhide hp5)
        rw [List.length_drop, Lib.decDigits_length, Lib.nDigits_unique 5 _ (by omega) (by omega), List.length_append] at h
        omega
      have hfn : Hid (Lib.nDigits F = (Lib.decDigits F).length) := (Lib.decDigits_length F).symm
      clear htl hpl
      generalize Lib.decDigits F = fs at *
      generalize (Lib.decDigits (100000 + F)).drop 1 = l5 at *
      go_wp2
      go_loop [6] (fun t => ∃ j : Nat, t = .string ⟨(List.replicate j 48 ++ fs).toArray⟩ ∧ j + fs.length ≤ 5) (fun t => 5 - Lib.strSize t)
      case atStart => exact ⟨0, rfl, by omega⟩
      case round =>
        obtain ⟨j, rfl, hj⟩ := hrel
        have hsz : (⟨(List.replicate j 48 ++ fs).toArray⟩ : ByteArray).size = j + fs.length := by rw [Lib.size_mk]; simp
        by_cases hlt : j + fs.length < 5
        · have t1 : decide (((j + fs.length : Nat) : Int) < 5) = true := by simp; omega
          have happ := bstr_app [48] (List.replicate j 48 ++ fs)
          go_wp2
          go_round
          case rel => exact ⟨j + 1, by simp [List.replicate_succ], by omega⟩
          case measure => simp [Lib.strSize_string, Lib.size_mk]; omega
        · have t1 : decide (((j + fs.length : Nat) : Int) < 5) = false := by simp; omega
          have hl5 : List.replicate j 48 ++ fs = l5 := by rw [unhide hp5, unhide hfn, show 5 - fs.length = j by omega]
          have hlen5 : l5.length = 5 := by rw [← hl5]; simp; omega
          rw [hl5] at hsz ⊢
          clear hl5 hj hfl hlt
          have hsz5 : (⟨l5.toArray⟩ : ByteArray).size = 5 := by rw [Lib.size_mk, hlen5]
          clear hsz
          have t2 : decide ((((⟨l5.toArray⟩ : ByteArray).size : Nat) : Int) < 5) = false := by rw [hsz5]; rfl
          go_wp2
          go_loop [6] (fun t => ∃ l : List UInt8, t = .string ⟨l.toArray⟩ ∧ Lib.trimRightB l 48 = Lib.trimRightB l5 48 ∧ l.length ≤ 5) (fun t => Lib.strSize t)
          case atStart => exact ⟨l5, rfl, rfl, by omega⟩
          case round =>
            obtain ⟨l, rfl, htr, hl⟩ := hrel
            have hne : l ≠ [] := by
              intro e
              rw [e] at htr
              exact unhide hr0 htr.symm
            obtain ⟨l', c, rfl⟩ : ∃ l' c, l = l' ++ [c] := ⟨l.dropLast, l.getLast hne, (List.dropLast_concat_getLast hne).symm⟩
            have hsl : (⟨(l' ++ [c]).toArray⟩ : ByteArray).size = l'.length + 1 := by rw [Lib.size_mk]; simp
            have hl4 : l'.length ≤ 4 := by simp at hl; omega
            have hat : ∀ h, (⟨(l' ++ [c]).toArray⟩ : ByteArray)[l'.length]'h = c := by
              intro h
              have := Lib.getElem_mk (l' ++ [c]) l'.length h
              rw [List.getElem?_append_right (by omega)] at this
              simpa using this.symm
            have HT := hide htr
            clear htr hne hl
            by_cases h48 : c = 48
            · have hcb : ((c.toNat : Int) == 48) = true := by rw [h48]; rfl
              have hex : (⟨(l' ++ [c]).toArray⟩ : ByteArray).extract 0 l'.length = ⟨l'.toArray⟩ := by rw [Lib.extract_mk]; simp
              have K := hide h48
              clear h48
              go_wp2
              go_round
              case rel =>
                refine ⟨l', rfl, ?_, by omega⟩
                rw [← unhide HT, unhide K, trim_snoc_zero]
              case measure => simp [Lib.strSize_string, Lib.size_mk]
            · have hcb : ((c.toNat : Int) == 48) = false := by
                simp
                intro e
                exact h48 (UInt8.toNat_inj.1 (by simpa using (by omega : c.toNat = 48)))
              have K := hide h48
              clear h48
              go_wp2
              go_ret
              refine ⟨?_, rfl⟩
              rw [unhide htl2, ← unhide HT, trim_snoc_other _ _ (unhide K)]
              refine congrArg (fun b => Ending.returned (.string b)) ?_
              show (⟨([45] ++ ds).toArray⟩ : ByteArray) ++ ⟨([46] : List UInt8).toArray⟩ ++ ⟨(l' ++ [c]).toArray⟩ = _
              rw [bstr_app, bstr_app, List.append_assoc]
              rfl
  · obtain ⟨m, rfl⟩ : ∃ m : Nat, x = (m : Int) := ⟨x.natAbs, by omega⟩
    have hab : ((m : Int)).natAbs = m := by omega
    rw [hab, if_neg hn] at htl
    clear hab
    have hd : Hid ((m : Int) / 65536 = ((m / 65536 : Nat) : Int)) := by show _ = _; omega
    have tn : decide ((m : Int) < 0) = false := by simp
    clear hn
    go_wp2_with fail
    rw [unhide hd]
    refine (refDigits_any _ _ (by omega)).mono ?_
    rintro e w1 ⟨rfl, rfl⟩
    have hds := nd_small (u := m / 65536) (by omega)
    generalize Lib.decDigits (m / 65536) = ds at *
    have happ := bstr_app [] ds
    have hpl : Hid (partL (m % 65536) = if (m % 65536 * 100000 + 32768) / 65536 = 0 then [] else 46 :: Lib.trimRightB ((Lib.decDigits (100000 + (m % 65536 * 100000 + 32768) / 65536)).drop 1) 48) := rfl
    have hF : (m % 65536 * 100000 + 32768) / 65536 < 100000 := by omega
    have hFe : Hid ((100000 * ((m : Int) % 65536) * 2 + 65536) / 131072 = (((m % 65536 * 100000 + 32768) / 65536 : Nat) : Int)) := by show _ = _; omega
    generalize (m % 65536 * 100000 + 32768) / 65536 = F at *
    by_cases h0 : F = 0
    · have t0 : ((100000 * ((m : Int) % 65536) * 2 + 65536) / 131072 == 0) = true := by rw [unhide hFe, h0]; rfl
      go_wp2
      go_ret
      refine ⟨?_, rfl⟩
      rw [unhide htl, unhide hpl, if_pos h0, List.append_nil]
      rfl
    · have t0 : ((100000 * ((m : Int) % 65536) * 2 + 65536) / 131072 == 0) = false := by rw [unhide hFe]; simp; omega
      go_wp2_with fail
      rw [unhide hFe]
      refine (refDigits_any _ _ (by omega)).mono ?_
      rintro e w1 ⟨rfl, rfl⟩
      have hp5 := hide (pad5 F hF)
      have hr0 := hide (trim_nonempty F hF h0)
      have htl2 : Hid (textL (m : Int) = ds ++ 46 :: Lib.trimRightB ((Lib.decDigits (100000 + F)).drop 1) 48) := by show _ = _; rw [unhide htl, unhide hpl, if_neg h0]; simp
      have hfl : (Lib.decDigits F).length ≤ 5 := by
        have h := congrArg List.length (unhide hp5)
        rw [List.length_drop, Lib.decDigits_length, Lib.nDigits_unique 5 _ (by omega) (by omega), List.length_append] at h
        omega
      have hfn : Hid (Lib.nDigits F = (Lib.decDigits F).length) := (Lib.decDigits_length F).symm
      clear htl hpl
      generalize Lib.decDigits F = fs at *
      generalize (Lib.decDigits (100000 + F)).drop 1 = l5 at *
      go_wp2
      go_loop [6] (fun t => ∃ j : Nat, t = .string ⟨(List.replicate j 48 ++ fs).toArray⟩ ∧ j + fs.length ≤ 5) (fun t => 5 - Lib.strSize t)
      case atStart => exact ⟨0, rfl, by omega⟩
      case round =>
        obtain ⟨j, rfl, hj⟩ := hrel
        have hsz : (⟨(List.replicate j 48 ++ fs).toArray⟩ : ByteArray).size = j + fs.length := by rw [Lib.size_mk]; simp
        by_cases hlt : j + fs.length < 5
        · have t1 : decide (((j + fs.length : Nat) : Int) < 5) = true := by simp; omega
          have happ := bstr_app [48] (List.replicate j 48 ++ fs)
          go_wp2
          go_round
          case rel => exact ⟨j + 1, by simp [List.replicate_succ], by omega⟩
          case measure => simp [Lib.strSize_string, Lib.size_mk]; omega
        · have t1 : decide (((j + fs.length : Nat) : Int) < 5) = false := by simp; omega
          have hl5 : List.replicate j 48 ++ fs = l5 := by rw [unhide hp5, unhide hfn, show 5 - fs.length = j by omega]
          have hlen5 : l5.length = 5 := by rw [← hl5]; simp; omega
          rw [hl5] at hsz ⊢
          clear hl5 hj hfl hlt
          have hsz5 : (⟨l5.toArray⟩ : ByteArray).size = 5 := by rw [Lib.size_mk, hlen5]
          clear hsz
          have t2 : decide ((((⟨l5.toArray⟩ : ByteArray).size : Nat) : Int) < 5) = false := by rw [hsz5]; rfl
          go_wp2
          go_loop [6] (fun t => ∃ l : List UInt8, t = .string ⟨l.toArray⟩ ∧ Lib.trimRightB l 48 = Lib.trimRightB l5 48 ∧ l.length ≤ 5) (fun t => Lib.strSize t)
          case atStart => exact ⟨l5, rfl, rfl, by omega⟩
          case round =>
            obtain ⟨l, rfl, htr, hl⟩ := hrel
            have hne : l ≠ [] := by
              intro e
              rw [e] at htr
              exact unhide hr0 htr.symm
            obtain ⟨l', c, rfl⟩ : ∃ l' c, l = l' ++ [c] := ⟨l.dropLast, l.getLast hne, (List.dropLast_concat_getLast hne).symm⟩
            have hsl : (⟨(l' ++ [c]).toArray⟩ : ByteArray).size = l'.length + 1 := by rw [Lib.size_mk]; simp
            have hl4 : l'.length ≤ 4 := by simp at hl; omega
            have hat : ∀ h, (⟨(l' ++ [c]).toArray⟩ : ByteArray)[l'.length]'h = c := by
              intro h
              have := Lib.getElem_mk (l' ++ [c]) l'.length h
              rw [List.getElem?_append_right (by omega)] at this
              simpa using this.symm
            have HT := hide htr
            clear htr hne hl
            by_cases h48 : c = 48
            · have hcb : ((c.toNat : Int) == 48) = true := by rw [h48]; rfl
              have hex : (⟨(l' ++ [c]).toArray⟩ : ByteArray).extract 0 l'.length = ⟨l'.toArray⟩ := by rw [Lib.extract_mk]; simp
              have K := hide h48
              clear h48
              go_wp2
              go_round
              case rel =>
                refine ⟨l', rfl, ?_, by omega⟩
                rw [← unhide HT, unhide K, trim_snoc_zero]
              case measure => simp [Lib.strSize_string, Lib.size_mk]
            · have hcb : ((c.toNat : Int) == 48) = false := by
                simp
                intro e
                exact h48 (UInt8.toNat_inj.1 (by simpa using (by omega : c.toNat = 48)))
              have K := hide h48
              clear h48
              go_wp2
              go_ret
              refine ⟨?_, rfl⟩
              rw [unhide htl2, ← unhide HT, trim_snoc_other _ _ (unhide K)]
              refine congrArg (fun b => Ending.returned (.string b)) ?_
              show (⟨(ds).toArray⟩ : ByteArray) ++ ⟨([46] : List UInt8).toArray⟩ ++ ⟨(l' ++ [c]).toArray⟩ = _
              rw [bstr_app, bstr_app, List.append_assoc]
              rfl

end Go.Proofs.YtcakdniggepkoaaDoor
