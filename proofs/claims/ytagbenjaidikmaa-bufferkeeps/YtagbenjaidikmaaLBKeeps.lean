/-
  Proved: BufferKeeps answers true for every number, bytes and row of what is done, and turns nothing that was there: what was put is got, byte for byte, whatever is done with other buffers; what is taken of the budget are the bytes of all buffers. No condition but the form's own bound on what is read.
-/
import Derived.Test.YtagbenjaidikmaaBK
namespace Go.Proofs.Ytagbenjaidikmaa
open Go.ChangeShapes Go.WideShapes Go.ChangeAt Go.RowKit
set_option linter.unusedVariables false
set_option linter.unusedSimpArgs false

theorem sumB_take (K : List Ent) (j : Nat) (h : j < K.length) : sumB (K.take (j + 1)) = sumB (K.take j) + K[j].2.2.length := by
  unfold sumB sumL
  rw [List.take_succ_eq_append_getElem h, List.map_append, List.sum_append]
  simp
theorem Kp.mono {w : World} {base S G M n m : Nat} {all id : Int} {own : List Int} (h : Kp w base S G M all id own n) (hm : n ≤ m) : Kp w base S G M all id own m := by
  obtain ⟨K, v, h1, h2, h3⟩ := h
  exact ⟨K, v, h1, h2, by omega⟩
theorem tmod_bd (a : Int) {m : Int} (hm : 0 < m) : -m < a.tmod m ∧ a.tmod m < m := ⟨Int.lt_tmod_of_pos a hm, Int.tmod_lt_of_pos a hm⟩
theorem kind3 (K : Int) : (wrap64 (K.tmod 3 + 3)).tmod 3 = 0 ∨ (wrap64 (K.tmod 3 + 3)).tmod 3 = 1 ∨ (wrap64 (K.tmod 3 + 3)).tmod 3 = 2 := by
  obtain ⟨h1, h2⟩ := tmod_bd K (m := 3) (by omega)
  generalize K.tmod 3 = r at *
  rw [show wrap64 (r + 3) = r + 3 by unfold wrap64; omega, Int.tmod_eq_emod_of_nonneg (by omega)]
  omega
theorem sumB_le (K : List Ent) (j : Nat) : sumB (K.take j) ≤ sumB K := by
  conv => rhs; rw [← List.take_append_drop j K]
  unfold sumB sumL
  rw [List.map_append, List.sum_append]
  omega

set_option maxRecDepth 100000 in
set_option maxHeartbeats 8000000 in
theorem keeps_walk (id : Int) (v : Value) (own : List Int) (ov : Value) (xs : List Op5) (w : World) (hid : I64 id) (hr : Row .u8 w v own) (ho : ORow w ov xs) :
    Calls Try.prog 6 #[.int .i64 id, v, ov] w fun e w' => e = .returned (.bool true) ∧ Ext w w' := by
  obtain ⟨ao, cap, rfl, hao, hlc, hcm⟩ := hr.shape
  have hcm2 : cap ≤ 9223372036854775807 := by unfold maxLen at hcm; omega
  have hos := ho
  obtain ⟨oo, ocap, rfl, holc, hocm, _⟩ := hos
  have hocm2 : ocap ≤ 9223372036854775807 := by unfold maxLen at hocm; omega
  have HR := hide hr
  have HO := hide ho
  have HID := hide hid
  clear hr ho hao hcm hocm hid
  rename_i hx0
  clear hx0
  go_enter Try.func6, Try.ntmps6
  go_wp2_with fail
  refine (wakes_any _).mono ?_
  rintro e w1 ⟨rfl, hx1⟩
  have HX := hide hx1
  clear hx1
  by_cases hlong : 5000 < own.length
  · go_wp2
    go_ret
    exact ⟨rfl, unhide HX⟩
  · have hlong2 : (own.length : Int) ≤ 5000 := by omega
    go_wp2_with fail
    refine (newBudget_blk 20000 (by omega) (by omega) _).mono ?_
    rintro e w2 ⟨rfl, hG, hx2⟩
    have HG := hide hG
    have hs1 := (unhide HX).size
    have H2 := hide ((unhide HX).trans hx2)
    clear hG hx2 HX
    go_wp2_with fail
    refine (new_sto (base := w.heap.size) (unhide HG) ⟨by omega, by omega, by omega⟩ hs1).mono ?_
    rintro e w3 ⟨S, M, rfl, hs3, hx3⟩
    have H3 := hide (And.intro hs3 ((unhide H2).trans hx3))
    clear hs3 hx3 HG H2
    generalize w1.heap.size = G at *
    by_cases hlow : id < 1
    · go_wp2_with fail
      refine (data_low id hlow _ S _).mono ?_
      rintro e w4 ⟨rfl, rfl⟩
      go_wp2
      go_ret
      exact ⟨rfl, (unhide H3).2⟩
    · go_wp2_with fail
      refine (data_put (unhide H3).1 (unhide HID) (by omega) ((unhide HR).ext (unhide H3).2) (by simp [lenOf, look]; omega) (by omega) (by simp [maxLen])).mono ?_
      rintro e w4 ⟨v', rfl, hs4, ho4, _⟩
      have hk4 : Kp w4 w.heap.size S G M 20000 id own 1 := by
        refine ⟨ins (id, v', own) (rem id []), v', ?_, ?_, ?_⟩
        · have e : ((sumB (ins (id, v', own) (rem id [])) : Nat) : Int) = max 0 (0 - (lenOf id [] : Nat) + own.length) := by
            rw [sumB_ins]
            simp [sumB, sumL, rem, lenOf, look]
          rw [e]
          exact hs4
        · simp [rem, ins, look]
        · simp [rem, ins]
      have hx4 : Ext w w4 := Below.trans (unhide H3).2 ((unhide H3).1.below ho4)
      have H4 := hide (And.intro hk4 hx4)
      clear hs4 ho4 hk4 hx4 H3
      go_wp2_with fail
      go_loopw [54] (fun i wr => ∃ (k : Nat), k ≤ xs.length ∧ k ≤ 40 ∧ i = .int .i64 (k : Int) ∧ Kp wr w.heap.size S G M 20000 id own (k + 1) ∧ Ext w wr) (fun i _ => xs.length - (intOf i).toNat)
      case atStart => exact ⟨0, Nat.zero_le _, Nat.zero_le _, rfl, (unhide H4).1, (unhide H4).2⟩
      case round =>
        clear H4
        obtain ⟨k, hk, hk1, rfl, hK, hX⟩ := hrel
        by_cases hlt : k < xs.length ∧ k ≠ 40
        · obtain ⟨hlt, h40⟩ := hlt
          obtain ⟨hok, rb, ro, rfl, c0, c1, c2, c3, c4⟩ := (unhide HO).at hX k hlt
          have h40b : ((k : Int) == 40) = false := by simp; omega
          have hk39 : k < 40 := by omega
          have hkn : (k : Int) < (xs.length : Int) := by omega
          generalize xs[k] = o at hok c0 c1 c2 c3 c4
          obtain ⟨oK, oI, oA, oN, ob, obs⟩ := o
          simp only at c0 c1 c2 c3 c4
          have hrow := hok.row
          obtain ⟨bo, bcap, e5, _, hbl, hbcm⟩ := hrow.shape
          simp only at e5
          subst e5
          have HK := hide (And.intro hK (And.intro hX hok))
          have hKb := hok.K
          clear hK hX hok hrow h40
          by_cases hsame : oI = id
          · have hb : (oI == id) = true := by simp [hsame]
            have HS := hide hsame
            clear hsame
            go_wp2
            go_roundw
            case rel => exact ⟨k + 1, by omega, by omega, by go_num, ((unhide HK).1.ext ((Ext.refl wr).alloc _)).mono (by omega), (unhide HK).2.1.alloc _⟩
            case measure => simp [intOf]; omega
          · have hb : (oI == id) = false := by simp [hsame]
            have HS := hide hsame
            clear hsame
            rcases kind3 oK with hq | hq | hq
            · go_wp2_with fail
              refine (data_kp ((unhide HK).1.ext ((Ext.refl wr).alloc _)) (unhide HK).2.2.I (unhide HS) (((unhide HK).2.2.row).ext ((Ext.refl wr).alloc _)) (by omega)).mono ?_
              rintro e w5 ⟨E, rfl, hk5, hb5⟩
              have hX5 : Ext w w5 := Below.trans ((unhide HK).2.1.alloc _) hb5
              have H5 := hide (And.intro hk5 hX5)
              clear hk5 hb5 hX5
              go_wp2
              go_roundw
              case rel => exact ⟨k + 1, by omega, by omega, by go_num, (unhide H5).1, (unhide H5).2⟩
              case measure => simp [intOf]; omega
            · go_wp2_with fail
              refine (sub_kp ((unhide HK).1.ext ((Ext.refl wr).alloc _)) (unhide HK).2.2.I (unhide HS) oA (((unhide HK).2.2.row).ext ((Ext.refl wr).alloc _))).mono ?_
              rintro e w5 ⟨E, rfl, hk5, hb5⟩
              have hX5 : Ext w w5 := Below.trans ((unhide HK).2.1.alloc _) hb5
              have H5 := hide (And.intro hk5 hX5)
              clear hk5 hb5 hX5
              go_wp2
              go_roundw
              case rel => exact ⟨k + 1, by omega, by omega, by go_num, (unhide H5).1, (unhide H5).2⟩
              case measure => simp [intOf]; omega
            · go_wp2_with fail
              refine (drop_kp ((unhide HK).1.ext ((Ext.refl wr).alloc _)) (unhide HK).2.2.I (unhide HS)).mono ?_
              rintro e w5 ⟨E, rfl, hk5, hb5⟩
              have hX5 : Ext w w5 := Below.trans ((unhide HK).2.1.alloc _) hb5
              have H5 := hide (And.intro hk5 hX5)
              clear hk5 hb5 hX5
              go_wp2
              go_roundw
              case rel => exact ⟨k + 1, by omega, by omega, by go_num, (unhide H5).1, (unhide H5).2⟩
              case measure => simp [intOf]; omega
        · have H5 := hide (And.intro hK hX)
          clear hK hX
          by_cases h40 : k = 40 ∧ k < xs.length
          · obtain ⟨rfl, hlt2⟩ := h40
            have hkn : (40 : Int) < (xs.length : Int) := by omega
            obtain ⟨hok, rb, ro, rfl, c0, c1, c2, c3, c4⟩ := (unhide HO).at (unhide H5).2 40 hlt2
            generalize xs[40] = o at hok c0 c1 c2 c3 c4
            obtain ⟨oK, oI, oA, oN, ob, obs⟩ := o
            simp only at c0 c1 c2 c3 c4
            have hrow := hok.row
            obtain ⟨bo, bcap, e5, _, hbl, hbcm⟩ := hrow.shape
            simp only at e5
            subst e5
            have H6 := hide (And.intro ((unhide H5).1.ext ((Ext.refl wr).alloc (.cells #[.int .i64 oK, .int .i64 oI, .int .i64 oA, .int .i64 oN, .slice bo obs.length bcap] 36))) ((unhide H5).2.alloc (.cells #[.int .i64 oK, .int .i64 oI, .int .i64 oA, .int .i64 oN, .slice bo obs.length bcap] 36)))
            clear hok hrow hlt H5
            go_wp2_with fail
            have hE := unhide H6
            obtain ⟨⟨K, u, hs, hl, hn⟩, hXe⟩ := hE
            have hok := hs.ok
            obtain ⟨q0, q1, q2⟩ := hok
            have hlen := lenOf_le hs.rise id
            have hlo : lenOf id K = own.length := by unfold lenOf; rw [hl]; rfl
            rw [hlo] at hlen
            have hKn : K.length ≤ 41 := by omega
            have HS := hide (And.intro hs (And.intro hl hXe))
            have HLE := hide hlen
            have hle : own.length ≤ sumB K := by omega
            clear hs hl hXe hlen hlo H6
            refine (get_some (unhide HS).1 (unhide HID) (unhide HS).2.1 0 own.length (by omega)).mono ?_
            rintro e w5 ⟨ao5, cap5, rfl, hown5, hx5⟩
            rw [List.drop_zero, List.take_length] at hown5
            have H7 := hide (And.intro ((unhide HS).1.ext hx5) (And.intro hown5.row (And.intro (unhide HS).2.1 ((unhide HS).2.2.trans hx5))))
            clear hown5 hx5 HS
            go_wp2_with fail
            refine (size_some (unhide H7).1 (unhide HID) (unhide H7).2.2.1).mono ?_
            rintro e w6 ⟨rfl, rfl⟩
            go_wp2_with fail
            refine (equal_same ao5 ao cap5 cap own _ (unhide H7).2.1 ((unhide HR).ext (unhide H7).2.2.2)).mono ?_
            rintro e w7 ⟨rfl, rfl⟩
            go_wp2_with fail
            refine (list_any (unhide H7).1 (by omega)).mono ?_
            rintro e w8 ⟨ao8, cap8, rfl, hrow8, hx8⟩
            have H8 := hide (And.intro ((unhide H7).1.ext hx8) (And.intro hrow8 (And.intro (unhide H7).2.2.1 ((unhide H7).2.2.2.trans hx8))))
            clear hrow8 hx8 H7
            go_wp2_with fail
            go_loopw [130, 16] (fun i s wz => ∃ (j : Nat), j ≤ K.length ∧ i = .int .i64 (j : Int) ∧ s = .int .i64 (sumB (K.take j) : Int) ∧ wz = w8) (fun i _ _ => K.length - (intOf i).toNat)
            case atStart => exact ⟨0, Nat.zero_le _, rfl, by simp [sumB, sumL], rfl⟩
            case round =>
              obtain ⟨j, hj, rfl, rfl, rfl⟩ := hrel
              by_cases hjl : j < K.length
              · have hrow := (unhide H8).2.1
                obtain ⟨kb, ko, rfl, kc⟩ := hrow.at j (by simpa using hjl)
                have kj := kc j (by simpa using hjl)
                rw [List.getElem_map] at kj
                have hmem := List.getElem_mem hjl
                have hlk : look K[j].1 K = some K[j].2 := look_of_mem (unhide H8).1.rise hmem
                have hi64 := (unhide H8).1.ids _ hmem
                have hst := sumB_take K j hjl
                have hsl := sumB_le K (j + 1)
                generalize K[j] = ent at kj hlk hi64 hst
                obtain ⟨eI, eV, eB⟩ := ent
                simp only at kj hlk hi64 hst
                have hjn : (j : Int) < (K.length : Int) := by omega
                have HJ := hide (And.intro hlk (And.intro hi64 hst))
                have hb1 : sumB (K.take j) + eB.length ≤ 20000 := by omega
                clear hrow kc hmem hlk hi64 hst hsl
                go_wp2_with fail
                refine (size_some (unhide H8).1 (unhide HJ).2.1 (unhide HJ).1).mono ?_
                rintro e w9 ⟨rfl, rfl⟩
                go_wp2
                go_roundw
                case rel => exact ⟨j + 1, by omega, by go_num, by rw [(unhide HJ).2.2]; go_num, by first | rfl | trivial⟩
                case measure => simp [intOf]; omega
              · obtain rfl : j = K.length := by omega
                rw [List.take_length]
                clear hjl hj
                go_wp2_with fail
                refine (left_any G 20000 (sumB K) _ (unhide H8).1.ok (unhide H8).1.bu).mono ?_
                rintro e w9 ⟨rfl, m9, rfl⟩
                have hs9 := (unhide H8).1.ext ((Ext.refl _).drewN m9)
                have hX9 := (unhide H8).2.2.2.drewN m9
                have H9 := hide (And.intro hs9 (And.intro (unhide H8).2.2.1 hX9))
                clear hs9 hX9 H8
                have hsum0 : ((sumB K : Int) == 20000 - (20000 - (sumB K : Int))) = true := by simp; omega
                go_wp2_with fail
                refine (drop_some (unhide H9).1 (unhide HID) (unhide H9).2.1).mono ?_
                rintro e w10 ⟨rfl, hs10, ho10⟩
                have hX10 : Ext w w10 := Below.trans (unhide H9).2.2 ((unhide H9).1.below ho10)
                rw [show max 0 ((sumB K : Int) - own.length) = (sumB K : Int) - own.length by omega] at hs10
                have H10 := hide (And.intro hs10 hX10)
                clear hs10 ho10 hX10 H9
                go_wp2_with fail
                refine (left_any G 20000 ((sumB K : Int) - own.length) _ (unhide H10).1.ok (unhide H10).1.bu).mono ?_
                rintro e w11 ⟨rfl, m11, rfl⟩
                have hs11 := (unhide H10).1.ext ((Ext.refl w10).drewN m11)
                have hX11 := (unhide H10).2.drewN m11
                have H11 := hide (And.intro hs11 hX11)
                clear hs11 hX11 H10
                have hsum1 : (20000 - ((sumB K : Int) - own.length) == 20000 - (sumB K : Int) + own.length) = true := by simp; omega
                go_wp2_with fail
                refine (drop_none (unhide H11).1 (unhide HID) (look_rem_same id K)).mono ?_
                rintro e w12 ⟨rfl, rfl⟩
                go_wp2
                go_ret
                exact ⟨rfl, (unhide H11).2⟩
          · have hend : k = xs.length := by omega
            subst hend
            clear hlt h40
            go_wp2_with fail
            have hE := unhide H5
            obtain ⟨⟨K, u, hs, hl, hn⟩, hXe⟩ := hE
            have hok := hs.ok
            obtain ⟨q0, q1, q2⟩ := hok
            have hlen := lenOf_le hs.rise id
            have hlo : lenOf id K = own.length := by unfold lenOf; rw [hl]; rfl
            rw [hlo] at hlen
            have hKn : K.length ≤ 41 := by omega
            have HS := hide (And.intro hs (And.intro hl hXe))
            have HLE := hide hlen
            have hle : own.length ≤ sumB K := by omega
            clear hs hl hXe hlen hlo H5
            refine (get_some (unhide HS).1 (unhide HID) (unhide HS).2.1 0 own.length (by omega)).mono ?_
            rintro e w5 ⟨ao5, cap5, rfl, hown5, hx5⟩
            rw [List.drop_zero, List.take_length] at hown5
            have H7 := hide (And.intro ((unhide HS).1.ext hx5) (And.intro hown5.row (And.intro (unhide HS).2.1 ((unhide HS).2.2.trans hx5))))
            clear hown5 hx5 HS
            go_wp2_with fail
            refine (size_some (unhide H7).1 (unhide HID) (unhide H7).2.2.1).mono ?_
            rintro e w6 ⟨rfl, rfl⟩
            go_wp2_with fail
            refine (equal_same ao5 ao cap5 cap own _ (unhide H7).2.1 ((unhide HR).ext (unhide H7).2.2.2)).mono ?_
            rintro e w7 ⟨rfl, rfl⟩
            go_wp2_with fail
            refine (list_any (unhide H7).1 (by omega)).mono ?_
            rintro e w8 ⟨ao8, cap8, rfl, hrow8, hx8⟩
            have H8 := hide (And.intro ((unhide H7).1.ext hx8) (And.intro hrow8 (And.intro (unhide H7).2.2.1 ((unhide H7).2.2.2.trans hx8))))
            clear hrow8 hx8 H7
            go_wp2_with fail
            go_loopw [130, 16] (fun i s wz => ∃ (j : Nat), j ≤ K.length ∧ i = .int .i64 (j : Int) ∧ s = .int .i64 (sumB (K.take j) : Int) ∧ wz = w8) (fun i _ _ => K.length - (intOf i).toNat)
            case atStart => exact ⟨0, Nat.zero_le _, rfl, by simp [sumB, sumL], rfl⟩
            case round =>
              obtain ⟨j, hj, rfl, rfl, rfl⟩ := hrel
              by_cases hjl : j < K.length
              · have hrow := (unhide H8).2.1
                obtain ⟨kb, ko, rfl, kc⟩ := hrow.at j (by simpa using hjl)
                have kj := kc j (by simpa using hjl)
                rw [List.getElem_map] at kj
                have hmem := List.getElem_mem hjl
                have hlk : look K[j].1 K = some K[j].2 := look_of_mem (unhide H8).1.rise hmem
                have hi64 := (unhide H8).1.ids _ hmem
                have hst := sumB_take K j hjl
                have hsl := sumB_le K (j + 1)
                generalize K[j] = ent at kj hlk hi64 hst
                obtain ⟨eI, eV, eB⟩ := ent
                simp only at kj hlk hi64 hst
                have hjn : (j : Int) < (K.length : Int) := by omega
                have HJ := hide (And.intro hlk (And.intro hi64 hst))
                have hb1 : sumB (K.take j) + eB.length ≤ 20000 := by omega
                clear hrow kc hmem hlk hi64 hst hsl
                go_wp2_with fail
                refine (size_some (unhide H8).1 (unhide HJ).2.1 (unhide HJ).1).mono ?_
                rintro e w9 ⟨rfl, rfl⟩
                go_wp2
                go_roundw
                case rel => exact ⟨j + 1, by omega, by go_num, by rw [(unhide HJ).2.2]; go_num, by first | rfl | trivial⟩
                case measure => simp [intOf]; omega
              · obtain rfl : j = K.length := by omega
                rw [List.take_length]
                clear hjl hj
                go_wp2_with fail
                refine (left_any G 20000 (sumB K) _ (unhide H8).1.ok (unhide H8).1.bu).mono ?_
                rintro e w9 ⟨rfl, m9, rfl⟩
                have hs9 := (unhide H8).1.ext ((Ext.refl _).drewN m9)
                have hX9 := (unhide H8).2.2.2.drewN m9
                have H9 := hide (And.intro hs9 (And.intro (unhide H8).2.2.1 hX9))
                clear hs9 hX9 H8
                have hsum0 : ((sumB K : Int) == 20000 - (20000 - (sumB K : Int))) = true := by simp; omega
                go_wp2_with fail
                refine (drop_some (unhide H9).1 (unhide HID) (unhide H9).2.1).mono ?_
                rintro e w10 ⟨rfl, hs10, ho10⟩
                have hX10 : Ext w w10 := Below.trans (unhide H9).2.2 ((unhide H9).1.below ho10)
                rw [show max 0 ((sumB K : Int) - own.length) = (sumB K : Int) - own.length by omega] at hs10
                have H10 := hide (And.intro hs10 hX10)
                clear hs10 ho10 hX10 H9
                go_wp2_with fail
                refine (left_any G 20000 ((sumB K : Int) - own.length) _ (unhide H10).1.ok (unhide H10).1.bu).mono ?_
                rintro e w11 ⟨rfl, m11, rfl⟩
                have hs11 := (unhide H10).1.ext ((Ext.refl w10).drewN m11)
                have hX11 := (unhide H10).2.drewN m11
                have H11 := hide (And.intro hs11 hX11)
                clear hs11 hX11 H10
                have hsum1 : (20000 - ((sumB K : Int) - own.length) == 20000 - (sumB K : Int) + own.length) = true := by simp; omega
                go_wp2_with fail
                refine (drop_none (unhide H11).1 (unhide HID) (look_rem_same id K)).mono ?_
                rintro e w12 ⟨rfl, rfl⟩
                go_wp2
                go_ret
                exact ⟨rfl, (unhide H11).2⟩
theorem keeps_owes (H : Type) (enc : TypeId × Value → H) (W : World) (base : Nat) (args : Array Value) (ds : List (DataW H)) (p : List MemPlace) : Owes H enc Try.prog 6 Try.f6 Rows.bufferKeepsSpec W base args ds p := by
  intro hval hA hsz
  rw [Try.params6] at hA hval hsz
  obtain ⟨v0, vs0, d0, ds0, p0, q0, hargs, rfl, rfl, h0, r0⟩ := trodAll_cons hA
  obtain ⟨v1, vs1, d1, ds1, p1, q1, rfl, rfl, rfl, h1, r1⟩ := trodAll_cons r0
  obtain ⟨v2, vs2, d2, ds2, p2, q2, rfl, rfl, rfl, h2, r2⟩ := trodAll_cons r1
  obtain ⟨rfl, rfl, rfl⟩ := trodAll_nil r2
  obtain rfl : args = #[v0, v1, v2] := by cases args; simp_all
  obtain ⟨x, rfl, rfl, rfl, wx⟩ := open_int Try.underlying3 (hval 0 3 v0 rfl rfl) h0
  obtain ⟨xs, hrow, hwf, hlen⟩ := open_row Try.underlying34 Try.underlying5 cells_byte (hval 1 34 v1 rfl rfl) h1 hsz (j := 1) rfl rfl
  obtain ⟨os, horow⟩ := open_ops (hval 2 22 v2 rfl rfl) h2
  exact ⟨⟨rfl, rfl, rfl⟩, keeps_walk x v1 xs v2 os W (bounds_i64 wx) hrow horow⟩

set_option maxRecDepth 100000 in
theorem keeps_lifted (os : Os) (started : os.Started) (H : Type) (enc : TypeId × Value → H) :
    ReturnsInHanded {} Try.checked os 6 .any (Rows.bufferKeepsSpec.pre6 enc Try.prog Try.f6 [] false) (Rows.bufferKeepsSpec.post enc Try.prog Try.f6 false true false false) :=
  lift_law (C := Try.checked) own laidOut started (by kernel_rfl) Try.func6 (T := 4) rfl Try.underlying4 rfl (by kernel_rfl)
    (ChangeSpec.witness6 (enc := enc) (C := Try.checked) false ⟨#[], #[.int .i64 0, .slice none 0 0, .slice none 0 0], []⟩ 8 (by kernel_rfl) (by kernel_rfl) (by kernel_rfl) (by kernel_rfl)) (keeps_owes H enc)

theorem bufferKeeps_holds : Rows.BufferKeepsSaid :=
  OpenClaim.holds_of_wide 6 Try.f6 rfl rfl rfl rfl rfl rfl rfl ⟨rfl, rfl, rfl, rfl, rfl⟩ rfl rfl rfl rfl rfl (by kernel_rfl) Try.func6 (by kernel_rfl)
    (of_decide_eq_true (by kernel_rfl)) (by unfold Func.isWrapper; rw [if_neg (of_decide_eq_false (by kernel_rfl))]; exact ⟨rfl, rfl⟩)
    (fun os started H enc _ => keeps_lifted os started H enc)
#print axioms bufferKeeps_holds
end Go.Proofs.Ytagbenjaidikmaa

