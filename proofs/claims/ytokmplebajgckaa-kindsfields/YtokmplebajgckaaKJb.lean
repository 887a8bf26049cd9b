/-
  The document's fields: the walk.
-/
import Derived.Test.YtokmplebajgckaaKJ
namespace Go.Proofs.Ytokmplebajgckaa
open Go.RowKit
set_option linter.unusedVariables false
set_option linter.unusedSimpArgs false

theorem reg_grown {w w1 w2 : World} {t : Ty} {o : Option Nat} (h : Reg w [(w.heap.size, t)] (w.heap.size + 1) w1) (hg : w1.grownBy w2 o) (ho : ∀ g, o = some g → w.heap.size + 2 ≤ g) : Reg w [(w.heap.size, t)] (w.heap.size + 1) w2 := by
  obtain ⟨h0, h1, ⟨x, y, h2⟩, h3, h4⟩ := h
  have b0 := h1 (w.heap.size, t) (by simp)
  refine ⟨Below.trans h0 (grown_below hg h0.size (fun g hq => by have := ho g hq; omega)), ?_, ⟨x, y, (hg.block _ h2.lt (fun e => by have := ho _ e.symm; omega)).trans h2⟩, h3, h4⟩
  intro p hp
  obtain rfl : p = (w.heap.size, t) := by simpa using hp
  exact (hg.block _ b0.lt (fun e => by have := ho _ e.symm; dsimp only at this; omega)).trans b0
theorem rowP_nil (R : Byts8) : rowP R [] = some [] := rfl
set_option maxHeartbeats 4000000 in
set_option maxRecDepth 100000 in
theorem refField_any (t : Ty) (s : ByteArray) (w : World) :
    Calls Try.prog 24 #[.agg #[.int .i64 (t).1, .int .i64 (t).2], .string s] w fun e w' => ∃ v, e = .returned (.tuple #[.agg #[.int .i64 ((fieldP t s.data.toList).1).1, .int .i64 ((fieldP t s.data.toList).1).2], v, .int .i64 (fieldP t s.data.toList).2.2]) ∧ Own .i64 w' w.heap.size 3 v (fieldP t s.data.toList).2.1 ∧ Ext w w' := by
  have H0 := hide (reg1 w t)
  have HM := hide (refMay_any t)
  have HVA := hide (refValue_any t)
  have hsl : s.data.toList.length = s.size := by simp
  obtain ⟨U, hU⟩ : ∃ U, fieldP t s.data.toList = U := ⟨_, rfl⟩
  rw [hU]
  unfold fieldP at hU
  go_enter Try.func24, Try.ntmps24
  cases hm : mayP t with
  | false =>
    rw [if_pos hm] at hU
    subst hU
    rw [hm] at HM
    go_wp2_with fail
    refine (unhide HM _).mono ?_
    rintro e w1 ⟨rfl, hx1⟩
    have HEND := hide (Reg.ext hx1 (unhide H0))
    clear hx1 H0 HM
    obtain ⟨x, y, r0, r1, z0, z1⟩ := (unhide HEND).res
    have HF := hide ((unhide HEND).fin (.int .i64 0) (.int .i64 0))
    go_wp2
    obtain ⟨s0, s1⟩ := (unhide HF).1.two
    exact bodyPost_ret (v := .tuple #[.agg #[.int .i64 (noT).1, .int .i64 (noT).2], .slice none 0 0, .int .i64 2]) (by simp [results, Try.results24, go_sem, s0, s1, noT]) rfl ⟨_, rfl, Own.nil _ _ _ _, (unhide HF).2⟩
  | true =>
    rw [if_neg (by rw [hm]; decide)] at hU
    rw [hm] at HM
    go_wp2_with fail
    refine (unhide HM _).mono ?_
    rintro e w1 ⟨rfl, hx1⟩
    have H1 := hide (Reg.ext hx1 (unhide H0))
    clear hx1 H0 HM
    have HOFF : Hid (¬ (valuP t = true ∧ 1 < t.2 ∧ 1 ≤ s.size ∧ s.size ≤ 4) → U = (noT, [], 231)) := by
      intro hno
      rw [← hU]
      by_cases hp : plnP t = true ∨ valuP t = false
      · rw [if_pos hp]
      · rw [if_neg hp]
        have hv : valuP t = true := by
          cases hv : valuP t with
          | true => rfl
          | false => exact absurd (.inr hv) hp
        have hz := valu_size hm hv
        have h1 : 1 < t.2 := by
          have : t.2 ≠ 1 := fun e => hp (.inl (by unfold plnP; simp [e]))
          omega
        have hl : placesP s.data.toList t.2.toNat = [] := by
          unfold placesP
          by_cases h4 : 4 < s.data.toList.length
          · rw [if_pos h4]
          · rw [if_neg h4]
            have hs0 : ¬ 1 ≤ s.size := fun h => hno ⟨hv, h1, h, by omega⟩
            have h0 : s.data.toList = [] := by
              apply List.length_eq_zero_iff.1
              omega
            rw [h0]
            rfl
        rw [if_pos hl]
    by_cases hgo : valuP t = true ∧ 1 < t.2 ∧ 1 ≤ s.size ∧ s.size ≤ 4
    · obtain ⟨hv, h1, hs1, hs4⟩ := hgo
      have hz := valu_size hm hv
      rw [if_neg (by rw [hv]; unfold plnP; simp; omega)] at hU
      rw [hv] at HVA
      obtain ⟨n, hn⟩ : ∃ n : Nat, t.2 = (n : Int) := ⟨t.2.toNat, by omega⟩
      have hn2 : 2 ≤ n := by omega
      have hn4 : n ≤ 4 := by omega
      rw [show t.2.toNat = n by omega] at hU
      have hpl : placesP s.data.toList n = firstRow s.data.toList ((rows3.drop 0).map (cutR n)) := by
        unfold placesP
        rw [if_neg (by omega)]
        rfl
      obtain ⟨PL, hPL⟩ : ∃ PL, placesP s.data.toList n = PL := ⟨_, rfl⟩
      rw [hPL] at hU hpl
      have HPL : Hid (firstRow s.data.toList ((rows3.drop 0).map (cutR n)) = PL) := hpl.symm
      have HU := hide hU
      have HN := hide hn
      have HRF := hide row_facts
      have HRO := hide row_ok
      have HLN : Hid (rows3.length = 3) := rfl
      have HCS : Hid (strB rows3 = #[.string ⟨#[120, 121, 122, 119]⟩, .string ⟨#[114, 103, 98, 97]⟩, .string ⟨#[115, 116, 112, 113]⟩]) := rfl
      have g1 : (1 : Int) < t.2 := h1
      have g2 : (1 : Int) ≤ (s.size : Int) := by omega
      have g3 : (s.size : Int) ≤ 4 := by omega
      clear hm hv hz h1 hU hn hpl hPL HOFF hs1
      go_wp2
      generalize rows3 = LR at *
      go_loopw [7] (fun i wr => ∃ k : Nat, k ≤ 3 ∧ i = .int .i64 (k : Int) ∧ Hid (firstRow s.data.toList ((LR.drop k).map (cutR n)) = PL) ∧ Hid (Reg w [(w.heap.size, t)] (w.heap.size + 1) wr)) (fun i _ => 3 - (intOf i).toNat)
      case atStart => exact ⟨0, by omega, rfl, HPL, H1⟩
      case round =>
        obtain ⟨k, hk, rfl, hp, hr⟩ := hrel
        clear HPL H1
        obtain ⟨c0, c1⟩ := (unhide hr).at (w.heap.size) t (by simp)
        by_cases hlt : k < 3
        · have hk3 : (k : Int) < 3 := by omega
          have hk2 : k < LR.length := by rw [unhide HLN]; exact hlt
          obtain ⟨x, hxx⟩ : ∃ x, x = LR[k] := ⟨_, rfl⟩
          have hxm : x ∈ LR := by rw [hxx]; exact List.getElem_mem hk2
          have hx4 := (unhide HRO x hxm).1
          have hdr := docP_row x n (unhide HRF x hxm n hn2 hn4) (fun b => (plc_nn x b).1) s.data.toList
          have hp2 := unhide hp
          rw [List.drop_eq_getElem_cons hk2, List.map_cons] at hp2
          unfold firstRow at hp2
          rw [← hxx, hdr] at hp2
          have HP2 := hide hp2
          clear hp2 hdr hp hxm
          have HXK := hide hxx
          clear hxx
          go_wp2_with fail
          refine (unhide HVA _).mono ?_
          rintro e w2 ⟨rfl, hx2⟩
          have H2 := hide (Reg.ext hx2 (unhide hr))
          clear hx2 hr c0 c1
          obtain ⟨c0, c1⟩ := (unhide H2).at (w.heap.size) t (by simp)
          go_wp2
          have hsz2 : w.heap.size + 2 ≤ w2.heap.size := by
            obtain ⟨_, _, ⟨_, _, hq⟩, _, _⟩ := unhide H2
            have := hq.lt
            omega
          have hcell : ∀ wz : World, (wz.alloc (.cells #[.string ⟨#[120, 121, 122, 119]⟩, .string ⟨#[114, 103, 98, 97]⟩, .string ⟨#[115, 116, 112, 113]⟩] 9)).cell? ⟨wz.heap.size, k, none⟩ = some (.string x) := by
            intro wz
            rw [← unhide HCS, unhide HXK]
            exact strB_at (Blk.new wz (strB LR) 9) k hk2
          have HPC := hide (fun b wx => place_any x hx4 b wx)
          have HX4 := hide hx4
          clear hx4 c0 c1
          go_loopw [8, 9] (fun l i wq => ∃ (j : Nat) (xs : List Int), j ≤ s.size ∧ xs.length ≤ j ∧ i = .int .i64 (j : Int) ∧ w.heap.size + 2 ≤ wq.heap.size ∧ Hid (Own .i64 wq (w.heap.size + 2) 3 l xs) ∧ Hid (xs ++ docP x n (s.data.toList.drop j) = docP x n s.data.toList) ∧ Hid (Reg w [(w.heap.size, t)] (w.heap.size + 1) wq)) (fun _ i _ => s.size - (intOf i).toNat)
          case atStart => exact ⟨0, [], by omega, by simp, rfl, hsz2, Own.nil _ _ _ _, (by show _ = _; simp), H2⟩
          case round =>
            obtain ⟨j, xs, hj, hxl, rfl, hsz3, hown, hdoc, hr⟩ := hrel
            clear H2 hsz2
            by_cases hjs : j < s.size
            · have hjs2 : (j : Int) < (s.size : Int) := by omega
              have hdoc2 := unhide hdoc
              rw [drop_next s j hjs, docP_cons] at hdoc2
              have HD2 := hide hdoc2
              clear hdoc hdoc2
              have HPC2 := hide (unhide HPC (s[j]'hjs))
              go_upto_region 10 with fail
              go_cut [10] (fun p wc => p = .int .i64 (plc x (s[j]'hjs)) ∧ Hid (Ext wr wc))
              case first =>
                go_region_with (first | (go_at_call 38; refine (unhide HPC2 _).mono ?_; rintro e ws ⟨rfl, rfl⟩))
                all_goals go_wp2
                all_goals go_meet
                all_goals first | exact ⟨rfl, ((Ext.refl wr).drew).alloc _⟩ | exact ⟨rfl, ((Ext.refl wr).alloc _).drew⟩
              case rest =>
              obtain ⟨rfl, hxc⟩ := hcut
              rename_i wc
              have H3 := hide (Reg.ext (unhide hxc) (unhide hr))
              have hown3 := hide ((unhide hown).kept (unhide hxc))
              have hsz4 : w.heap.size + 2 ≤ wc.heap.size := Nat.le_trans hsz3 (unhide hxc).size
              obtain ⟨c0, c1⟩ := (unhide H3).at (w.heap.size) t (by simp)
              have hpn := plc_nn x (s[j]'hjs)
              generalize plc x (s[j]'hjs) = d at *
              clear hr hown hxc HPC2 hcell
              by_cases hd : d < (n : Int)
              · have hd2 : d < t.2 := by rw [unhide HN]; exact hd
                have hdoc3 : (xs ++ [d]) ++ docP x n (s.data.toList.drop (j + 1)) = docP x n s.data.toList := by
                  have := unhide HD2
                  rw [if_pos hd] at this
                  rw [← this]
                  simp
                have HD3 := hide hdoc3
                clear HD2 hdoc3 hd
                have HR1 := hide (Row.one .i64 wc d 3)
                have HO1 := hide ((unhide hown3).alloc (.cells #[.int .i64 d] 3))
                have hLT := hide (fun g hg => (Own.lt (unhide HO1) g hg).1)
                have H4 := hide (Reg.ext ((Ext.refl wc).alloc (.cells #[.int .i64 d] 3)) (unhide H3))
                have hs4' : Hid ((wc.alloc (.cells #[.int .i64 d] 3)).heap.size = wc.heap.size + 1) := by show _ = _; simp
                obtain ⟨i0, hi, hz0, hz1, hz2⟩ := infoI
                go_wp2_with (at_builtin; refine wpList_append_Own rfl (.tmp 56) (.tmp 58) 41 rfl (w.heap.size + 2) 3 i0 .i64 8 Try.underlying41 hi hz0 hz1 hz2 _ xs rfl (unhide HO1) _ [d] rfl (unhide HR1) ?c1 ?c2 ?c3 ?_)
                case c1 => simp [maxLen]; omega
                case c2 => simp; omega
                case c3 => rw [unhide hs4']; omega
                intro v5 w5 hown5 hg5
                have hge5 : ∀ g, Value.ownBlock _ = some g → w.heap.size + 2 ≤ g := unhide hLT
                have H5 := hide (reg_grown (unhide H4) hg5 hge5)
                have ho5 := hide hown5
                have hs5 : w.heap.size + 2 ≤ w5.heap.size := by
                  have := hg5.size
                  rw [unhide hs4'] at this
                  omega
                clear hown5 hg5 hge5 hLT HR1 HO1 H4 hs4' H3 hown3 c0 c1
                go_wp2
                go_roundw
                case rel => exact ⟨j + 1, xs ++ [d], by omega, (by simp; omega), by go_num, hs5, ho5, HD3, H5⟩
                case measure => simp [intOf]; omega
              · have hd2 : ¬ d < t.2 := by rw [unhide HN]; exact hd
                have HD3 : Hid (xs ++ docP x n (s.data.toList.drop (j + 1)) = docP x n s.data.toList) := by
                  have := unhide HD2
                  rw [if_neg hd] at this
                  exact this
                clear HD2 hd
                go_wp2
                go_roundw
                case rel => exact ⟨j + 1, xs, by omega, by omega, by go_num, hsz4, hown3, HD3, H3⟩
                case measure => simp [intOf]; omega
            · obtain rfl : j = s.size := by omega
              have hdoc2 := unhide hdoc
              rw [List.drop_of_length_le (by omega)] at hdoc2
              have hxd : docP x n s.data.toList = xs := by rw [← hdoc2]; simp [docP]
              have hp2 := unhide HP2
              rw [hxd] at hp2
              obtain ⟨ao, cap, rfl⟩ := (unhide hown).shape
              clear hdoc hdoc2 hxd
              by_cases hfull : xs.length = s.size
              · rw [if_pos (by omega)] at hp2
                have hp3 : PL = xs := hp2.symm
                subst hp3
                have hU := unhide HU
                rw [if_neg (fun e => by rw [e] at hfull; simp at hfull; omega)] at hU
                subst hU
                have qf : ((PL.length : Int) == (s.size : Int)) = true := by simp [hfull]
                obtain ⟨c0, c1⟩ := (unhide hr).at (w.heap.size) t (by simp)
                obtain ⟨y0, y1, r0, r1, z0, z1⟩ := (unhide hr).res
                have HF := hide ((unhide hr).fin (.int .i64 t.1) (.int .i64 (PL.length : Int)))
                have HR5 := hide (own_low (own_set (R := w.heap.size + 1) (i := 1) (u := .int .i64 (PL.length : Int)) (own_set (R := w.heap.size + 1) (i := 0) (u := .int .i64 t.1) (unhide hown) (by omega)) (by omega)) (show w.heap.size ≤ _ by omega))
                clear hfull hp2
                go_wp2
                obtain ⟨s0, s1⟩ := (unhide HF).1.two
                exact bodyPost_ret (v := .tuple #[.agg #[.int .i64 t.1, .int .i64 (PL.length : Int)], .slice ao PL.length cap, .int .i64 0]) (by simp [results, Try.results24, go_sem, s0, s1]) rfl ⟨_, rfl, unhide HR5, (unhide HF).2⟩
              · rw [if_neg (by omega)] at hp2
                have HP3 := hide hp2
                have qf : ((xs.length : Int) == (s.size : Int)) = false := by rw [beq_eq_false_iff_ne]; omega
                clear hfull hp2
                go_wp2
                go_roundw
                case rel => exact ⟨k + 1, by omega, by go_num, HP3, hr⟩
                case measure => simp [intOf]; omega
        · obtain rfl : k = 3 := by omega
          have hp2 := unhide hp
          rw [List.drop_of_length_le (by rw [unhide HLN]; omega)] at hp2
          have hp3 : PL = [] := hp2.symm
          have hU := unhide HU
          rw [if_pos hp3] at hU
          subst hU
          clear hp hp2 hp3 HU
          have HEND := hr
          obtain ⟨x, y, r0, r1, z0, z1⟩ := (unhide HEND).res
          have HF := hide ((unhide HEND).fin (.int .i64 0) (.int .i64 0))
          go_wp2
          obtain ⟨s0, s1⟩ := (unhide HF).1.two
          exact bodyPost_ret (v := .tuple #[.agg #[.int .i64 (noT).1, .int .i64 (noT).2], .slice none 0 0, .int .i64 231]) (by simp [results, Try.results24, go_sem, s0, s1, noT]) rfl ⟨_, rfl, Own.nil _ _ _ _, (unhide HF).2⟩
    · have hU2 := unhide HOFF hgo
      clear HOFF hU
      subst hU2
      obtain ⟨c0, c1⟩ := (unhide H1).at (w.heap.size) t (by simp)
      cases hv : valuP t with
      | false =>
        rw [hv] at HVA
        clear hgo
        go_wp2
        go_loopw [7] (fun i wr => i = .int .i64 0 ∧ w1 = wr) (fun _ _ => 0)
        case atStart => exact ⟨rfl, rfl⟩
        case round =>
          obtain ⟨rfl, rfl⟩ := hrel
          go_wp2_with fail
          refine (unhide HVA _).mono ?_
          rintro e w2 ⟨rfl, hx2⟩
          have HEND := hide (Reg.ext hx2 (unhide H1))
          clear hx2 H1 c0 c1
          obtain ⟨x, y, r0, r1, z0, z1⟩ := (unhide HEND).res
          have HF := hide ((unhide HEND).fin (.int .i64 0) (.int .i64 0))
          go_wp2
          obtain ⟨s0, s1⟩ := (unhide HF).1.two
          exact bodyPost_ret (v := .tuple #[.agg #[.int .i64 (noT).1, .int .i64 (noT).2], .slice none 0 0, .int .i64 231]) (by simp [results, Try.results24, go_sem, s0, s1, noT]) rfl ⟨_, rfl, Own.nil _ _ _ _, (unhide HF).2⟩
      | true =>
        rw [hv] at HVA
        go_wp2
        go_loopw [7] (fun i wr => i = .int .i64 0 ∧ w1 = wr) (fun _ _ => 0)
        case atStart => exact ⟨rfl, rfl⟩
        case round =>
          obtain ⟨rfl, rfl⟩ := hrel
          go_wp2_with fail
          refine (unhide HVA _).mono ?_
          rintro e w2 ⟨rfl, hx2⟩
          have HEND := hide (Reg.ext hx2 (unhide H1))
          clear hx2 H1 c0 c1
          obtain ⟨c0, c1⟩ := (unhide HEND).at (w.heap.size) t (by simp)
          by_cases h1 : 1 < t.2
          · by_cases h2 : 1 ≤ s.size
            · have h2' : (1 : Int) ≤ (s.size : Int) := by omega
              have h3' : ¬ (s.size : Int) ≤ 4 := by
                intro h
                exact hgo ⟨hv, h1, h2, by omega⟩
              clear hgo hv
              obtain ⟨x, y, r0, r1, z0, z1⟩ := (unhide HEND).res
              have HF := hide ((unhide HEND).fin (.int .i64 0) (.int .i64 0))
              go_wp2
              obtain ⟨s0, s1⟩ := (unhide HF).1.two
              exact bodyPost_ret (v := .tuple #[.agg #[.int .i64 (noT).1, .int .i64 (noT).2], .slice none 0 0, .int .i64 231]) (by simp [results, Try.results24, go_sem, s0, s1, noT]) rfl ⟨_, rfl, Own.nil _ _ _ _, (unhide HF).2⟩
            · have h2' : ¬ (1 : Int) ≤ (s.size : Int) := by omega
              clear hgo hv
              obtain ⟨x, y, r0, r1, z0, z1⟩ := (unhide HEND).res
              have HF := hide ((unhide HEND).fin (.int .i64 0) (.int .i64 0))
              go_wp2
              obtain ⟨s0, s1⟩ := (unhide HF).1.two
              exact bodyPost_ret (v := .tuple #[.agg #[.int .i64 (noT).1, .int .i64 (noT).2], .slice none 0 0, .int .i64 231]) (by simp [results, Try.results24, go_sem, s0, s1, noT]) rfl ⟨_, rfl, Own.nil _ _ _ _, (unhide HF).2⟩
          · clear hgo hv
            obtain ⟨x, y, r0, r1, z0, z1⟩ := (unhide HEND).res
            have HF := hide ((unhide HEND).fin (.int .i64 0) (.int .i64 0))
            go_wp2
            obtain ⟨s0, s1⟩ := (unhide HF).1.two
            exact bodyPost_ret (v := .tuple #[.agg #[.int .i64 (noT).1, .int .i64 (noT).2], .slice none 0 0, .int .i64 231]) (by simp [results, Try.results24, go_sem, s0, s1, noT]) rfl ⟨_, rfl, Own.nil _ _ _ _, (unhide HF).2⟩
end Go.Proofs.Ytokmplebajgckaa
