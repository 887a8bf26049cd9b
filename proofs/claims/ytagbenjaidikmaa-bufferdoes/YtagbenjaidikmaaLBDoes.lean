/-
  Proved: BufferDoes answers true for every number of bytes and every row of what is done, and turns nothing that was there: whatever is done with buffers, one thing behind the other, it answers, and leaves, what the document says. No condition but the form's own bound on what is read.
-/
import Derived.Test.YtagbenjaidikmaaBY
import Derived.Test.YtagbenjaidikmaaQa
import Derived.Deep.RegionHeld3
import Derived.BigQuiet
namespace Go.Proofs.Ytagbenjaidikmaa
open Go.ChangeShapes Go.WideShapes Go.ChangeAt Go.RowKit
set_option linter.unusedVariables false
set_option linter.unusedSimpArgs false

set_option maxRecDepth 100000 in
set_option maxHeartbeats 16000000 in
theorem does_walk (B : Int) (ov : Value) (xs : List Op5) (w : World) (hB : I64 B) (ho : ORow w ov xs) :
    Calls Try.prog 3 #[.int .i64 B, ov] w fun e w' => e = .returned (.bool true) ∧ Ext w w' := by
  have hos := ho
  obtain ⟨oo, ocap, rfl, holc, hocm, _⟩ := hos
  have hocm2 : ocap ≤ 9223372036854775807 := by unfold maxLen at hocm; omega
  obtain ⟨i0, hi, hz0, hz1, hz2⟩ := info_parts info5
  have HO := hide ho
  have HIN := hide (And.intro hi (And.intro hz0 (And.intro hz1 hz2)))
  obtain ⟨hB1, hB2⟩ := hB
  clear ho hocm hi hz0 hz1 hz2
  rename_i hx0
  clear hx0
  go_enter Try.func3, Try.ntmps3
  go_wp2_with fail
  refine (wakes_any _).mono ?_
  rintro e w1 ⟨rfl, hx1⟩
  have HX := hide hx1
  clear hx1
  by_cases hbad : B < 0 ∨ 262144 < B
  · have HBAD := hide hbad
    by_cases hneg : B < 0
    · clear hbad
      go_wp2_with fail
      refine (newBudget_bad B (unhide HBAD) _).mono ?_
      rintro e w2 ⟨rfl, rfl⟩
      go_wp2
      go_ret
      exact ⟨rfl, unhide HX⟩
    · have hbig : 262144 < B := by omega
      clear hbad
      go_wp2_with fail
      refine (newBudget_bad B (unhide HBAD) _).mono ?_
      rintro e w2 ⟨rfl, rfl⟩
      go_wp2
      go_ret
      exact ⟨rfl, unhide HX⟩
  · have hb0 : 0 ≤ B := by omega
    have hb1 : B ≤ 262144 := by omega
    clear hbad
    go_wp2_with fail
    refine (newBudget_blk B hb0 hb1 _).mono ?_
    rintro e w2 ⟨rfl, hG, hx2⟩
    have HG := hide hG
    have hs1 := (unhide HX).size
    have H2 := hide ((unhide HX).trans hx2)
    clear hG hx2 HX
    go_wp2_with fail
    refine (new_sto (base := w.heap.size) (unhide HG) ⟨by omega, by omega, by omega⟩ hs1).mono ?_
    rintro e w3 ⟨S, M, rfl, hs3, hx3⟩
    have H3 := hide (And.intro hs3 ((unhide H2).trans hx3))
    clear hs3 hx3 HG H2
    generalize w1.heap.size = G at *
    go_wp2_with fail
    have hLI0 : LI w (w3.alloc (.cells #[.int .i64 B, .slice none 0 0] 33)) S G M w3.heap.size B [] [] (.slice none ([] : List Ent).length 0) := by
      have hs := (unhide H3).1
      have hx := (unhide H3).2
      have h1 := hs.bu.lt
      have h2 := hs.mp.lt
      have h3 := hs.st.lt
      refine ⟨hs.ext ((Ext.refl w3).alloc _), RB.nil _ _ _, Blk.new _ _ _, ?_, by omega, hx.size, hx.alloc _⟩
      rintro (h | h | ⟨p, hp, _⟩)
      · omega
      · omega
      · simp at hp
    have H4 := hide hLI0
    clear hLI0 H3
    generalize w3.alloc (.cells #[.int .i64 B, .slice none 0 0] 33) = w4 at H4 ⊢
    generalize w3.heap.size = mb at H4 ⊢
    go_loopw [60] (fun i wr => ∃ (k : Nat) (K L : List Ent) (am : Option Addr) (cm : Nat), k ≤ xs.length ∧ k ≤ 40 ∧ i = .int .i64 (k : Int) ∧ LI w wr S G M mb B K L (.slice am L.length cm) ∧ prj K = prj L ∧ K.length ≤ k) (fun i _ => xs.length - (intOf i).toNat)
    case atStart => exact ⟨0, [], [], none, 0, Nat.zero_le _, Nat.zero_le _, rfl, unhide H4, rfl, Nat.le_refl _⟩
    case round =>
      clear H4
      obtain ⟨k, K, L, am, cm, hk, hk1, rfl, hLI, heq, hKl⟩ := hrel
      have hLl : L.length ≤ k := by rw [← prj_len, ← heq, prj_len]; exact hKl
      by_cases hlt : k < xs.length
      · have hok0 := ((unhide HO).at (Ext.refl w) k hlt).1
        obtain ⟨hok, rb, ro, rfl, c0, c1, c2, c3, c4⟩ := (unhide HO).at hLI.ext k hlt
        have hkn : (k : Int) < (xs.length : Int) := by omega
        generalize xs[k] = o at hok0 hok c0 c1 c2 c3 c4
        obtain ⟨oK, oI, oA, oN, ob, obs⟩ := o
        simp only at c0 c1 c2 c3 c4
        have hrow := hok.row
        obtain ⟨bo, bcap, e5, _, hbl, hbcm⟩ := hrow.shape
        simp only at e5
        subst e5
        have hbcm2 : bcap ≤ 9223372036854775807 := by unfold maxLen at hbcm; omega
        have hx5 : Ext wr (wr.alloc (.cells #[.int .i64 oK, .int .i64 oI, .int .i64 oA, .int .i64 oN, .slice bo obs.length bcap] 36)) := (Ext.refl wr).alloc _
        have HOK := hide hok0
        have HROW : Hid (Row .u8 w (.slice bo obs.length bcap) obs) := hok0.row
        have HOI : Hid (I64 oI) := hok0.I
        obtain ⟨_, _, hsLK, hsL, hsF⟩ := hLI.sums heq
        have HSF := hide hsF
        have hLI5 := hLI.exts hx5
        have hob := Blk.new wr #[.int .i64 oK, .int .i64 oI, .int .i64 oA, .int .i64 oN, .slice bo obs.length bcap] 36
        have hno : ¬ (Mine G M K wr.heap.size ∨ wr.heap.size = mb) := fun h => by have := hLI.tlt _ h; omega
        have HL := hide (And.intro hLI5 (And.intro heq (And.intro hKl (And.intro hob hno))))
        clear hLI hLI5 hok hok0 hrow hx5 hob hno heq hbcm hsF
        by_cases h40 : k = 40
        · subst h40
          go_wp2_with fail
          have HE := hide (And.intro (unhide HL).1 (And.intro (unhide HL).2.1 (unhide HL).2.2.1))
          generalize wr.alloc (.cells #[.int .i64 oK, .int .i64 oI, .int .i64 oA, .int .i64 oN, .slice bo obs.length bcap] 36) = wE at HE ⊢
          clear HL HOK HROW HOI
          have hK40 : K.length ≤ 40 := by have := (unhide HE).2.2; omega
          have hLK : K.length = L.length := by rw [← prj_len, (unhide HE).2.1, prj_len]
          refine (list_any (unhide HE).1.sto (by omega)).mono ?_
          rintro e wl ⟨al, cl, rfl, hrowl, hxl⟩
          have HE2 := hide (And.intro ((unhide HE).1.exts hxl) (And.intro (unhide HE).2.1 hrowl))
          have qm : wl.cell? ⟨mb, 1, none⟩ = some (.slice am L.length cm) := (unhide HE2).1.blk.cell (i := 1) rfl
          have hnel : ((K.length : Int) != (L.length : Int)) = false := by simp [hLK]
          have HLK := hide hLK
          clear hrowl hxl HE hLK
          go_wp2_with fail
          go_loopw [210] (fun i wz => ∃ (j : Nat), j ≤ L.length ∧ i = .int .i64 (j : Int) ∧ Ext wl wz) (fun i _ => L.length - (intOf i).toNat)
          case atStart => exact ⟨0, Nat.zero_le _, rfl, Ext.refl _⟩
          case round =>
            obtain ⟨j, hj, rfl, hXz⟩ := hrel
            by_cases hjl : j < L.length
            · have hLz := (unhide HE2).1.exts hXz
              obtain ⟨gz, ez, c1, c2⟩ := hLz.rb.at j hjl
              subst ez
              have hrowr := hLz.rb.row _ (List.getElem_mem hjl)
              have hidz := (hLz.rb.ids _ (List.getElem_mem hjl)).2
              have hfitz := (hLz.sums (unhide HE2).2.1).2.2.2.2 _ (List.getElem_mem hjl)
              obtain ⟨ez, ezc, eez, _⟩ := hrowr.shape
              rw [eez] at c2 hrowr
              have hjK : j < K.length := by have := unhide HLK; omega
              have hprj : (K[j].1, K[j].2.2) = (L[j].1, L[j].2.2) := by
                have h1 : (prj K)[j]'(by rw [prj_len]; exact hjK) = (prj L)[j]'(by rw [prj_len]; exact hjl) := by congr 1; exact (unhide HE2).2.1
                unfold prj at h1
                simpa using h1
              have hlookK : ∃ u, look L[j].1 K = some (u, L[j].2.2) := by
                refine ⟨K[j].2.1, ?_⟩
                have h2 := look_of_mem hLz.sto.rise (show (K[j].1, K[j].2) ∈ K from List.getElem_mem hjK)
                have e1 : K[j].1 = L[j].1 := (Prod.mk.inj hprj).1
                have e2 : K[j].2.2 = L[j].2.2 := (Prod.mk.inj hprj).2
                rw [← e1, ← e2]
                exact h2
              obtain ⟨uk, hlk⟩ := hlookK
              have hrz : Row .i64 wr (.slice al K.length cl) (K.map (·.1)) := (unhide HE2).2.2.ext hXz
              obtain ⟨lb, lo, el, hcl⟩ := hrz.at j (by simpa using hjK)
              subst el
              have cl1 := hcl j (by simpa using hjK)
              rw [List.getElem_map, (Prod.mk.inj hprj).1] at cl1
              have hjn : (j : Int) < (L.length : Int) := by omega
              have hjkn : (j : Int) < (K.length : Int) := by omega
              have hx9 : Ext wr (wr.alloc (.cells #[.int .i64 L[j].1, .slice ez L[j].2.2.length ezc] 49)) := (Ext.refl wr).alloc _
              have hxb := Blk.new wr #[.int .i64 L[j].1, .slice ez L[j].2.2.length ezc] 49
              have H9 := hide (And.intro (hLz.exts hx9) (And.intro hlk (And.intro hidz (And.intro (hrowr.ext hx9) (And.intro (hXz.trans hx9) (And.intro hxb (And.intro hfitz cl1)))))))
              have hlbz := World.block_lt_of_cell? wr _ cl1
              generalize L[j].2.2 = jb at c2 H9
              generalize L[j].1 = ji at c1 H9
              clear hLz hrowr hidz hfitz eez hprj hlk hrz hcl hx9 hxb cl1
              go_wp2_with fail
              refine (get_some (unhide H9).1.sto (unhide H9).2.2.1 (unhide H9).2.1 0 jb.length (by omega)).mono ?_
              rintro e wg ⟨ag, cg, rfl, howng, hxg⟩
              rw [List.drop_zero, List.take_length] at howng
              have hcx0 : wg.cell? ⟨wr.heap.size, 0, none⟩ = some (.int .i64 ji) := ((unhide H9).2.2.2.2.2.1.ext hxg).cell (i := 0) rfl
              have hcx1 : wg.cell? ⟨wr.heap.size, 1, none⟩ = some (.slice ez jb.length ezc) := ((unhide H9).2.2.2.2.2.1.ext hxg).cell (i := 1) rfl
              have hclg : wg.cell? ⟨lb, lo + j, none⟩ = some (.int .i64 ji) := by
                rw [(((Ext.refl wr).alloc _).trans hxg).cell (p := ⟨lb, lo + j, none⟩) hlbz]
                exact (unhide H9).2.2.2.2.2.2.2
              have H10 := hide (And.intro howng.row (And.intro ((unhide H9).2.2.2.1.ext hxg) (And.intro ((unhide H9).2.2.2.2.1.trans hxg) (unhide H9).2.2.2.2.2.2.1)))
              clear howng hxg c1 c2 H9 qm
              go_wp2_with fail
              go_quiet (first | (go_at_call 16; refine Calls.quiet_of (same_any _ _ jb jb _ (by exact (unhide H10).1.ext ((Ext.refl _).drewN _)) (by exact (unhide H10).2.1.ext ((Ext.refl _).drewN _)) (by have := (unhide H10).2.2.2; omega))))
              go_wp2
              go_roundw
              case rel => exact ⟨j + 1, by omega, by go_num, (unhide H10).2.2.1.drewN _⟩
              case measure => simp [intOf]; omega
            · obtain rfl : j = L.length := by omega
              have HXZ := hide ((unhide HE2).1.ext.trans hXz)
              clear hXz hjl hj
              go_wp2
              go_ret
              exact ⟨rfl, unhide HXZ⟩
        · have h40b : ((k : Int) == 40) = false := by simp; omega
          have hk39 : k < 40 := by omega
          by_cases hlong : 5000 < obs.length
          · have hlongb : (5000 : Int) < (obs.length : Int) := by omega
            go_wp2_with fail
            have HE := hide (And.intro (unhide HL).1 (And.intro (unhide HL).2.1 (unhide HL).2.2.1))
            generalize wr.alloc (.cells #[.int .i64 oK, .int .i64 oI, .int .i64 oA, .int .i64 oN, .slice bo obs.length bcap] 36) = wE at HE ⊢
            clear HL HOK HROW HOI
            have hK40 : K.length ≤ 40 := by have := (unhide HE).2.2; omega
            have hLK : K.length = L.length := by rw [← prj_len, (unhide HE).2.1, prj_len]
            refine (list_any (unhide HE).1.sto (by omega)).mono ?_
            rintro e wl ⟨al, cl, rfl, hrowl, hxl⟩
            have HE2 := hide (And.intro ((unhide HE).1.exts hxl) (And.intro (unhide HE).2.1 hrowl))
            have qm : wl.cell? ⟨mb, 1, none⟩ = some (.slice am L.length cm) := (unhide HE2).1.blk.cell (i := 1) rfl
            have hnel : ((K.length : Int) != (L.length : Int)) = false := by simp [hLK]
            have HLK := hide hLK
            clear hrowl hxl HE hLK
            go_wp2_with fail
            go_loopw [210] (fun i wz => ∃ (j : Nat), j ≤ L.length ∧ i = .int .i64 (j : Int) ∧ Ext wl wz) (fun i _ => L.length - (intOf i).toNat)
            case atStart => exact ⟨0, Nat.zero_le _, rfl, Ext.refl _⟩
            case round =>
              obtain ⟨j, hj, rfl, hXz⟩ := hrel
              by_cases hjl : j < L.length
              · have hLz := (unhide HE2).1.exts hXz
                obtain ⟨gz, ez, c1, c2⟩ := hLz.rb.at j hjl
                subst ez
                have hrowr := hLz.rb.row _ (List.getElem_mem hjl)
                have hidz := (hLz.rb.ids _ (List.getElem_mem hjl)).2
                have hfitz := (hLz.sums (unhide HE2).2.1).2.2.2.2 _ (List.getElem_mem hjl)
                obtain ⟨ez, ezc, eez, _⟩ := hrowr.shape
                rw [eez] at c2 hrowr
                have hjK : j < K.length := by have := unhide HLK; omega
                have hprj : (K[j].1, K[j].2.2) = (L[j].1, L[j].2.2) := by
                  have h1 : (prj K)[j]'(by rw [prj_len]; exact hjK) = (prj L)[j]'(by rw [prj_len]; exact hjl) := by congr 1; exact (unhide HE2).2.1
                  unfold prj at h1
                  simpa using h1
                have hlookK : ∃ u, look L[j].1 K = some (u, L[j].2.2) := by
                  refine ⟨K[j].2.1, ?_⟩
                  have h2 := look_of_mem hLz.sto.rise (show (K[j].1, K[j].2) ∈ K from List.getElem_mem hjK)
                  have e1 : K[j].1 = L[j].1 := (Prod.mk.inj hprj).1
                  have e2 : K[j].2.2 = L[j].2.2 := (Prod.mk.inj hprj).2
                  rw [← e1, ← e2]
                  exact h2
                obtain ⟨uk, hlk⟩ := hlookK
                have hrz : Row .i64 wr (.slice al K.length cl) (K.map (·.1)) := (unhide HE2).2.2.ext hXz
                obtain ⟨lb, lo, el, hcl⟩ := hrz.at j (by simpa using hjK)
                subst el
                have cl1 := hcl j (by simpa using hjK)
                rw [List.getElem_map, (Prod.mk.inj hprj).1] at cl1
                have hjn : (j : Int) < (L.length : Int) := by omega
                have hjkn : (j : Int) < (K.length : Int) := by omega
                have hx9 : Ext wr (wr.alloc (.cells #[.int .i64 L[j].1, .slice ez L[j].2.2.length ezc] 49)) := (Ext.refl wr).alloc _
                have hxb := Blk.new wr #[.int .i64 L[j].1, .slice ez L[j].2.2.length ezc] 49
                have H9 := hide (And.intro (hLz.exts hx9) (And.intro hlk (And.intro hidz (And.intro (hrowr.ext hx9) (And.intro (hXz.trans hx9) (And.intro hxb (And.intro hfitz cl1)))))))
                have hlbz := World.block_lt_of_cell? wr _ cl1
                generalize L[j].2.2 = jb at c2 H9
                generalize L[j].1 = ji at c1 H9
                clear hLz hrowr hidz hfitz eez hprj hlk hrz hcl hx9 hxb cl1
                go_wp2_with fail
                refine (get_some (unhide H9).1.sto (unhide H9).2.2.1 (unhide H9).2.1 0 jb.length (by omega)).mono ?_
                rintro e wg ⟨ag, cg, rfl, howng, hxg⟩
                rw [List.drop_zero, List.take_length] at howng
                have hcx0 : wg.cell? ⟨wr.heap.size, 0, none⟩ = some (.int .i64 ji) := ((unhide H9).2.2.2.2.2.1.ext hxg).cell (i := 0) rfl
                have hcx1 : wg.cell? ⟨wr.heap.size, 1, none⟩ = some (.slice ez jb.length ezc) := ((unhide H9).2.2.2.2.2.1.ext hxg).cell (i := 1) rfl
                have hclg : wg.cell? ⟨lb, lo + j, none⟩ = some (.int .i64 ji) := by
                  rw [(((Ext.refl wr).alloc _).trans hxg).cell (p := ⟨lb, lo + j, none⟩) hlbz]
                  exact (unhide H9).2.2.2.2.2.2.2
                have H10 := hide (And.intro howng.row (And.intro ((unhide H9).2.2.2.1.ext hxg) (And.intro ((unhide H9).2.2.2.2.1.trans hxg) (unhide H9).2.2.2.2.2.2.1)))
                clear howng hxg c1 c2 H9 qm
                go_wp2_with fail
                go_quiet (first | (go_at_call 16; refine Calls.quiet_of (same_any _ _ jb jb _ (by exact (unhide H10).1.ext ((Ext.refl _).drewN _)) (by exact (unhide H10).2.1.ext ((Ext.refl _).drewN _)) (by have := (unhide H10).2.2.2; omega))))
                go_wp2
                go_roundw
                case rel => exact ⟨j + 1, by omega, by go_num, (unhide H10).2.2.1.drewN _⟩
                case measure => simp [intOf]; omega
              · obtain rfl : j = L.length := by omega
                have HXZ := hide ((unhide HE2).1.ext.trans hXz)
                clear hXz hjl hj
                go_wp2
                go_ret
                exact ⟨rfl, unhide HXZ⟩
          · have hshort : (obs.length : Int) ≤ 5000 := by omega
            clear hlong h40
            rcases kind5 oK with hq | hq | hq | hq | hq
            · go_wp2_with fail
              generalize wr.alloc (.cells #[.int .i64 oK, .int .i64 oI, .int .i64 oA, .int .i64 oN, .slice bo obs.length bcap] 36) = w5 at HL ⊢
              generalize wr.heap.size = obk at HL ⊢
              clear c0 c1 c2 c3 c4
              have b5 : Blk w5 obk #[.int .i64 oK, .int .i64 oI, .int .i64 oA, .int .i64 oN, .slice bo obs.length bcap] 36 := (unhide HL).2.2.2.1
              have hLl : L.length ≤ 1000 := by omega
              obtain ⟨ao6, cap6, w6, hrun, hown6, hg6⟩ := run_append_Own (P := Try.prog) (w5.alloc (.cells #[] 5)).drew 34 34 w5.heap.size 5 i0 .u8 1 Try.underlying34 (unhide HIN).1 (unhide HIN).2.1 (unhide HIN).2.2.1 (unhide HIN).2.2.2 (.slice (some ⟨w5.heap.size, 0, none⟩) 0 0) (Own.drew (Own.made_at w5 rfl (Nat.le_refl _))) (.slice bo obs.length bcap) obs ((unhide HROW).ext ((unhide HL).1.ext.trans (ext_1 w5 _))) (by unfold maxLen; omega) (by omega) (ext_1 w5 _).size
              have hx6 : Ext w5 w6 := below_grown (ext_1 w5 _) (show (w5.alloc (.cells #[] 5)).drew.grownBy w6 (some w5.heap.size) from hg6) (ext_1 w5 _).size (Nat.le_refl _)
              have HRUN := hide hrun
              have HD : Hid (Calls Try.prog 10 #[.pointer (some ⟨S, 0, none⟩), .int .i64 oI, .slice ao6 obs.length cap6] w6 fun e w7 => ∃ K', e = .returned (.int .i64 (dE B oI obs (prj K))) ∧ LI w w7 S G M mb B K' L (.slice am L.length cm) ∧ prj K' = dP B oI obs (prj K) ∧ Blk w7 obk #[.int .i64 oK, .int .i64 oI, .int .i64 oA, .int .i64 oN, .slice bo obs.length bcap] 36) := by
                have hL6 := (unhide HL).1.exts hx6
                refine (data_step hL6.sto (unhide HOI) hown6.row (by omega) (by omega)).mono ?_
                rintro e w7 ⟨rfl, hl7⟩
                have hob7 : Blk w7 obk #[.int .i64 oK, .int .i64 oI, .int .i64 oA, .int .i64 oN, .slice bo obs.length bcap] 36 := by
                  obtain ⟨K', _, _, ho7, _⟩ := hl7.go
                  exact (b5.ext hx6).out ho7 (fun h => (unhide HL).2.2.2.2 (.inl h))
                obtain ⟨K', h1, h2⟩ := hL6.call hl7
                exact ⟨K', rfl, h1, h2, hob7⟩
              have HSB : Hid (∀ wz : World, Blk wz obk #[.int .i64 oK, .int .i64 oI, .int .i64 oA, .int .i64 oN, .slice bo obs.length bcap] 36 → wz.cell? ⟨obk, 1, none⟩ = some (.int .i64 oI) ∧ wz.cell? ⟨obk, 4, none⟩ = some (.slice bo obs.length bcap)) := fun wz hb => ⟨hb.cell (i := 1) rfl, hb.cell (i := 4) rfl⟩
              have b5d : Blk w5.drew obk #[.int .i64 oK, .int .i64 oI, .int .i64 oA, .int .i64 oN, .slice bo obs.length bcap] 36 := b5
              have b5a : Blk (w5.alloc (.cells #[] 5)).drew obk #[.int .i64 oK, .int .i64 oI, .int .i64 oA, .int .i64 oN, .slice bo obs.length bcap] 36 := b5.alloc _
              have b6 : Blk w6 obk #[.int .i64 oK, .int .i64 oI, .int .i64 oA, .int .i64 oN, .slice bo obs.length bcap] 36 := b5.ext hx6
              clear hrun hown6 hg6 hx6 b5
              go_region_held3 (fun w' => w'.cell? ⟨obk, 1, none⟩ = some (.int .i64 oI) ∧ w'.cell? ⟨obk, 4, none⟩ = some (.slice bo obs.length bcap))
                (first | with_reducible exact unhide HSB _ (by with_reducible assumption)) (first | (refine step_run (by rfl) (.tmp 83) (.tmp 85) 34 (by rfl) (by rfl) (by rfl) (unhide HRUN) ?_) | (go_at_call 10; refine (unhide HD).mono ?_; rintro e w7 ⟨K', rfl, hL7, hP7, b7⟩))
              have H7 := hide (And.intro hL7 (And.intro hP7 b7))
              clear hL7 hP7 b7 b5d b5a b6 HSB HD HRUN
              have e1 : w7.cell? ⟨obk, 1, none⟩ = some (.int .i64 oI) := (unhide H7).2.2.cell (i := 1) rfl
              have e2 : w7.cell? ⟨obk, 2, none⟩ = some (.int .i64 oA) := (unhide H7).2.2.cell (i := 2) rfl
              have e4 : w7.cell? ⟨obk, 4, none⟩ = some (.slice bo obs.length bcap) := (unhide H7).2.2.cell (i := 4) rfl
              have m0 : w7.cell? ⟨mb, 0, none⟩ = some (.int .i64 B) := (unhide H7).1.blk.cell (i := 0) rfl
              have m1 : w7.cell? ⟨mb, 1, none⟩ = some (.slice am L.length cm) := (unhide H7).1.blk.cell (i := 1) rfl
              go_wp2_with fail
              refine (refData_any (unhide H7).1.rb (unhide H7).1.tlt (unhide H7).1.ext.size (by omega) (unhide HOI) ((unhide HROW).ext (unhide H7).1.ext) (by omega) hb0 hb1 hsL).mono ?_
              rintro e w8 ⟨v8, L8, rfl, hR8, hP8, hl8, hx8⟩
              simp only [rsto]
              obtain ⟨ao8, cap8, rfl, _⟩ := hR8.shape
              rw [← (unhide HL).2.1] at hP8 ⊢
              generalize dE B oI obs (prj K) = E
              have hm8 := (unhide H7).1.blk.ext hx8
              have n0 : w8.cell? ⟨mb, 0, none⟩ = some (.int .i64 B) := hm8.cell (i := 0) rfl
              have n1 : w8.cell? ⟨mb, 1, none⟩ = some (.slice am L.length cm) := hm8.cell (i := 1) rfl
              have f0 := hm8.free 0
              have f1 := hm8.free 1
              have hL9 := (unhide H7).1.put hx8 hR8
              have hKp : K'.length ≤ k + 1 := by
                have h1 := congrArg List.length (unhide H7).2.1
                rw [prj_len] at h1
                have h2 := dP_len B oI obs (prj K)
                rw [prj_len] at h2
                have h3 := (unhide HL).2.2.1
                omega
              have H9 := hide (And.intro hL9 (And.intro (show prj K' = prj L8 by rw [(unhide H7).2.1, hP8]) hKp))
              clear hL9 hm8 hx8 hR8 hP8 hl8 hKp e1 e2 e4 m0 m1 H7
              go_wp2_with fail
              clear n0 n1 f0 f1
              generalize (w8.setCell ⟨mb, 0, none⟩ (.int .i64 B)).setCell ⟨mb, 1, none⟩ (.slice ao8 L8.length cap8) = w9 at H9 ⊢
              have HSM : Hid (∀ wz : World, Blk wz mb #[.int .i64 B, .slice ao8 L8.length cap8] 33 → wz.cell? ⟨mb, 0, none⟩ = some (.int .i64 B) ∧ wz.cell? ⟨mb, 1, none⟩ = some (.slice ao8 L8.length cap8)) := fun wz hb => ⟨hb.cell (i := 0) rfl, hb.cell (i := 1) rfl⟩
              have HL21 : Hid (Calls Try.prog 21 #[.pointer (some ⟨G, 0, none⟩)] w9.drew fun e w10 => e = .returned (.int .i64 (B - (sumB K' : Int))) ∧ LI w w10 S G M mb B K' L8 (.slice ao8 L8.length cap8) ∧ Blk w10 mb #[.int .i64 B, .slice ao8 L8.length cap8] 33) := by
                have hL9 := (unhide H9).1.exts (Ext.refl w9).drew
                refine (left_any G B _ _ hL9.sto.ok hL9.sto.bu).mono ?_
                rintro e w10 ⟨rfl, m10, rfl⟩
                have hL10 := hL9.exts ((Ext.refl _).drewN m10)
                exact ⟨rfl, hL10, hL10.blk⟩
              have HL22 : Hid (∀ wz : World, LI w wz S G M mb B K' L8 (.slice ao8 L8.length cap8) → Calls Try.prog 22 #[.agg #[.int .i64 B, .slice ao8 L8.length cap8]] wz fun e w11 => e = .returned (.int .i64 (B - (sumB K' : Int))) ∧ LI w w11 S G M mb B K' L8 (.slice ao8 L8.length cap8) ∧ Blk w11 mb #[.int .i64 B, .slice ao8 L8.length cap8] 33) := by
                intro wz hLz
                obtain ⟨s0, s1, s2, s3, _⟩ := hLz.sums (unhide H9).2.1
                refine (refLeft_any hLz.rb s0 s1 s3).mono ?_
                rintro e w11 ⟨rfl, hx11⟩
                rw [s2]
                exact ⟨rfl, hLz.exts hx11, hLz.blk.ext hx11⟩
              have bm9 : Blk w9.drew mb #[.int .i64 B, .slice ao8 L8.length cap8] 33 := (unhide H9).1.blk
              go_region_held3 (fun w' => w'.cell? ⟨mb, 0, none⟩ = some (.int .i64 B) ∧ w'.cell? ⟨mb, 1, none⟩ = some (.slice ao8 L8.length cap8))
                (first | with_reducible exact unhide HSM _ (by with_reducible assumption)) (first | (go_at_call 21; refine (unhide HL21).mono ?_; rintro e w10 ⟨rfl, hL10, bm10⟩) | (go_at_call 22; refine (unhide HL22 _ (by with_reducible assumption)).mono ?_; rintro e w11 ⟨rfl, hL11, bm11⟩))
              have H11 := hide hL11
              clear hL10 bm10 hL11 bm11 bm9 HL21 HL22 HSM
              go_wp2
              go_roundw
              case rel => exact ⟨k + 1, K', L8, ao8, cap8, by omega, by omega, by go_num, unhide H11, (unhide H9).2.1, (unhide H9).2.2⟩
              case measure => simp [intOf]; omega
            · go_wp2_with fail
              generalize wr.alloc (.cells #[.int .i64 oK, .int .i64 oI, .int .i64 oA, .int .i64 oN, .slice bo obs.length bcap] 36) = w5 at HL ⊢
              generalize wr.heap.size = obk at HL ⊢
              clear c0 c1 c2 c3 c4
              have b5 : Blk w5 obk #[.int .i64 oK, .int .i64 oI, .int .i64 oA, .int .i64 oN, .slice bo obs.length bcap] 36 := (unhide HL).2.2.2.1
              have hLl : L.length ≤ 1000 := by omega
              obtain ⟨ao6, cap6, w6, hrun, hown6, hg6⟩ := run_append_Own (P := Try.prog) (w5.alloc (.cells #[] 5)).drew 34 34 w5.heap.size 5 i0 .u8 1 Try.underlying34 (unhide HIN).1 (unhide HIN).2.1 (unhide HIN).2.2.1 (unhide HIN).2.2.2 (.slice (some ⟨w5.heap.size, 0, none⟩) 0 0) (Own.drew (Own.made_at w5 rfl (Nat.le_refl _))) (.slice bo obs.length bcap) obs ((unhide HROW).ext ((unhide HL).1.ext.trans (ext_1 w5 _))) (by unfold maxLen; omega) (by omega) (ext_1 w5 _).size
              have hx6 : Ext w5 w6 := below_grown (ext_1 w5 _) (show (w5.alloc (.cells #[] 5)).drew.grownBy w6 (some w5.heap.size) from hg6) (ext_1 w5 _).size (Nat.le_refl _)
              have HRUN := hide hrun
              have HD : Hid (Calls Try.prog 12 #[.pointer (some ⟨S, 0, none⟩), .int .i64 oI, .int .i64 oA, .slice ao6 obs.length cap6] w6 fun e w7 => ∃ K', e = .returned (.int .i64 (sE oI oA obs (prj K))) ∧ LI w w7 S G M mb B K' L (.slice am L.length cm) ∧ prj K' = sP oI oA obs (prj K) ∧ Blk w7 obk #[.int .i64 oK, .int .i64 oI, .int .i64 oA, .int .i64 oN, .slice bo obs.length bcap] 36) := by
                have hL6 := (unhide HL).1.exts hx6
                refine (sub_step hL6.sto (unhide HOI) oA hown6.row).mono ?_
                rintro e w7 ⟨rfl, hl7⟩
                have hob7 : Blk w7 obk #[.int .i64 oK, .int .i64 oI, .int .i64 oA, .int .i64 oN, .slice bo obs.length bcap] 36 := by
                  obtain ⟨K', _, _, ho7, _⟩ := hl7.go
                  exact (b5.ext hx6).out ho7 (fun h => (unhide HL).2.2.2.2 (.inl h))
                obtain ⟨K', h1, h2⟩ := hL6.call hl7
                exact ⟨K', rfl, h1, h2, hob7⟩
              have HSB : Hid (∀ wz : World, Blk wz obk #[.int .i64 oK, .int .i64 oI, .int .i64 oA, .int .i64 oN, .slice bo obs.length bcap] 36 → wz.cell? ⟨obk, 1, none⟩ = some (.int .i64 oI) ∧ wz.cell? ⟨obk, 2, none⟩ = some (.int .i64 oA) ∧ wz.cell? ⟨obk, 4, none⟩ = some (.slice bo obs.length bcap)) := fun wz hb => ⟨hb.cell (i := 1) rfl, hb.cell (i := 2) rfl, hb.cell (i := 4) rfl⟩
              have b5d : Blk w5.drew obk #[.int .i64 oK, .int .i64 oI, .int .i64 oA, .int .i64 oN, .slice bo obs.length bcap] 36 := b5
              have b5a : Blk (w5.alloc (.cells #[] 5)).drew obk #[.int .i64 oK, .int .i64 oI, .int .i64 oA, .int .i64 oN, .slice bo obs.length bcap] 36 := b5.alloc _
              have b6 : Blk w6 obk #[.int .i64 oK, .int .i64 oI, .int .i64 oA, .int .i64 oN, .slice bo obs.length bcap] 36 := b5.ext hx6
              clear hrun hown6 hg6 hx6 b5
              go_region_held3 (fun w' => w'.cell? ⟨obk, 1, none⟩ = some (.int .i64 oI) ∧ w'.cell? ⟨obk, 2, none⟩ = some (.int .i64 oA) ∧ w'.cell? ⟨obk, 4, none⟩ = some (.slice bo obs.length bcap))
                (first | with_reducible exact unhide HSB _ (by with_reducible assumption)) (first | (refine step_run (by rfl) (.tmp 104) (.tmp 106) 34 (by rfl) (by rfl) (by rfl) (unhide HRUN) ?_) | (go_at_call 12; refine (unhide HD).mono ?_; rintro e w7 ⟨K', rfl, hL7, hP7, b7⟩))
              have H7 := hide (And.intro hL7 (And.intro hP7 b7))
              clear hL7 hP7 b7 b5d b5a b6 HSB HD HRUN
              have e1 : w7.cell? ⟨obk, 1, none⟩ = some (.int .i64 oI) := (unhide H7).2.2.cell (i := 1) rfl
              have e2 : w7.cell? ⟨obk, 2, none⟩ = some (.int .i64 oA) := (unhide H7).2.2.cell (i := 2) rfl
              have e4 : w7.cell? ⟨obk, 4, none⟩ = some (.slice bo obs.length bcap) := (unhide H7).2.2.cell (i := 4) rfl
              have m0 : w7.cell? ⟨mb, 0, none⟩ = some (.int .i64 B) := (unhide H7).1.blk.cell (i := 0) rfl
              have m1 : w7.cell? ⟨mb, 1, none⟩ = some (.slice am L.length cm) := (unhide H7).1.blk.cell (i := 1) rfl
              go_wp2_with fail
              refine (refSub_any (unhide H7).1.rb (unhide H7).1.tlt (unhide H7).1.ext.size (by omega) (fun p hp => by have := unhide HSF p hp; omega) oA ((unhide HROW).ext (unhide H7).1.ext) hb0 hb1 hsL).mono ?_
              rintro e w8 ⟨v8, L8, rfl, hR8, hP8, hl8, hx8⟩
              simp only [rsto]
              obtain ⟨ao8, cap8, rfl, _⟩ := hR8.shape
              rw [← (unhide HL).2.1] at hP8 ⊢
              generalize sE oI oA obs (prj K) = E
              have hm8 := (unhide H7).1.blk.ext hx8
              have n0 : w8.cell? ⟨mb, 0, none⟩ = some (.int .i64 B) := hm8.cell (i := 0) rfl
              have n1 : w8.cell? ⟨mb, 1, none⟩ = some (.slice am L.length cm) := hm8.cell (i := 1) rfl
              have f0 := hm8.free 0
              have f1 := hm8.free 1
              have hL9 := (unhide H7).1.put hx8 hR8
              have hKp : K'.length ≤ k + 1 := by
                have h1 := congrArg List.length (unhide H7).2.1
                rw [prj_len] at h1
                have h2 := sP_len oI oA obs (prj K)
                rw [prj_len] at h2
                have h3 := (unhide HL).2.2.1
                omega
              have H9 := hide (And.intro hL9 (And.intro (show prj K' = prj L8 by rw [(unhide H7).2.1, hP8]) hKp))
              clear hL9 hm8 hx8 hR8 hP8 hl8 hKp e1 e2 e4 m0 m1 H7
              go_wp2_with fail
              clear n0 n1 f0 f1
              generalize (w8.setCell ⟨mb, 0, none⟩ (.int .i64 B)).setCell ⟨mb, 1, none⟩ (.slice ao8 L8.length cap8) = w9 at H9 ⊢
              have HSM : Hid (∀ wz : World, Blk wz mb #[.int .i64 B, .slice ao8 L8.length cap8] 33 → wz.cell? ⟨mb, 0, none⟩ = some (.int .i64 B) ∧ wz.cell? ⟨mb, 1, none⟩ = some (.slice ao8 L8.length cap8)) := fun wz hb => ⟨hb.cell (i := 0) rfl, hb.cell (i := 1) rfl⟩
              have HL21 : Hid (Calls Try.prog 21 #[.pointer (some ⟨G, 0, none⟩)] w9.drew fun e w10 => e = .returned (.int .i64 (B - (sumB K' : Int))) ∧ LI w w10 S G M mb B K' L8 (.slice ao8 L8.length cap8) ∧ Blk w10 mb #[.int .i64 B, .slice ao8 L8.length cap8] 33) := by
                have hL9 := (unhide H9).1.exts (Ext.refl w9).drew
                refine (left_any G B _ _ hL9.sto.ok hL9.sto.bu).mono ?_
                rintro e w10 ⟨rfl, m10, rfl⟩
                have hL10 := hL9.exts ((Ext.refl _).drewN m10)
                exact ⟨rfl, hL10, hL10.blk⟩
              have HL22 : Hid (∀ wz : World, LI w wz S G M mb B K' L8 (.slice ao8 L8.length cap8) → Calls Try.prog 22 #[.agg #[.int .i64 B, .slice ao8 L8.length cap8]] wz fun e w11 => e = .returned (.int .i64 (B - (sumB K' : Int))) ∧ LI w w11 S G M mb B K' L8 (.slice ao8 L8.length cap8) ∧ Blk w11 mb #[.int .i64 B, .slice ao8 L8.length cap8] 33) := by
                intro wz hLz
                obtain ⟨s0, s1, s2, s3, _⟩ := hLz.sums (unhide H9).2.1
                refine (refLeft_any hLz.rb s0 s1 s3).mono ?_
                rintro e w11 ⟨rfl, hx11⟩
                rw [s2]
                exact ⟨rfl, hLz.exts hx11, hLz.blk.ext hx11⟩
              have bm9 : Blk w9.drew mb #[.int .i64 B, .slice ao8 L8.length cap8] 33 := (unhide H9).1.blk
              go_region_held3 (fun w' => w'.cell? ⟨mb, 0, none⟩ = some (.int .i64 B) ∧ w'.cell? ⟨mb, 1, none⟩ = some (.slice ao8 L8.length cap8))
                (first | with_reducible exact unhide HSM _ (by with_reducible assumption)) (first | (go_at_call 21; refine (unhide HL21).mono ?_; rintro e w10 ⟨rfl, hL10, bm10⟩) | (go_at_call 22; refine (unhide HL22 _ (by with_reducible assumption)).mono ?_; rintro e w11 ⟨rfl, hL11, bm11⟩))
              have H11 := hide hL11
              clear hL10 bm10 hL11 bm11 bm9 HL21 HL22 HSM
              go_wp2
              go_roundw
              case rel => exact ⟨k + 1, K', L8, ao8, cap8, by omega, by omega, by go_num, unhide H11, (unhide H9).2.1, (unhide H9).2.2⟩
              case measure => simp [intOf]; omega
            · go_wp2_with fail
              generalize wr.alloc (.cells #[.int .i64 oK, .int .i64 oI, .int .i64 oA, .int .i64 oN, .slice bo obs.length bcap] 36) = w5 at HL ⊢
              generalize wr.heap.size = obk at HL ⊢
              clear c0 c1 c2 c3 c4
              have b5 : Blk w5 obk #[.int .i64 oK, .int .i64 oI, .int .i64 oA, .int .i64 oN, .slice bo obs.length bcap] 36 := (unhide HL).2.2.2.1
              have hLl : L.length ≤ 1000 := by omega
              refine (get_step (unhide HL).1.sto (unhide HOI) oA oN).mono ?_
              rintro e w6 ⟨ag, cg, rfl, hrg, hxg⟩
              have b6 : Blk w6 obk #[.int .i64 oK, .int .i64 oI, .int .i64 oA, .int .i64 oN, .slice bo obs.length bcap] 36 := b5.ext hxg
              have e1 : w6.cell? ⟨obk, 1, none⟩ = some (.int .i64 oI) := b6.cell (i := 1) rfl
              have e2 : w6.cell? ⟨obk, 2, none⟩ = some (.int .i64 oA) := b6.cell (i := 2) rfl
              have e3 : w6.cell? ⟨obk, 3, none⟩ = some (.int .i64 oN) := b6.cell (i := 3) rfl
              have H6 := hide (And.intro ((unhide HL).1.exts hxg) hrg)
              have m0 : w6.cell? ⟨mb, 0, none⟩ = some (.int .i64 B) := (unhide H6).1.blk.cell (i := 0) rfl
              have m1 : w6.cell? ⟨mb, 1, none⟩ = some (.slice am L.length cm) := (unhide H6).1.blk.cell (i := 1) rfl
              have hgl : (gB oI oA oN (prj K)).length ≤ 140737488355328 := by
                unfold gB
                cases hlk : look oI (prj K) with
                | none => simp
                | some q =>
                  have h1 : (oI, q) ∈ prj L := by rw [← (unhide HL).2.1]; exact look_mem hlk
                  unfold prj at h1
                  obtain ⟨p, hp, he⟩ := List.mem_map.1 h1
                  have h2 := unhide HSF p hp
                  have h3 : p.2.2 = q := (Prod.mk.inj he).2
                  simp only
                  split
                  · rw [List.length_take, List.length_drop, ← h3]; omega
                  · simp
              clear hrg hxg b5 b6
              go_wp2_with fail
              refine (refGet_any (unhide H6).1.rb (fun p hp => by have := unhide HSF p hp; omega) oA oN).mono ?_
              rintro e w7 ⟨ah, ch, rfl, hrh, hxh⟩
              rw [← (unhide HL).2.1] at hrh ⊢
              have H7 := hide (And.intro ((unhide H6).1.exts hxh) (And.intro ((unhide H6).2.ext hxh) hrh))
              clear hrh hxh e1 e2 e3 m0 m1 H6
              generalize gE oI oA oN (prj K) = E
              generalize gB oI oA oN (prj K) = gb at H7 hgl ⊢
              go_wp2_with fail
              refine (same_any _ _ gb gb _ (unhide H7).2.1 (unhide H7).2.2 hgl).mono ?_
              rintro e w8 ⟨rfl, n8, rfl⟩
              rw [decide_eq_true rfl]
              have H9 := hide (And.intro ((unhide H7).1.exts ((Ext.refl w7).drewN n8)) (And.intro (unhide HL).2.1 (show K.length ≤ k + 1 by have := (unhide HL).2.2.1; omega)))
              clear H7
              generalize w7.drewN n8 = w9 at H9 ⊢
              go_wp2_with fail
              have HSM : Hid (∀ wz : World, Blk wz mb #[.int .i64 B, .slice am L.length cm] 33 → wz.cell? ⟨mb, 0, none⟩ = some (.int .i64 B) ∧ wz.cell? ⟨mb, 1, none⟩ = some (.slice am L.length cm)) := fun wz hb => ⟨hb.cell (i := 0) rfl, hb.cell (i := 1) rfl⟩
              have HL21 : Hid (Calls Try.prog 21 #[.pointer (some ⟨G, 0, none⟩)] w9.drew fun e w10 => e = .returned (.int .i64 (B - (sumB K : Int))) ∧ LI w w10 S G M mb B K L (.slice am L.length cm) ∧ Blk w10 mb #[.int .i64 B, .slice am L.length cm] 33) := by
                have hL9 := (unhide H9).1.exts (Ext.refl w9).drew
                refine (left_any G B _ _ hL9.sto.ok hL9.sto.bu).mono ?_
                rintro e w10 ⟨rfl, m10, rfl⟩
                have hL10 := hL9.exts ((Ext.refl _).drewN m10)
                exact ⟨rfl, hL10, hL10.blk⟩
              have HL22 : Hid (∀ wz : World, LI w wz S G M mb B K L (.slice am L.length cm) → Calls Try.prog 22 #[.agg #[.int .i64 B, .slice am L.length cm]] wz fun e w11 => e = .returned (.int .i64 (B - (sumB K : Int))) ∧ LI w w11 S G M mb B K L (.slice am L.length cm) ∧ Blk w11 mb #[.int .i64 B, .slice am L.length cm] 33) := by
                intro wz hLz
                obtain ⟨s0, s1, s2, s3, _⟩ := hLz.sums (unhide H9).2.1
                refine (refLeft_any hLz.rb s0 s1 s3).mono ?_
                rintro e w11 ⟨rfl, hx11⟩
                rw [s2]
                exact ⟨rfl, hLz.exts hx11, hLz.blk.ext hx11⟩
              have bm9 : Blk w9.drew mb #[.int .i64 B, .slice am L.length cm] 33 := (unhide H9).1.blk
              go_region_held3 (fun w' => w'.cell? ⟨mb, 0, none⟩ = some (.int .i64 B) ∧ w'.cell? ⟨mb, 1, none⟩ = some (.slice am L.length cm))
                (first | with_reducible exact unhide HSM _ (by with_reducible assumption)) (first | (go_at_call 21; refine (unhide HL21).mono ?_; rintro e w10 ⟨rfl, hL10, bm10⟩) | (go_at_call 22; refine (unhide HL22 _ (by with_reducible assumption)).mono ?_; rintro e w11 ⟨rfl, hL11, bm11⟩))
              have H11 := hide hL11
              clear hL10 bm10 hL11 bm11 bm9 HL21 HL22 HSM
              go_wp2
              go_roundw
              case rel => exact ⟨k + 1, K, L, am, cm, by omega, by omega, by go_num, unhide H11, (unhide H9).2.1, (unhide H9).2.2⟩
              case measure => simp [intOf]; omega
            · go_wp2_with fail
              generalize wr.alloc (.cells #[.int .i64 oK, .int .i64 oI, .int .i64 oA, .int .i64 oN, .slice bo obs.length bcap] 36) = w5 at HL ⊢
              generalize wr.heap.size = obk at HL ⊢
              clear c0 c1 c2 c3 c4
              have b5 : Blk w5 obk #[.int .i64 oK, .int .i64 oI, .int .i64 oA, .int .i64 oN, .slice bo obs.length bcap] 36 := (unhide HL).2.2.2.1
              have hLl : L.length ≤ 1000 := by omega
              refine (size_step (unhide HL).1.sto (unhide HOI)).mono ?_
              rintro e w6 ⟨rfl, rfl⟩
              have e1 : w6.cell? ⟨obk, 1, none⟩ = some (.int .i64 oI) := b5.cell (i := 1) rfl
              have m0 : w6.cell? ⟨mb, 0, none⟩ = some (.int .i64 B) := (unhide HL).1.blk.cell (i := 0) rfl
              have m1 : w6.cell? ⟨mb, 1, none⟩ = some (.slice am L.length cm) := (unhide HL).1.blk.cell (i := 1) rfl
              clear b5
              cases hlk : look oI L with
              | none =>
                have hE : rE oI (prj K) = 4 := by unfold rE; rw [(unhide HL).2.1, prj_look, hlk]; rfl
                rw [hE]
                go_wp2_with fail
                refine (refFind_none (unhide HL).1.rb hlk).mono ?_
                rintro e w9 ⟨rfl, hx9⟩
                have H9 := hide (And.intro ((unhide HL).1.exts hx9) (And.intro (unhide HL).2.1 (show K.length ≤ k + 1 by have := (unhide HL).2.2.1; omega)))
                clear hx9 hlk hE e1 m0 m1
                go_wp2_with fail
                have HSM : Hid (∀ wz : World, Blk wz mb #[.int .i64 B, .slice am L.length cm] 33 → wz.cell? ⟨mb, 0, none⟩ = some (.int .i64 B) ∧ wz.cell? ⟨mb, 1, none⟩ = some (.slice am L.length cm)) := fun wz hb => ⟨hb.cell (i := 0) rfl, hb.cell (i := 1) rfl⟩
                have HL21 : Hid (Calls Try.prog 21 #[.pointer (some ⟨G, 0, none⟩)] w9.drew fun e w10 => e = .returned (.int .i64 (B - (sumB K : Int))) ∧ LI w w10 S G M mb B K L (.slice am L.length cm) ∧ Blk w10 mb #[.int .i64 B, .slice am L.length cm] 33) := by
                  have hL9 := (unhide H9).1.exts (Ext.refl w9).drew
                  refine (left_any G B _ _ hL9.sto.ok hL9.sto.bu).mono ?_
                  rintro e w10 ⟨rfl, m10, rfl⟩
                  have hL10 := hL9.exts ((Ext.refl _).drewN m10)
                  exact ⟨rfl, hL10, hL10.blk⟩
                have HL22 : Hid (∀ wz : World, LI w wz S G M mb B K L (.slice am L.length cm) → Calls Try.prog 22 #[.agg #[.int .i64 B, .slice am L.length cm]] wz fun e w11 => e = .returned (.int .i64 (B - (sumB K : Int))) ∧ LI w w11 S G M mb B K L (.slice am L.length cm) ∧ Blk w11 mb #[.int .i64 B, .slice am L.length cm] 33) := by
                  intro wz hLz
                  obtain ⟨s0, s1, s2, s3, _⟩ := hLz.sums (unhide H9).2.1
                  refine (refLeft_any hLz.rb s0 s1 s3).mono ?_
                  rintro e w11 ⟨rfl, hx11⟩
                  rw [s2]
                  exact ⟨rfl, hLz.exts hx11, hLz.blk.ext hx11⟩
                have bm9 : Blk w9.drew mb #[.int .i64 B, .slice am L.length cm] 33 := (unhide H9).1.blk
                go_region_held3 (fun w' => w'.cell? ⟨mb, 0, none⟩ = some (.int .i64 B) ∧ w'.cell? ⟨mb, 1, none⟩ = some (.slice am L.length cm))
                  (first | with_reducible exact unhide HSM _ (by with_reducible assumption)) (first | (go_at_call 21; refine (unhide HL21).mono ?_; rintro e w10 ⟨rfl, hL10, bm10⟩) | (go_at_call 22; refine (unhide HL22 _ (by with_reducible assumption)).mono ?_; rintro e w11 ⟨rfl, hL11, bm11⟩))
                have H11 := hide hL11
                clear hL10 bm10 hL11 bm11 bm9 HL21 HL22 HSM
                go_wp2
                go_roundw
                case rel => exact ⟨k + 1, K, L, am, cm, by omega, by omega, by go_num, unhide H11, (unhide H9).2.1, (unhide H9).2.2⟩
                case measure => simp [intOf]; omega
              | some q =>
                obtain ⟨uq, bq⟩ := q
                have hE : rE oI (prj K) = 0 := by unfold rE; rw [(unhide HL).2.1, prj_look, hlk]; rfl
                have hN : lenP oI (prj K) = bq.length := by unfold lenP; rw [(unhide HL).2.1, prj_look, hlk]; rfl
                rw [hE, hN]
                go_wp2_with fail
                refine (refFind_some (unhide HL).1.rb hlk).mono ?_
                rintro e w9 ⟨⟨jj, hjj, rfl, hje⟩, hx9⟩
                have hL9 := (unhide HL).1.exts hx9
                obtain ⟨g9, eg9, d1, d2⟩ := hL9.rb.at jj hjj
                subst eg9
                have hr9 := hL9.rb.row _ (List.getElem_mem hjj)
                obtain ⟨eo9, ec9, ee9, _⟩ := hr9.shape
                rw [ee9, hje] at d2
                simp only at d2
                have m19 : w9.cell? ⟨mb, 1, none⟩ = some (.slice (some ⟨g9, 0, none⟩) L.length cm) := hL9.blk.cell (i := 1) rfl
                have hj0 : (0 : Int) ≤ (jj : Int) := by omega
                have hjn : (jj : Int) < (L.length : Int) := by omega
                have H9 := hide (And.intro hL9 (And.intro (unhide HL).2.1 (show K.length ≤ k + 1 by have := (unhide HL).2.2.1; omega)))
                clear hx9 hlk hE hN hL9 hr9 ee9 hje d1 e1 m0 m1
                go_wp2_with fail
                clear d2 m19
                have HSM : Hid (∀ wz : World, Blk wz mb #[.int .i64 B, .slice (some ⟨g9, 0, none⟩) L.length cm] 33 → wz.cell? ⟨mb, 0, none⟩ = some (.int .i64 B) ∧ wz.cell? ⟨mb, 1, none⟩ = some (.slice (some ⟨g9, 0, none⟩) L.length cm)) := fun wz hb => ⟨hb.cell (i := 0) rfl, hb.cell (i := 1) rfl⟩
                have HL21 : Hid (Calls Try.prog 21 #[.pointer (some ⟨G, 0, none⟩)] w9.drew fun e w10 => e = .returned (.int .i64 (B - (sumB K : Int))) ∧ LI w w10 S G M mb B K L (.slice (some ⟨g9, 0, none⟩) L.length cm) ∧ Blk w10 mb #[.int .i64 B, .slice (some ⟨g9, 0, none⟩) L.length cm] 33) := by
                  have hL9 := (unhide H9).1.exts (Ext.refl w9).drew
                  refine (left_any G B _ _ hL9.sto.ok hL9.sto.bu).mono ?_
                  rintro e w10 ⟨rfl, m10, rfl⟩
                  have hL10 := hL9.exts ((Ext.refl _).drewN m10)
                  exact ⟨rfl, hL10, hL10.blk⟩
                have HL22 : Hid (∀ wz : World, LI w wz S G M mb B K L (.slice (some ⟨g9, 0, none⟩) L.length cm) → Calls Try.prog 22 #[.agg #[.int .i64 B, .slice (some ⟨g9, 0, none⟩) L.length cm]] wz fun e w11 => e = .returned (.int .i64 (B - (sumB K : Int))) ∧ LI w w11 S G M mb B K L (.slice (some ⟨g9, 0, none⟩) L.length cm) ∧ Blk w11 mb #[.int .i64 B, .slice (some ⟨g9, 0, none⟩) L.length cm] 33) := by
                  intro wz hLz
                  obtain ⟨s0, s1, s2, s3, _⟩ := hLz.sums (unhide H9).2.1
                  refine (refLeft_any hLz.rb s0 s1 s3).mono ?_
                  rintro e w11 ⟨rfl, hx11⟩
                  rw [s2]
                  exact ⟨rfl, hLz.exts hx11, hLz.blk.ext hx11⟩
                have bm9 : Blk w9.drew mb #[.int .i64 B, .slice (some ⟨g9, 0, none⟩) L.length cm] 33 := (unhide H9).1.blk
                go_region_held3 (fun w' => w'.cell? ⟨mb, 0, none⟩ = some (.int .i64 B) ∧ w'.cell? ⟨mb, 1, none⟩ = some (.slice (some ⟨g9, 0, none⟩) L.length cm))
                  (first | with_reducible exact unhide HSM _ (by with_reducible assumption)) (first | (go_at_call 21; refine (unhide HL21).mono ?_; rintro e w10 ⟨rfl, hL10, bm10⟩) | (go_at_call 22; refine (unhide HL22 _ (by with_reducible assumption)).mono ?_; rintro e w11 ⟨rfl, hL11, bm11⟩))
                have H11 := hide hL11
                clear hL10 bm10 hL11 bm11 bm9 HL21 HL22 HSM
                go_wp2
                go_roundw
                case rel => exact ⟨k + 1, K, L, (some ⟨g9, 0, none⟩), cm, by omega, by omega, by go_num, unhide H11, (unhide H9).2.1, (unhide H9).2.2⟩
                case measure => simp [intOf]; omega
            · go_wp2_with fail
              generalize wr.alloc (.cells #[.int .i64 oK, .int .i64 oI, .int .i64 oA, .int .i64 oN, .slice bo obs.length bcap] 36) = w5 at HL ⊢
              generalize wr.heap.size = obk at HL ⊢
              clear c0 c1 c2 c3 c4
              have b5 : Blk w5 obk #[.int .i64 oK, .int .i64 oI, .int .i64 oA, .int .i64 oN, .slice bo obs.length bcap] 36 := (unhide HL).2.2.2.1
              have hLl : L.length ≤ 1000 := by omega
              obtain ⟨w6, hw6⟩ : ∃ w6, w6 = w5 := ⟨_, rfl⟩
              have hx6 : Ext w5 w6 := by rw [hw6]; exact Ext.refl w5
              have HD : Hid (Calls Try.prog 19 #[.pointer (some ⟨S, 0, none⟩), .int .i64 oI] w6 fun e w7 => ∃ K', e = .returned (.int .i64 (rE oI (prj K))) ∧ LI w w7 S G M mb B K' L (.slice am L.length cm) ∧ prj K' = rem oI (prj K) ∧ Blk w7 obk #[.int .i64 oK, .int .i64 oI, .int .i64 oA, .int .i64 oN, .slice bo obs.length bcap] 36) := by
                have hL6 := (unhide HL).1.exts hx6
                refine (drop_step hL6.sto (unhide HOI)).mono ?_
                rintro e w7 ⟨rfl, hl7⟩
                have hob7 : Blk w7 obk #[.int .i64 oK, .int .i64 oI, .int .i64 oA, .int .i64 oN, .slice bo obs.length bcap] 36 := by
                  obtain ⟨K', _, _, ho7, _⟩ := hl7.go
                  exact (b5.ext hx6).out ho7 (fun h => (unhide HL).2.2.2.2 (.inl h))
                obtain ⟨K', h1, h2⟩ := hL6.call hl7
                exact ⟨K', rfl, h1, h2, hob7⟩
              rw [hw6] at HD
              clear hx6 hw6 b5
              refine (unhide HD).mono ?_
              rintro e w7 ⟨K', rfl, hL7, hP7, b7⟩
              have H7 := hide (And.intro hL7 (And.intro hP7 b7))
              clear hL7 hP7 b7 HD
              have e1 : w7.cell? ⟨obk, 1, none⟩ = some (.int .i64 oI) := (unhide H7).2.2.cell (i := 1) rfl
              have e2 : w7.cell? ⟨obk, 2, none⟩ = some (.int .i64 oA) := (unhide H7).2.2.cell (i := 2) rfl
              have e4 : w7.cell? ⟨obk, 4, none⟩ = some (.slice bo obs.length bcap) := (unhide H7).2.2.cell (i := 4) rfl
              have m0 : w7.cell? ⟨mb, 0, none⟩ = some (.int .i64 B) := (unhide H7).1.blk.cell (i := 0) rfl
              have m1 : w7.cell? ⟨mb, 1, none⟩ = some (.slice am L.length cm) := (unhide H7).1.blk.cell (i := 1) rfl
              go_wp2_with fail
              refine (refDrop_any (unhide H7).1.rb (unhide H7).1.tlt (unhide H7).1.ext.size (by omega)).mono ?_
              rintro e w8 ⟨v8, L8, rfl, hR8, hP8, hl8, hx8⟩
              simp only [rsto]
              obtain ⟨ao8, cap8, rfl, _⟩ := hR8.shape
              rw [← (unhide HL).2.1] at hP8 ⊢
              generalize rE oI (prj K) = E
              have hm8 := (unhide H7).1.blk.ext hx8
              have n0 : w8.cell? ⟨mb, 0, none⟩ = some (.int .i64 B) := hm8.cell (i := 0) rfl
              have n1 : w8.cell? ⟨mb, 1, none⟩ = some (.slice am L.length cm) := hm8.cell (i := 1) rfl
              have f0 := hm8.free 0
              have f1 := hm8.free 1
              have hL9 := (unhide H7).1.put hx8 hR8
              have hKp : K'.length ≤ k + 1 := by
                have h1 := congrArg List.length (unhide H7).2.1
                rw [prj_len] at h1
                have h2 := len_rem oI (prj K)
                rw [prj_len] at h2
                have h3 := (unhide HL).2.2.1
                omega
              have H9 := hide (And.intro hL9 (And.intro (show prj K' = prj L8 by rw [(unhide H7).2.1, hP8]) hKp))
              clear hL9 hm8 hx8 hR8 hP8 hl8 hKp e1 e2 e4 m0 m1 H7
              go_wp2_with fail
              clear n0 n1 f0 f1
              generalize (w8.setCell ⟨mb, 0, none⟩ (.int .i64 B)).setCell ⟨mb, 1, none⟩ (.slice ao8 L8.length cap8) = w9 at H9 ⊢
              have HSM : Hid (∀ wz : World, Blk wz mb #[.int .i64 B, .slice ao8 L8.length cap8] 33 → wz.cell? ⟨mb, 0, none⟩ = some (.int .i64 B) ∧ wz.cell? ⟨mb, 1, none⟩ = some (.slice ao8 L8.length cap8)) := fun wz hb => ⟨hb.cell (i := 0) rfl, hb.cell (i := 1) rfl⟩
              have HL21 : Hid (Calls Try.prog 21 #[.pointer (some ⟨G, 0, none⟩)] w9.drew fun e w10 => e = .returned (.int .i64 (B - (sumB K' : Int))) ∧ LI w w10 S G M mb B K' L8 (.slice ao8 L8.length cap8) ∧ Blk w10 mb #[.int .i64 B, .slice ao8 L8.length cap8] 33) := by
                have hL9 := (unhide H9).1.exts (Ext.refl w9).drew
                refine (left_any G B _ _ hL9.sto.ok hL9.sto.bu).mono ?_
                rintro e w10 ⟨rfl, m10, rfl⟩
                have hL10 := hL9.exts ((Ext.refl _).drewN m10)
                exact ⟨rfl, hL10, hL10.blk⟩
              have HL22 : Hid (∀ wz : World, LI w wz S G M mb B K' L8 (.slice ao8 L8.length cap8) → Calls Try.prog 22 #[.agg #[.int .i64 B, .slice ao8 L8.length cap8]] wz fun e w11 => e = .returned (.int .i64 (B - (sumB K' : Int))) ∧ LI w w11 S G M mb B K' L8 (.slice ao8 L8.length cap8) ∧ Blk w11 mb #[.int .i64 B, .slice ao8 L8.length cap8] 33) := by
                intro wz hLz
                obtain ⟨s0, s1, s2, s3, _⟩ := hLz.sums (unhide H9).2.1
                refine (refLeft_any hLz.rb s0 s1 s3).mono ?_
                rintro e w11 ⟨rfl, hx11⟩
                rw [s2]
                exact ⟨rfl, hLz.exts hx11, hLz.blk.ext hx11⟩
              have bm9 : Blk w9.drew mb #[.int .i64 B, .slice ao8 L8.length cap8] 33 := (unhide H9).1.blk
              go_region_held3 (fun w' => w'.cell? ⟨mb, 0, none⟩ = some (.int .i64 B) ∧ w'.cell? ⟨mb, 1, none⟩ = some (.slice ao8 L8.length cap8))
                (first | with_reducible exact unhide HSM _ (by with_reducible assumption)) (first | (go_at_call 21; refine (unhide HL21).mono ?_; rintro e w10 ⟨rfl, hL10, bm10⟩) | (go_at_call 22; refine (unhide HL22 _ (by with_reducible assumption)).mono ?_; rintro e w11 ⟨rfl, hL11, bm11⟩))
              have H11 := hide hL11
              clear hL10 bm10 hL11 bm11 bm9 HL21 HL22 HSM
              go_wp2
              go_roundw
              case rel => exact ⟨k + 1, K', L8, ao8, cap8, by omega, by omega, by go_num, unhide H11, (unhide H9).2.1, (unhide H9).2.2⟩
              case measure => simp [intOf]; omega
      · obtain rfl : k = xs.length := by omega
        have HE := hide (And.intro hLI (And.intro heq hKl))
        clear hLI heq hlt
        go_wp2_with fail
        generalize wr = wE at HE ⊢
        have hK40 : K.length ≤ 40 := by have := (unhide HE).2.2; omega
        have hLK : K.length = L.length := by rw [← prj_len, (unhide HE).2.1, prj_len]
        refine (list_any (unhide HE).1.sto (by omega)).mono ?_
        rintro e wl ⟨al, cl, rfl, hrowl, hxl⟩
        have HE2 := hide (And.intro ((unhide HE).1.exts hxl) (And.intro (unhide HE).2.1 hrowl))
        have qm : wl.cell? ⟨mb, 1, none⟩ = some (.slice am L.length cm) := (unhide HE2).1.blk.cell (i := 1) rfl
        have hnel : ((K.length : Int) != (L.length : Int)) = false := by simp [hLK]
        have HLK := hide hLK
        clear hrowl hxl HE hLK
        go_wp2_with fail
        go_loopw [210] (fun i wz => ∃ (j : Nat), j ≤ L.length ∧ i = .int .i64 (j : Int) ∧ Ext wl wz) (fun i _ => L.length - (intOf i).toNat)
        case atStart => exact ⟨0, Nat.zero_le _, rfl, Ext.refl _⟩
        case round =>
          obtain ⟨j, hj, rfl, hXz⟩ := hrel
          by_cases hjl : j < L.length
          · have hLz := (unhide HE2).1.exts hXz
            obtain ⟨gz, ez, c1, c2⟩ := hLz.rb.at j hjl
            subst ez
            have hrowr := hLz.rb.row _ (List.getElem_mem hjl)
            have hidz := (hLz.rb.ids _ (List.getElem_mem hjl)).2
            have hfitz := (hLz.sums (unhide HE2).2.1).2.2.2.2 _ (List.getElem_mem hjl)
            obtain ⟨ez, ezc, eez, _⟩ := hrowr.shape
            rw [eez] at c2 hrowr
            have hjK : j < K.length := by have := unhide HLK; omega
            have hprj : (K[j].1, K[j].2.2) = (L[j].1, L[j].2.2) := by
              have h1 : (prj K)[j]'(by rw [prj_len]; exact hjK) = (prj L)[j]'(by rw [prj_len]; exact hjl) := by congr 1; exact (unhide HE2).2.1
              unfold prj at h1
              simpa using h1
            have hlookK : ∃ u, look L[j].1 K = some (u, L[j].2.2) := by
              refine ⟨K[j].2.1, ?_⟩
              have h2 := look_of_mem hLz.sto.rise (show (K[j].1, K[j].2) ∈ K from List.getElem_mem hjK)
              have e1 : K[j].1 = L[j].1 := (Prod.mk.inj hprj).1
              have e2 : K[j].2.2 = L[j].2.2 := (Prod.mk.inj hprj).2
              rw [← e1, ← e2]
              exact h2
            obtain ⟨uk, hlk⟩ := hlookK
            have hrz : Row .i64 wr (.slice al K.length cl) (K.map (·.1)) := (unhide HE2).2.2.ext hXz
            obtain ⟨lb, lo, el, hcl⟩ := hrz.at j (by simpa using hjK)
            subst el
            have cl1 := hcl j (by simpa using hjK)
            rw [List.getElem_map, (Prod.mk.inj hprj).1] at cl1
            have hjn : (j : Int) < (L.length : Int) := by omega
            have hjkn : (j : Int) < (K.length : Int) := by omega
            have hx9 : Ext wr (wr.alloc (.cells #[.int .i64 L[j].1, .slice ez L[j].2.2.length ezc] 49)) := (Ext.refl wr).alloc _
            have hxb := Blk.new wr #[.int .i64 L[j].1, .slice ez L[j].2.2.length ezc] 49
            have H9 := hide (And.intro (hLz.exts hx9) (And.intro hlk (And.intro hidz (And.intro (hrowr.ext hx9) (And.intro (hXz.trans hx9) (And.intro hxb (And.intro hfitz cl1)))))))
            have hlbz := World.block_lt_of_cell? wr _ cl1
            generalize L[j].2.2 = jb at c2 H9
            generalize L[j].1 = ji at c1 H9
            clear hLz hrowr hidz hfitz eez hprj hlk hrz hcl hx9 hxb cl1
            go_wp2_with fail
            refine (get_some (unhide H9).1.sto (unhide H9).2.2.1 (unhide H9).2.1 0 jb.length (by omega)).mono ?_
            rintro e wg ⟨ag, cg, rfl, howng, hxg⟩
            rw [List.drop_zero, List.take_length] at howng
            have hcx0 : wg.cell? ⟨wr.heap.size, 0, none⟩ = some (.int .i64 ji) := ((unhide H9).2.2.2.2.2.1.ext hxg).cell (i := 0) rfl
            have hcx1 : wg.cell? ⟨wr.heap.size, 1, none⟩ = some (.slice ez jb.length ezc) := ((unhide H9).2.2.2.2.2.1.ext hxg).cell (i := 1) rfl
            have hclg : wg.cell? ⟨lb, lo + j, none⟩ = some (.int .i64 ji) := by
              rw [(((Ext.refl wr).alloc _).trans hxg).cell (p := ⟨lb, lo + j, none⟩) hlbz]
              exact (unhide H9).2.2.2.2.2.2.2
            have H10 := hide (And.intro howng.row (And.intro ((unhide H9).2.2.2.1.ext hxg) (And.intro ((unhide H9).2.2.2.2.1.trans hxg) (unhide H9).2.2.2.2.2.2.1)))
            clear howng hxg c1 c2 H9 qm
            go_wp2_with fail
            go_quiet (first | (go_at_call 16; refine Calls.quiet_of (same_any _ _ jb jb _ (by exact (unhide H10).1.ext ((Ext.refl _).drewN _)) (by exact (unhide H10).2.1.ext ((Ext.refl _).drewN _)) (by have := (unhide H10).2.2.2; omega))))
            go_wp2
            go_roundw
            case rel => exact ⟨j + 1, by omega, by go_num, (unhide H10).2.2.1.drewN _⟩
            case measure => simp [intOf]; omega
          · obtain rfl : j = L.length := by omega
            have HXZ := hide ((unhide HE2).1.ext.trans hXz)
            clear hXz hjl hj
            go_wp2
            go_ret
            exact ⟨rfl, unhide HXZ⟩

theorem does_owes (H : Type) (enc : TypeId × Value → H) (W : World) (base : Nat) (args : Array Value) (ds : List (DataW H)) (p : List MemPlace) : Owes H enc Try.prog 3 Try.f3 Rows.bufferDoesSpec W base args ds p := by
  intro hval hA hsz
  rw [Try.params3] at hA hval hsz
  obtain ⟨v0, vs0, d0, ds0, p0, q0, hargs, rfl, rfl, h0, r0⟩ := trodAll_cons hA
  obtain ⟨v1, vs1, d1, ds1, p1, q1, rfl, rfl, rfl, h1, r1⟩ := trodAll_cons r0
  obtain ⟨rfl, rfl, rfl⟩ := trodAll_nil r1
  obtain rfl : args = #[v0, v1] := by cases args; simp_all
  obtain ⟨x, rfl, rfl, rfl, wx⟩ := open_int Try.underlying3 (hval 0 3 v0 rfl rfl) h0
  obtain ⟨os, horow⟩ := open_ops (hval 1 22 v1 rfl rfl) h1
  exact ⟨⟨rfl, rfl, rfl⟩, does_walk x v1 os W (bounds_i64 wx) horow⟩

set_option maxRecDepth 100000 in
theorem does_lifted (os : Os) (started : os.Started) (H : Type) (enc : TypeId × Value → H) :
    ReturnsInHanded {} Try.checked os 3 .any (Rows.bufferDoesSpec.pre6 enc Try.prog Try.f3 [] false) (Rows.bufferDoesSpec.post enc Try.prog Try.f3 false true false false) :=
  lift_law (C := Try.checked) own laidOut started (by kernel_rfl) Try.func3 (T := 4) rfl Try.underlying4 rfl (by kernel_rfl)
    (ChangeSpec.witness6 (enc := enc) (C := Try.checked) false ⟨#[], #[.int .i64 0, .slice none 0 0], []⟩ 8 (by kernel_rfl) (by kernel_rfl) (by kernel_rfl) (by kernel_rfl)) (does_owes H enc)

theorem bufferDoes_holds : Rows.BufferDoesSaid :=
  OpenClaim.holds_of_wide 3 Try.f3 rfl rfl rfl rfl rfl rfl rfl ⟨rfl, rfl, rfl, rfl, rfl⟩ rfl rfl rfl rfl rfl (by kernel_rfl) Try.func3 (by kernel_rfl)
    (of_decide_eq_true (by kernel_rfl)) (by unfold Func.isWrapper; rw [if_neg (of_decide_eq_false (by kernel_rfl))]; exact ⟨rfl, rfl⟩)
    (fun os started H enc _ => does_lifted os started H enc)
#print axioms bufferDoes_holds
end Go.Proofs.Ytagbenjaidikmaa
