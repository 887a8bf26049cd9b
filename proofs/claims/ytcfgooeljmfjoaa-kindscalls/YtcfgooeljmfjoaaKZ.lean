/-
  The document's calls.
-/
import Derived.Test.YtcfgooeljmfjoaaKZp
import Derived.Test.YtcfgooeljmfjoaaKT
import Derived.Test.YtcfgooeljmfjoaaKE
namespace Go.Proofs.Ytcfgooeljmfjoaa
open Go.RowKit
set_option linter.unusedVariables false
set_option linter.unusedSimpArgs false

def g17 (t : Ty) (A : List Ty) : Bool := decide (A.length = 1) && (t.2 == 1 || (A.getD 0 noT).2 == 1 || decide (t.2 ≤ (A.getD 0 noT).2))
theorem good_eq (t : Ty) (A : List Ty) : goodB t A = (g17 t A || (decide (1 < A.length) && decide (1 < t.2) && decide (t.2 ≤ sumS A) && decide (sumS A - lastS A < t.2))) := rfl
theorem TyR.get {w : World} {ao : Option Addr} {n cap : Nat} {A : List Ty} (h : TyR w (.slice ao n cap) A) (i : Nat) (hi : i < A.length) : ∃ b off, ao = some ⟨b, off, none⟩ ∧ w.cell? ⟨b, off + i * 2, none⟩ = some (.int .i64 A[i].1) ∧ w.cell? ⟨b, off + i * 2 + 1, none⟩ = some (.int .i64 A[i].2) := by
  obtain ⟨_, _, e, _, hat⟩ := h
  have e2 := (Value.slice.inj e).1
  subst e2
  exact hat i hi
theorem meetV {f : (Nat → Value) → Act} {a : Act} {X : Prop} (hx : X) (h : a = f (fun i => a.tmps.getD i undef)) : ∃ V, X ∧ a = f V := ⟨_, hx, h⟩
theorem TyR.take' {w : World} {ao : Option Addr} {n cap : Nat} {A : List Ty} (h : TyR w (.slice ao n cap) A) (k : Nat) (hk : k ≤ A.length) : TyR w (.slice ao k cap) (A.take k) := by
  obtain ⟨ao', cap', e, hl, hat⟩ := h
  have e1 := (Value.slice.inj e).1
  subst e1
  have hlk : (A.take k).length = k := by rw [List.length_take]; omega
  refine ⟨ao, cap, by rw [hlk], by omega, fun i hi => ?_⟩
  obtain ⟨b, off, he, x0, x1⟩ := hat i (by omega)
  refine ⟨b, off, he, ?_, ?_⟩
  · rw [List.getElem_take]; exact x0
  · rw [List.getElem_take]; exact x1
theorem TyR.drop' {w : World} {b off : Nat} {n cap : Nat} {A : List Ty} (h : TyR w (.slice (some ⟨b, off, none⟩) n cap) A) (m c2 : Nat) (hm : m + 1 = A.length) : TyR w (.slice (some ⟨b, off + 2, none⟩) m c2) (A.drop 1) := by
  obtain ⟨ao', cap', e, hl, hat⟩ := h
  have e1 := (Value.slice.inj e).1
  subst e1
  have hlk : (A.drop 1).length = m := by rw [List.length_drop]; omega
  refine ⟨_, c2, by rw [hlk], by omega, fun i hi => ?_⟩
  obtain ⟨b', off', he, x0, x1⟩ := hat (i + 1) (by omega)
  cases he
  refine ⟨b, off + 2, rfl, ?_, ?_⟩
  · rw [List.getElem_drop, show off + 2 + i * 2 = off + (i + 1) * 2 by omega]
    simpa [Nat.add_comm 1 i] using x0
  · rw [List.getElem_drop, show off + 2 + i * 2 + 1 = off + (i + 1) * 2 + 1 by omega]
    simpa [Nat.add_comm 1 i] using x1
set_option maxHeartbeats 8000000 in
set_option maxRecDepth 100000 in
theorem refCall_any (n : Byts8) (A : List Ty) (v : Value) (w : World) (hA : TyR w v A) (hcap : ∀ ao n cap, v = .slice ao n cap → n ≤ cap) :
    Calls Try.prog 6 #[.string ⟨n.toArray⟩, v] w fun e w' => e = .returned (.tuple #[.agg #[.int .i64 ((callR n A).1).1, .int .i64 ((callR n A).1).2], .int .i64 (callR n A).2.1, .int .i64 (callR n A).2.2]) ∧ Ext w w' := by
  have HA := hide hA
  obtain ⟨vo, vcap, rfl, hlen, -⟩ := hA
  have HCAP := hide (hcap _ _ _ rfl)
  clear hcap
  have HMA := hide refMay_any
  have HVA := hide refValue_any
  have HOF := hide (refOf_any n)
  have HOE := hide (ofIn_err tys n)
  have HNB := hide (refNumber13_any n)
  have H0 : Hid (Reg w [] w.heap.size (w.alloc (.cells #[.int .i64 0, .int .i64 0] 25))) :=
    ⟨(Ext.refl w).alloc _, fun p hp => absurd hp (by simp), ⟨_, _, Blk.at rfl⟩, by omega, fun p hp => absurd hp (by simp)⟩
  obtain ⟨U, hU⟩ : ∃ U, callR n A = U := ⟨_, rfl⟩
  rw [hU]
  unfold callR at hU
  have HU := hide hU
  clear hU
  go_enter Try.func6, Try.ntmps6
  go_wp2
  generalize w.alloc (.cells #[.int .i64 0, .int .i64 0] 25) = w1 at H0 ⊢
  go_loopw [8] (fun i wr => ∃ k : Nat, k ≤ A.length ∧ i = .int .i64 (k : Int) ∧ Hid ((A.take k).all mayP = true) ∧ Hid (Reg w [] w.heap.size wr)) (fun i _ => A.length - (intOf i).toNat)
  case atStart => exact ⟨0, by omega, rfl, rfl, H0⟩
  case round =>
    obtain ⟨k, hk, rfl, hall, hr⟩ := hrel
    clear H0
    by_cases hlt : k < A.length
    · obtain ⟨b, off, he, c0, c1⟩ := ((unhide HA).ext (unhide hr).1).get k hlt
      subst he
      have hall2 : (A.take (k + 1)).all mayP = ((A.take k).all mayP && mayP A[k]) := by
        rw [List.take_succ_eq_append_getElem hlt, List.all_append]
        simp only [List.all_cons, List.all_nil, Bool.and_true]
      rw [unhide hall, Bool.true_and] at hall2
      have hno : mayP A[k] = false → A.all mayP = false := by
        intro h
        rw [Bool.eq_false_iff]
        intro h2
        rw [List.all_eq_true.1 h2 _ (List.getElem_mem hlt)] at h
        cases h
      have hkl : (k : Int) < (A.length : Int) := by omega
      obtain ⟨p, hp⟩ : ∃ p, p = A[k] := ⟨_, rfl⟩
      rw [← hp] at c0 c1 hall2 hno
      have HALL := hide hall2
      have HNO := hide hno
      clear hp hall2 hno hall
      have HMx := hide (unhide HMA p)
      cases hm : mayP p with
      | false =>
        have hu := unhide HU
        rw [if_pos (unhide HNO hm)] at hu
        subst hu
        rw [hm] at HMx
        go_wp2_with fail
        refine (unhide HMx _).mono ?_
        rintro e w2 ⟨rfl, hx2⟩
        have H2 := hide (Reg.ext hx2 (unhide hr))
        clear hx2 hr c0 c1 HU
        obtain ⟨xx, yy, rr0, rr1, zz0, zz1⟩ := (unhide H2).res
        have HFF := hide ((unhide H2).fin (.int .i64 0) (.int .i64 0))
        go_wp2
        obtain ⟨ss0, ss1⟩ := (unhide HFF).1.two
        exact bodyPost_ret (v := .tuple #[.agg #[.int .i64 (noT).1, .int .i64 (noT).2], .int .i64 (0), .int .i64 2]) (by simp [results, Try.results6, go_sem, ss0, ss1, noT]) rfl ⟨rfl, (unhide HFF).2⟩
      | true =>
        rw [hm] at HMx HALL
        go_wp2_with fail
        refine (unhide HMx _).mono ?_
        rintro e w2 ⟨rfl, hx2⟩
        have H2 := hide (Reg.ext hx2 (unhide hr))
        clear hx2 hr c0 c1
        go_wp2
        go_roundw
        case rel => exact ⟨k + 1, by omega, by go_num, HALL, H2⟩
        case measure => simp [intOf]; omega
    · obtain rfl : k = A.length := by omega
      have hall2 := unhide hall
      rw [List.take_length] at hall2
      have hu := unhide HU
      rw [if_neg (by rw [hall2]; decide)] at hu
      have HU2 := hide hu
      have HAM := hide hall2
      clear hu HU hall hall2
      have H1 : Hid (Reg w [(wr.heap.size, noT)] w.heap.size (wr.alloc (.cells #[.int .i64 0, .int .i64 0] 25))) := (unhide hr).add noT
      clear hr
      go_upto_region 8 with fail
      generalize wr.alloc (.cells #[.int .i64 0, .int .i64 0] 25) = w2 at H1 ⊢
      generalize wr.heap.size = r9 at *
      go_wp2_with fail
      refine (unhide HOF _).mono ?_
      rintro e w3 ⟨rfl, hx3⟩
      have HU3 := HU2
      have HOT := hide (of_may n)
      generalize ofP n = Q at *
      obtain ⟨tt, er⟩ := Q
      dsimp only at HU3 HOT ⊢
      have H3 := hide ((Reg.ext hx3 (unhide H1)).add tt)
      clear hx3 H1 HU2 HOF
      go_upto_region 9 with fail
      generalize w3.alloc (.cells #[.int .i64 (tt).1, .int .i64 (tt).2] 25) = w4 at H3 ⊢
      generalize w3.heap.size = r10 at *
      obtain ⟨eb, heb⟩ : ∃ eb, (er == 0) = eb := ⟨_, rfl⟩
      rw [heb]
      have HEB := hide heb
      clear heb
      go_cut [43] from 39 to 43 (fun v wc => ∃ w5, w5 = wc ∧ v = .bool (eb && valuP tt) ∧ Hid (Reg w [(r10, tt), (r9, noT)] w.heap.size wc))
      case first =>
        obtain ⟨c0, c1⟩ := (unhide H3).at r10 tt (by simp)
        cases eb with
        | false =>
          go_wp2
          go_meet
          exact ⟨_, rfl, rfl, H3⟩
        | true =>
          go_wp2_with fail
          refine (unhide HVA tt _).mono ?_
          rintro e w5 ⟨rfl, hx5⟩
          have H5 := hide (Reg.ext hx5 (unhide H3))
          clear hx5 c0 c1
          go_wp2
          go_meet
          exact ⟨_, rfl, rfl, H5⟩
      case rest =>
      obtain ⟨w5, rfl, rfl, H5⟩ := hcut
      clear H3
      cases hok : (eb && valuP tt) with
      | true =>
        have her : er = 0 ∧ valuP tt = true := by
          have h9 := unhide HEB
          cases eb with
          | false => cases hok
          | true => exact ⟨by simpa using h9, by simpa using hok⟩
        have hu := unhide HU3
        rw [if_pos her] at hu
        have HU4 := hide hu
        have htm := may_size (unhide HOT her.1)
        have htv := valu_size (unhide HOT her.1) her.2
        clear hu HU3 HOT HEB her HNB
        go_wp2
        go_loopw [12, 13] (fun sv i wr => ∃ k : Nat, k ≤ A.length ∧ sv = .int .i64 (sumS (A.take k)) ∧ i = .int .i64 (k : Int) ∧ Hid ((A.take k).all valuP = true) ∧ Hid (Reg w [(r10, tt), (r9, noT)] w.heap.size wr)) (fun _ i _ => A.length - (intOf i).toNat)
        case atStart => exact ⟨0, by omega, rfl, rfl, rfl, H5⟩
        case round =>
          obtain ⟨k, hk, rfl, rfl, hall, hr⟩ := hrel
          clear H5
          by_cases hlt : k < A.length
          · obtain ⟨b, off, he, c0, c1⟩ := ((unhide HA).ext (unhide hr).1).get k hlt
            subst he
            have hall2 : (A.take (k + 1)).all valuP = ((A.take k).all valuP && valuP A[k]) := by
              rw [List.take_succ_eq_append_getElem hlt, List.all_append]
              simp only [List.all_cons, List.all_nil, Bool.and_true]
            rw [unhide hall, Bool.true_and] at hall2
            have hno : valuP A[k] = false → A.all valuP = false := by
              intro h
              rw [Bool.eq_false_iff]
              intro h2
              rw [List.all_eq_true.1 h2 _ (List.getElem_mem hlt)] at h
              cases h
            have hst := sumS_take A k hlt
            have hbd := sumS_bound (A.take k) (all_take (unhide HAM) k)
            have hlt3 : (A.take k).length ≤ 1000 := by simp; omega
            have hmz := may_size (List.all_eq_true.1 (unhide HAM) _ (List.getElem_mem hlt))
            have hkl : (k : Int) < (A.length : Int) := by omega
            obtain ⟨p, hp⟩ : ∃ p, p = A[k] := ⟨_, rfl⟩
            rw [← hp] at c0 c1 hall2 hno hst hmz
            have HCE := hide (fun wx (hx : Ext w wx) => ((unhide HA).ext hx).get k hlt)
            rw [← hp] at HCE
            have HALL := hide hall2
            have HNO := hide hno
            have HST := hide hst
            clear hp hall2 hno hall hst
            generalize sumS (A.take k) = sm at *
            have HVx := hide (unhide HVA p)
            cases hv : valuP p with
            | false =>
              have hu := unhide HU4
              rw [unhide HNO hv, Bool.false_and, if_neg (by decide)] at hu
              subst hu
              rw [hv] at HVx
              go_wp2_with fail
              refine (unhide HVx _).mono ?_
              rintro e w7 ⟨rfl, hx7⟩
              have H7 := hide (Reg.ext hx7 (unhide hr))
              clear hx7 hr c0 c1 HU4
              obtain ⟨c0, c1⟩ := (unhide H7).at r9 noT (by simp)
              have c0' : w7.cell? ⟨r9, 0, none⟩ = some (.int .i64 0) := c0
              have c1' : w7.cell? ⟨r9, 1, none⟩ = some (.int .i64 0) := c1
              clear c0 c1
              obtain ⟨xx, yy, rr0, rr1, zz0, zz1⟩ := (unhide H7).res
              have HFF := hide ((unhide H7).fin (.int .i64 0) (.int .i64 0))
              go_wp2
              obtain ⟨ss0, ss1⟩ := (unhide HFF).1.two
              exact bodyPost_ret (v := .tuple #[.agg #[.int .i64 (noT).1, .int .i64 (noT).2], .int .i64 (0), .int .i64 230]) (by simp [results, Try.results6, go_sem, ss0, ss1, noT]) rfl ⟨rfl, (unhide HFF).2⟩
            | true =>
              rw [hv] at HVx HALL
              go_wp2_with fail
              refine (unhide HVx _).mono ?_
              rintro e w7 ⟨rfl, hx7⟩
              have H7 := hide (Reg.ext hx7 (unhide hr))
              clear hx7 hr c0 c1
              obtain ⟨b', off', he', c0, c1⟩ := unhide HCE _ (unhide H7).1
              cases he'
              have hw : IntKind.i64.wrap (sm + p.2) = sm + p.2 := by simp [IntKind.wrap, IntKind.bits, IntKind.signed]; omega
              go_wp2
              go_roundw
              case rel => exact ⟨k + 1, by omega, by rw [unhide HST], by go_num, HALL, H7⟩
              case measure => simp [intOf]; omega
          · obtain rfl : k = A.length := by omega
            have hall2 := unhide hall
            rw [List.take_length] at hall2
            rw [List.take_length]
            have hu := unhide HU4
            rw [hall2, Bool.true_and] at hu
            have hsb := sumS_bound A (unhide HAM)
            have HU5 := hide hu
            clear hu HU4 hall hall2
            go_upto_region 17 with fail
            obtain ⟨c0, c1⟩ := (unhide hr).at r10 tt (by simp)
            go_cut [14] from 63 to 85 (fun gv wc => ∃ w7, w7 = wc ∧ gv = .bool (g17 tt A) ∧ Hid (Ext wr wc))
            case first =>
              have HXD := hide (fun m => (Ext.refl wr).drewN m)
              by_cases h1 : A.length = 1
              · obtain ⟨b, off, he, d0, d1⟩ := ((unhide HA).ext (unhide hr).1).get 0 (by omega)
                subst he
                simp only [Nat.zero_mul, Nat.add_zero] at d0 d1
                have hg : A.getD 0 noT = A[0]'(by omega) := by simp [h1]
                have HG : Hid (g17 tt A = (tt.2 == 1 || (A[0]'(by omega)).2 == 1 || decide (tt.2 ≤ (A[0]'(by omega)).2))) := by
                  show _ = _
                  unfold g17
                  rw [hg, decide_eq_true h1, Bool.true_and]
                have q1 : ((A.length : Int) == 1) = true := by simp [h1]
                have hl0 : (0 : Int) < (A.length : Int) := by omega
                generalize A[0]'(by omega) = a0 at *
                clear hg h1
                cases qs : (tt.2 == 1) with
                | true =>
                  have hgg : g17 tt A = true := by rw [unhide HG, qs]; rfl
                  as_aux_lemma =>
                    go_quiet (fail)
                    go_wp2
                    go_meet
                    exact ⟨_, rfl, by rw [hgg], unhide HXD _⟩
                | false =>
                  cases qa : (a0.2 == 1) with
                  | true =>
                    have hgg : g17 tt A = true := by rw [unhide HG, qs, qa]; rfl
                    as_aux_lemma =>
                      go_quiet (fail)
                      go_wp2
                      go_meet
                      exact ⟨_, rfl, by rw [hgg], unhide HXD _⟩
                  | false =>
                    have hgg : g17 tt A = decide (tt.2 ≤ a0.2) := by rw [unhide HG, qs, qa]; rfl
                    as_aux_lemma =>
                      go_quiet (fail)
                      go_wp2
                      go_meet
                      exact ⟨_, rfl, by rw [hgg], unhide HXD _⟩
              · have q1 : ((A.length : Int) == 1) = false := by rw [beq_eq_false_iff_ne]; omega
                have hgg : g17 tt A = false := by unfold g17; rw [decide_eq_false h1]; rfl
                clear h1
                as_aux_lemma =>
                  go_quiet (fail)
                  go_wp2
                  go_meet
                  exact ⟨_, rfl, by rw [hgg], unhide HXD _⟩
            case rest =>
            obtain ⟨w7, rfl, rfl, hxc⟩ := hcut
            have H7 := hide (Reg.ext (unhide hxc) (unhide hr))
            clear hxc hr c0 c1
            have hu := unhide HU5
            rw [good_eq] at hu
            have HU6 := hide hu
            clear hu HU5
            generalize g17 tt A = g at *
            go_upto_region 18 with fail
            obtain ⟨c0, c1⟩ := (unhide H7).at r10 tt (by simp)
            go_cut [14] from 86 to 114 (fun gv wc => ∃ w8, w8 = wc ∧ gv = .bool (g || (decide (1 < A.length) && decide (1 < tt.2) && decide (tt.2 ≤ sumS A) && decide (sumS A - lastS A < tt.2))) ∧ Hid (Ext w7 wc))
            case first =>
              have HXD := hide (fun m => (Ext.refl w7).drewN m)
              cases g with
              | true =>
                as_aux_lemma =>
                  go_quiet (fail)
                  go_wp2
                  go_meet
                  exact ⟨_, rfl, rfl, unhide HXD _⟩
              | false =>
                by_cases hl : 1 < A.length
                · have hl2 : (1 : Int) < (A.length : Int) := by omega
                  by_cases ht : 1 < tt.2
                  · by_cases hs : tt.2 ≤ sumS A
                    · obtain ⟨m, hm⟩ : ∃ m, A.length = m + 1 := ⟨A.length - 1, by omega⟩
                      obtain ⟨b, off, he, d0, d1⟩ := ((unhide HA).ext (unhide H7).1).get m (by omega)
                      subst he
                      have hla : lastS A = (A[m]'(by omega)).2 := by
                        have h := lastS_take A m (by omega)
                        rw [List.take_of_length_le (by omega)] at h
                        exact h
                      have hms := may_size (List.all_eq_true.1 (unhide HAM) _ (List.getElem_mem (show m < A.length by omega)))
                      have hgg : (false || (decide (1 < A.length) && decide (1 < tt.2) && decide (tt.2 ≤ sumS A) && decide (sumS A - lastS A < tt.2))) = decide (sumS A - (A[m]'(by omega)).2 < tt.2) := by
                        rw [hla, decide_eq_true hl, decide_eq_true ht, decide_eq_true hs]
                        rfl
                      have HGG := hide hgg
                      clear hgg hla
                      generalize A[m]'(by omega) = am at *
                      generalize sumS A = sm at *
                      have hsub : (A.length : Int) - 1 = (m : Int) := by omega
                      have hml : (m : Int) < (A.length : Int) := by omega
                      have hw2 : IntKind.i64.wrap (sm - am.2) = sm - am.2 := by simp [IntKind.wrap, IntKind.bits, IntKind.signed]; omega
                      have hw3 : IntKind.i64.wrap ((A.length : Int) - 1) = (m : Int) := by rw [hsub]; simp [IntKind.wrap, IntKind.bits, IntKind.signed]; omega
                      have HM9 := hide hm
                      clear hm
                      as_aux_lemma =>
                        go_quiet (fail)
                        go_wp2
                        go_meet
                        exact ⟨_, rfl, by rw [unhide HGG], unhide HXD _⟩
                    · have hgg : (false || (decide (1 < A.length) && decide (1 < tt.2) && decide (tt.2 ≤ sumS A) && decide (sumS A - lastS A < tt.2))) = false := by
                        rw [decide_eq_false hs]
                        simp
                      have HGG := hide hgg
                      clear hgg
                      generalize sumS A = sm at *
                      as_aux_lemma =>
                        go_quiet (fail)
                        go_wp2
                        go_meet
                        exact ⟨_, rfl, by rw [unhide HGG], unhide HXD _⟩
                  · have hgg : (false || (decide (1 < A.length) && decide (1 < tt.2) && decide (tt.2 ≤ sumS A) && decide (sumS A - lastS A < tt.2))) = false := by
                      rw [decide_eq_false ht]
                      simp
                    have HGG := hide hgg
                    clear hgg
                    as_aux_lemma =>
                      go_quiet (fail)
                      go_wp2
                      go_meet
                      exact ⟨_, rfl, by rw [unhide HGG], unhide HXD _⟩
                · have hgg : (false || (decide (1 < A.length) && decide (1 < tt.2) && decide (tt.2 ≤ sumS A) && decide (sumS A - lastS A < tt.2))) = false := by
                    rw [decide_eq_false hl]
                    simp
                  have HGG := hide hgg
                  have hl2 : ¬ (1 : Int) < (A.length : Int) := by omega
                  clear hgg
                  as_aux_lemma =>
                    go_quiet (fail)
                    go_wp2
                    go_meet
                    exact ⟨_, rfl, by rw [unhide HGG], unhide HXD _⟩
            case rest =>
            obtain ⟨w8, rfl, rfl, hxc⟩ := hcut
            have H8 := hide (Reg.ext (unhide hxc) (unhide H7))
            clear hxc H7 c0 c1
            generalize (g || (decide (1 < A.length) && decide (1 < tt.2) && decide (tt.2 ≤ sumS A) && decide (sumS A - lastS A < tt.2))) = gg at *
            obtain ⟨d0, d1⟩ := (unhide H8).at r9 noT (by simp)
            have d0' : w8.cell? ⟨r9, 0, none⟩ = some (.int .i64 0) := d0
            have d1' : w8.cell? ⟨r9, 1, none⟩ = some (.int .i64 0) := d1
            clear d0 d1
            cases gg with
            | true =>
              have hu := unhide HU6
              rw [if_pos rfl] at hu
              subst hu
              obtain ⟨cc0, kk0⟩ := (unhide H8).at (r10) (tt) (by simp)
              obtain ⟨xx, yy, rr0, rr1, zz0, zz1⟩ := (unhide H8).res
              have HFF := hide ((unhide H8).fin (.int .i64 (tt).1) (.int .i64 (tt).2))
              go_wp2
              obtain ⟨ss0, ss1⟩ := (unhide HFF).1.two
              exact bodyPost_ret (v := .tuple #[.agg #[.int .i64 (tt).1, .int .i64 (tt).2], .int .i64 (23), .int .i64 0]) (by simp [results, Try.results6, go_sem, ss0, ss1, noT]) rfl ⟨rfl, (unhide HFF).2⟩
            | false =>
              have hu := unhide HU6
              rw [if_neg (by decide)] at hu
              subst hu
              obtain ⟨xx, yy, rr0, rr1, zz0, zz1⟩ := (unhide H8).res
              have HFF := hide ((unhide H8).fin (.int .i64 0) (.int .i64 0))
              go_wp2
              obtain ⟨ss0, ss1⟩ := (unhide HFF).1.two
              exact bodyPost_ret (v := .tuple #[.agg #[.int .i64 (noT).1, .int .i64 (noT).2], .int .i64 (0), .int .i64 230]) (by simp [results, Try.results6, go_sem, ss0, ss1, noT]) rfl ⟨rfl, (unhide HFF).2⟩
      | false =>
        have hcond : ¬ (er = 0 ∧ valuP tt = true) := by
          intro h
          have h9 := unhide HEB
          rw [h.1] at h9
          rw [← h9, h.2] at hok
          cases hok
        have hu := unhide HU3
        rw [if_neg hcond] at hu
        have HU4 := hide hu
        clear hu hcond hok HU3 HOT
        go_wp2_with fail
        refine (unhide HNB _).mono ?_
        rintro e w6 ⟨rfl, hx6⟩
        have H6 := hide (Reg.ext hx6 (unhide H5))
        clear hx6 H5 HNB
        generalize numT n = f at *
        obtain ⟨c0, c1⟩ := (unhide H6).at r9 noT (by simp)
        by_cases hf : f = 0
        · subst hf
          have hu := unhide HU4
          rw [if_pos rfl] at hu
          subst hu
          clear HU4
          have c0' : w6.cell? ⟨r9, 0, none⟩ = some (.int .i64 0) := c0
          have c1' : w6.cell? ⟨r9, 1, none⟩ = some (.int .i64 0) := c1
          clear c0 c1
          obtain ⟨xx, yy, rr0, rr1, zz0, zz1⟩ := (unhide H6).res
          have HFF := hide ((unhide H6).fin (.int .i64 0) (.int .i64 0))
          go_wp2
          obtain ⟨ss0, ss1⟩ := (unhide HFF).1.two
          exact bodyPost_ret (v := .tuple #[.agg #[.int .i64 (noT).1, .int .i64 (noT).2], .int .i64 (0), .int .i64 4]) (by simp [results, Try.results6, go_sem, ss0, ss1, noT]) rfl ⟨rfl, (unhide HFF).2⟩
        · have hu := unhide HU4
          rw [if_neg hf] at hu
          unfold fnR at hu
          have HU5 := hide hu
          have qf : (f == 0) = false := by simp [hf]
          clear hu HU4 hf
          have c0' : w6.cell? ⟨r9, 0, none⟩ = some (.int .i64 0) := c0
          have c1' : w6.cell? ⟨r9, 1, none⟩ = some (.int .i64 0) := c1
          clear c0 c1
          by_cases hl0 : A.length = 0
          · have hu := unhide HU5
            rw [if_pos hl0] at hu
            subst hu
            have q0 : ((A.length : Int) == 0) = true := by simp [hl0]
            clear HU5 hl0
            obtain ⟨xx, yy, rr0, rr1, zz0, zz1⟩ := (unhide H6).res
            have HFF := hide ((unhide H6).fin (.int .i64 0) (.int .i64 0))
            go_wp2
            obtain ⟨ss0, ss1⟩ := (unhide HFF).1.two
            exact bodyPost_ret (v := .tuple #[.agg #[.int .i64 (noT).1, .int .i64 (noT).2], .int .i64 (0), .int .i64 230]) (by simp [results, Try.results6, go_sem, ss0, ss1, noT]) rfl ⟨rfl, (unhide HFF).2⟩
          · have hu := unhide HU5
            rw [if_neg hl0] at hu
            have HU6 := hide hu
            have q0 : ((A.length : Int) == 0) = false := by rw [beq_eq_false_iff_ne]; omega
            clear HU5
            have hcap := unhide HCAP
            have hbo : ∃ b off, vo = some ⟨b, off, none⟩ ∧ ∀ wx, Ext w wx → ∀ i (h : i < A.length), wx.cell? ⟨b, off + i * 2, none⟩ = some (.int .i64 (A.getD i noT).1) ∧ wx.cell? ⟨b, off + i * 2 + 1, none⟩ = some (.int .i64 (A.getD i noT).2) := by
              obtain ⟨b, off, he, -⟩ := (unhide HA).get 0 (by omega)
              refine ⟨b, off, he, fun wx hx i hi => ?_⟩
              obtain ⟨b', off', he', x0, x1⟩ := ((unhide HA).ext hx).get i hi
              rw [he] at he'
              cases he'
              have hgi : A.getD i noT = A[i] := by simp [hi]
              rw [hgi]
              exact ⟨x0, x1⟩
            obtain ⟨b, off, he, HCA0⟩ := hbo
            subst he
            have HCX := hide HCA0
            clear HCA0
            obtain ⟨a0, ha0⟩ : ∃ a0, A.getD 0 noT = a0 := ⟨_, rfl⟩
            obtain ⟨a1, ha1⟩ : ∃ a1, A.getD 1 noT = a1 := ⟨_, rfl⟩
            obtain ⟨a2, ha2⟩ : ∃ a2, A.getD 2 noT = a2 := ⟨_, rfl⟩
            obtain ⟨x0, x1⟩ := unhide HCX _ (unhide H6).1 0 (by omega)
            rw [ha0] at x0 x1
            simp only [Nat.zero_mul, Nat.add_zero] at x0 x1
            rw [ha0, ha1] at hu
            have HU7 := hide hu
            have HA0 := hide ha0
            have HA1 := hide ha1
            have HA2 := hide ha2
            clear hu HU6 ha0 ha1 ha2 c0' c1'
            have H7 := hide ((unhide H6).add a0)
            have hl0' : (0 : Int) < (A.length : Int) := by omega
            clear H6
            go_upto_region 28 with fail
            generalize w6.alloc (.cells #[.int .i64 (a0).1, .int .i64 (a0).2] 25) = w7 at H7 ⊢
            generalize w6.heap.size = r16 at *
            clear x0 x1
            obtain ⟨x0, x1⟩ := (unhide H7).at r16 a0 (by simp)
            go_wp2_with fail
            refine (refFloats_any _ A a0.2 _ ((unhide HA).ext (unhide H7).1)).mono ?_
            rintro e w8 ⟨rfl, hw8⟩
            subst hw8
            obtain ⟨sm, hsm⟩ : ∃ sm, fltB A a0.2 = sm := ⟨_, rfl⟩
            rw [hsm]
            have HSM := hide hsm
            clear hsm
            have H8 : Hid (Reg w [(w8.heap.size, oneT), (r16, a0), (r10, tt), (r9, noT)] w.heap.size (w8.alloc (.cells #[.int .i64 1, .int .i64 1] 25))) := (unhide H7).add oneT
            clear H7 x0 x1
            go_upto_region 30 with fail
            generalize w8.alloc (.cells #[.int .i64 1, .int .i64 1] 25) = w9 at H8 ⊢
            generalize w8.heap.size = r18 at *
            obtain ⟨x0, x1⟩ := (unhide H8).at r16 a0 (by simp)
            obtain ⟨y0', y1'⟩ := (unhide H8).at r18 oneT (by simp)
            have y0 : w9.cell? ⟨r18, 0, none⟩ = some (.int .i64 1) := y0'
            have y1 : w9.cell? ⟨r18, 1, none⟩ = some (.int .i64 1) := y1'
            clear y0' y1'
            have HCA : Hid (∀ i (h : i < A.length), w9.cell? ⟨b, off + i * 2, none⟩ = some (.int .i64 (A.getD i noT).1) ∧ w9.cell? ⟨b, off + i * 2 + 1, none⟩ = some (.int .i64 (A.getD i noT).2)) := unhide HCX _ (unhide H8).1
            have HTY := hide ((unhide HA).ext (unhide H8).1)
            have HC32 : Hid (c32 f A = (decide (f = 16) && decide (A.length = 2) && (sm || (eqT a0 oneT && (a1.1 == 1))))) := by
              show _ = _
              unfold c32
              rw [unhide HA0, unhide HA1, unhide HSM]
            have HC34 : Hid (c34 f A = ((decide (f = 17) && decide (A.length = 3) && (sm || (fltB (A.take 2) a0.2 && eqT a2 oneT))) || (decide (f = 18) && decide (A.length = 3) && (sm || (a0.1 == 1 && eqT a1 oneT && eqT a2 oneT))))) := by
              show _ = _
              unfold c34
              rw [unhide HA0, unhide HA1, unhide HA2, unhide HSM]
            have HC36 : Hid (c36 f A = ((decide (f = 19) && decide (A.length = 2) && sm) || (decide (f = 20) && decide (A.length = 1) && sm))) := by
              show _ = _
              unfold c36
              rw [unhide HA0, unhide HSM]
            have HC38 : Hid (c38 f A = (decide (f = 21) && decide (A.length = 2) && fltB A 3)) := rfl
            have HC40 : Hid (c40 f A = (decide (f = 22) && decide (A.length = 2) && a0.1 == 4 && fltB (A.drop 1) 2)) := by
              show _ = _
              unfold c40
              rw [unhide HA0]
            have HT1 := hide (((unhide HA).ext (unhide H8).1).take' 1 (by omega))
            go_upto_region 30 with fail
            go_cut [183] from 135 to 183 (fun gv wc => ∃ w10, w10 = wc ∧ gv = .bool (c30 f A) ∧ Hid (Ext w9 wc))
            case first =>
              have HXD := hide (fun m => (Ext.refl w9).drewN m)
              by_cases f11 : f ≤ 11
              · have f12 : ¬ 12 ≤ f := by omega
                have f15 : (f == 15) = false := by rw [beq_eq_false_iff_ne]; omega
                by_cases hl : A.length = 1
                · have q1 : ((A.length : Int) == 1) = true := by simp [hl]
                  have HL : Hid (A.length = 1) := hl
                  have hl9 : 1 ≤ A.length := by omega
                  clear hl
                  have q2 : ((A.length : Int) == 2) = false := by simp [unhide HL]
                  cases sm with
                  | true =>
                    have hgg : c30 f A = true := by
                      unfold c30
                      rw [unhide HA0, unhide HSM, decide_eq_true f11, decide_eq_true (unhide HL)]
                      rfl
                    have HGG := hide hgg
                    clear hgg
                    as_aux_lemma =>
                      go_quiet (fail)
                      go_wp2
                      go_meet
                      exact ⟨_, rfl, by rw [unhide HGG], unhide HXD _⟩
                  | false =>
                    have hgg : c30 f A = false := by
                      unfold c30
                      rw [unhide HA0, unhide HSM, decide_eq_false f12, decide_eq_false (show ¬ f = 15 by omega)]
                      simp
                    have HGG := hide hgg
                    clear hgg
                    as_aux_lemma =>
                      go_quiet (fail)
                      go_wp2
                      go_meet
                      exact ⟨_, rfl, by rw [unhide HGG], unhide HXD _⟩
                · have q1 : ((A.length : Int) == 1) = false := by rw [beq_eq_false_iff_ne]; omega
                  have HL : Hid (¬ A.length = 1) := hl
                  clear hl
                  have hgg : c30 f A = false := by
                    unfold c30
                    rw [decide_eq_false (unhide HL), decide_eq_false f12, decide_eq_false (show ¬ f = 15 by omega)]
                    simp
                  have HGG := hide hgg
                  clear hgg
                  as_aux_lemma =>
                    go_quiet (fail)
                    go_wp2
                    go_meet
                    exact ⟨_, rfl, by rw [unhide HGG], unhide HXD _⟩
              · have f12 : 12 ≤ f := by omega
                by_cases f14 : f ≤ 14
                · have f15 : (f == 15) = false := by rw [beq_eq_false_iff_ne]; omega
                  by_cases hl : A.length = 2
                  · have q2 : ((A.length : Int) == 2) = true := by simp [hl]
                    have HL : Hid (A.length = 2) := hl
                    have hl9 : 2 ≤ A.length := by omega
                    clear hl
                    cases sm with
                    | true =>
                      have hgg : c30 f A = true := by
                        unfold c30
                        rw [unhide HA0, unhide HSM, decide_eq_true f12, decide_eq_true f14, decide_eq_true (unhide HL)]
                        simp
                      have HGG := hide hgg
                      clear hgg
                      as_aux_lemma =>
                        go_quiet (fail)
                        go_wp2
                        go_meet
                        exact ⟨_, rfl, by rw [unhide HGG], unhide HXD _⟩
                    | false =>
                      have HFL := hide (fun (m : Nat) => refFloats_any (.slice (some ⟨b, off, none⟩) 1 vcap) (A.take 1) a0.2 (w9.drewN m) ((unhide HT1).ext ((Ext.refl w9).drewN m)))
                      have hc1 : (1 : Int) ≤ (vcap : Int) := by omega
                      cases hs1 : fltB (A.take 1) a0.2 with
                      | false =>
                        rw [hs1] at HFL
                        have hgg : c30 f A = false := by
                          unfold c30
                          rw [unhide HA0, unhide HSM, hs1, decide_eq_false f11, decide_eq_false (show ¬ f = 15 by omega)]
                          simp
                        have HGG := hide hgg
                        clear hgg
                        as_aux_lemma =>
                          go_quiet (first | (go_at_call 18; refine Calls.quiet_of_same (unhide HFL _)))
                          go_wp2
                          go_meet
                          exact ⟨_, rfl, by rw [unhide HGG], unhide HXD _⟩
                      | true =>
                        rw [hs1] at HFL
                        obtain ⟨e1, g1⟩ := unhide HCA 1 (by omega)
                        rw [unhide HA1] at e1 g1
                        have e1' : w9.cell? ⟨b, off + 2, none⟩ = some (.int .i64 a1.1) := e1
                        have g1' : w9.cell? ⟨b, off + 3, none⟩ = some (.int .i64 a1.2) := g1
                        clear e1 g1
                        have hl1' : (1 : Int) < (A.length : Int) := by omega
                        cases ebq : (a1.1 == 1) with
                        | false =>
                          have hgg : c30 f A = false := by
                            unfold c30
                            rw [unhide HA0, unhide HA1, unhide HSM, decide_eq_false f11, decide_eq_false (show ¬ f = 15 by omega)]
                            simp [eqT, oneT, ebq]
                          have HGG := hide hgg
                          clear hgg
                          as_aux_lemma =>
                            go_quiet (first | (go_at_call 18; refine Calls.quiet_of_same (unhide HFL _)))
                            go_wp2
                            go_meet
                            exact ⟨_, rfl, by rw [unhide HGG], unhide HXD _⟩
                        | true =>
                          cases esq : (a1.2 == 1) with
                          | false =>
                            have hgg : c30 f A = false := by
                              unfold c30
                              rw [unhide HA0, unhide HA1, unhide HSM, decide_eq_false f11, decide_eq_false (show ¬ f = 15 by omega)]
                              simp [eqT, oneT, esq]
                            have HGG := hide hgg
                            clear hgg
                            as_aux_lemma =>
                              go_quiet (first | (go_at_call 18; refine Calls.quiet_of_same (unhide HFL _)))
                              go_wp2
                              go_meet
                              exact ⟨_, rfl, by rw [unhide HGG], unhide HXD _⟩
                          | true =>
                            have hgg : c30 f A = true := by
                              unfold c30
                              rw [unhide HA0, unhide HA1, unhide HSM, hs1, decide_eq_true f12, decide_eq_true f14, decide_eq_true (unhide HL)]
                              simp [eqT, oneT, ebq, esq]
                            have HGG := hide hgg
                            clear hgg
                            as_aux_lemma =>
                              go_quiet (first | (go_at_call 18; refine Calls.quiet_of_same (unhide HFL _)))
                              go_wp2
                              go_meet
                              exact ⟨_, rfl, by rw [unhide HGG], unhide HXD _⟩
                  · have q2 : ((A.length : Int) == 2) = false := by rw [beq_eq_false_iff_ne]; omega
                    have HL : Hid (¬ A.length = 2) := hl
                    clear hl
                    have hgg : c30 f A = false := by
                      unfold c30
                      rw [decide_eq_false f11, decide_eq_false (unhide HL), decide_eq_false (show ¬ f = 15 by omega)]
                      simp
                    have HGG := hide hgg
                    clear hgg
                    as_aux_lemma =>
                      go_quiet (fail)
                      go_wp2
                      go_meet
                      exact ⟨_, rfl, by rw [unhide HGG], unhide HXD _⟩
                · by_cases h15 : f = 15
                  · have f15 : (f == 15) = true := by simp [h15]
                    by_cases hl : A.length = 2
                    · have q2 : ((A.length : Int) == 2) = true := by simp [hl]
                      have HL : Hid (A.length = 2) := hl
                      have hl9 : 2 ≤ A.length := by omega
                      clear hl
                      have HS : Hid (c30 f A = sm) := by
                        show _ = _
                        unfold c30
                        rw [unhide HA0, unhide HSM, decide_eq_false f11, decide_eq_false f14, decide_eq_true h15, decide_eq_true (unhide HL)]
                        simp
                      clear h15
                      have hgg : c30 f A = sm := by
                        exact unhide HS
                      have HGG := hide hgg
                      clear hgg
                      as_aux_lemma =>
                        go_quiet (fail)
                        go_wp2
                        go_meet
                        exact ⟨_, rfl, by rw [unhide HGG], unhide HXD _⟩
                    · have q2 : ((A.length : Int) == 2) = false := by rw [beq_eq_false_iff_ne]; omega
                      have HL : Hid (¬ A.length = 2) := hl
                      clear hl
                      have HS : Hid (c30 f A = false) := by
                        show _ = _
                        unfold c30
                        rw [decide_eq_false f11, decide_eq_false f14, decide_eq_false (unhide HL)]
                        simp
                      clear h15
                      have hgg : c30 f A = false := by
                        exact unhide HS
                      have HGG := hide hgg
                      clear hgg
                      as_aux_lemma =>
                        go_quiet (fail)
                        go_wp2
                        go_meet
                        exact ⟨_, rfl, by rw [unhide HGG], unhide HXD _⟩
                  · have f15 : (f == 15) = false := by rw [beq_eq_false_iff_ne]; omega
                    have hgg : c30 f A = false := by
                      unfold c30
                      rw [decide_eq_false f11, decide_eq_false f14, decide_eq_false h15]
                      simp
                    have HGG := hide hgg
                    clear hgg
                    as_aux_lemma =>
                      go_quiet (fail)
                      go_wp2
                      go_meet
                      exact ⟨_, rfl, by rw [unhide HGG], unhide HXD _⟩
            case rest =>
            obtain ⟨w10, rfl, rfl, hxc⟩ := hcut
            have H10 := hide (Reg.ext (unhide hxc) (unhide H8))
            clear HT1 hxc H8 x0 x1 y0 y1 HCA HTY
            obtain ⟨x0, x1⟩ := (unhide H10).at r16 a0 (by simp)
            obtain ⟨y0', y1'⟩ := (unhide H10).at r18 oneT (by simp)
            have y0 : w10.cell? ⟨r18, 0, none⟩ = some (.int .i64 1) := y0'
            have y1 : w10.cell? ⟨r18, 1, none⟩ = some (.int .i64 1) := y1'
            clear y0' y1'
            have HCA : Hid (∀ i (h : i < A.length), w10.cell? ⟨b, off + i * 2, none⟩ = some (.int .i64 (A.getD i noT).1) ∧ w10.cell? ⟨b, off + i * 2 + 1, none⟩ = some (.int .i64 (A.getD i noT).2)) := unhide HCX _ (unhide H10).1
            have HTY := hide ((unhide HA).ext (unhide H10).1)
            have hu := unhide HU7
            cases hc : c30 f A with
            | true =>
              rw [hc, if_pos rfl] at hu
              subst hu
              clear HU7
              obtain ⟨xx, yy, rr0, rr1, zz0, zz1⟩ := (unhide H10).res
              have HFF := hide ((unhide H10).fin (.int .i64 (a0).1) (.int .i64 (a0).2))
              go_wp2
              obtain ⟨ss0, ss1⟩ := (unhide HFF).1.two
              exact bodyPost_ret (v := .tuple #[.agg #[.int .i64 (a0).1, .int .i64 (a0).2], .int .i64 (f), .int .i64 0]) (by simp [results, Try.results6, go_sem, ss0, ss1, noT]) rfl ⟨rfl, (unhide HFF).2⟩
            | false =>
            rw [hc, if_neg (by decide)] at hu
            have HU8 := hide hu
            clear hu HU7 hc
            go_upto_region 32 with fail
            go_cut [206] from 186 to 206 (fun gv wc => ∃ w12, w12 = wc ∧ gv = .bool (c32 f A) ∧ Hid (Ext w10 wc))
            case first =>
              have HXD := hide (fun m => (Ext.refl w10).drewN m)
              by_cases h16 : f = 16
              · have f16 : (f == 16) = true := by simp [h16]
                have F16 : Hid (f = 16) := h16
                clear h16
                by_cases hl : A.length = 2
                · have q2 : ((A.length : Int) == 2) = true := by simp [hl]
                  have HL : Hid (A.length = 2) := hl
                  have hl9 : 2 ≤ A.length := by omega
                  clear hl
                  cases sm with
                  | true =>
                    have hgg : c32 f A = true := by
                      rw [unhide HC32]
                      simp [eqT, oneT, unhide F16, unhide HL]
                    have HGG := hide hgg
                    clear hgg
                    as_aux_lemma =>
                      go_wp2
                      go_meet
                      exact ⟨_, rfl, by rw [unhide HGG], unhide HXD 0⟩
                  | false =>

                    obtain ⟨e1, g1⟩ := unhide HCA 1 (by omega)
                    rw [unhide HA1] at e1 g1
                    have e1' : w10.cell? ⟨b, off + 2, none⟩ = some (.int .i64 a1.1) := e1
                    have g1' : w10.cell? ⟨b, off + 3, none⟩ = some (.int .i64 a1.2) := g1
                    clear e1 g1
                    have hl1' : (1 : Int) < (A.length : Int) := by omega
                    cases ebq : (a0.1 == 1) with
                    | false =>
                      have hgg : c32 f A = false := by
                        rw [unhide HC32]
                        simp [eqT, oneT, ebq]
                      have HGG := hide hgg
                      clear hgg
                      as_aux_lemma =>
                        go_wp2
                        go_meet
                        exact ⟨_, rfl, by rw [unhide HGG], unhide HXD 0⟩
                    | true =>
                      cases esq : (a0.2 == 1) with
                      | false =>
                        have hgg : c32 f A = false := by
                          rw [unhide HC32]
                          simp [eqT, oneT, esq]
                        have HGG := hide hgg
                        clear hgg
                        as_aux_lemma =>
                          go_wp2
                          go_meet
                          exact ⟨_, rfl, by rw [unhide HGG], unhide HXD 0⟩
                      | true =>
                        have hgg : c32 f A = (a1.1 == 1) := by
                          rw [unhide HC32]
                          simp [eqT, oneT, unhide F16, unhide HL, ebq, esq]
                        have HGG := hide hgg
                        clear hgg
                        as_aux_lemma =>
                          go_wp2
                          go_meet
                          exact ⟨_, rfl, by rw [unhide HGG], unhide HXD 0⟩
                · have q2 : ((A.length : Int) == 2) = false := by rw [beq_eq_false_iff_ne]; omega
                  have HL : Hid (¬ A.length = 2) := hl
                  clear hl
                  have hgg : c32 f A = false := by
                    rw [unhide HC32]
                    simp [eqT, oneT, unhide HL]
                  have HGG := hide hgg
                  clear hgg
                  as_aux_lemma =>
                    go_wp2
                    go_meet
                    exact ⟨_, rfl, by rw [unhide HGG], unhide HXD 0⟩
              · have f16 : (f == 16) = false := by simp [h16]
                have F16 : Hid (¬ f = 16) := h16
                clear h16
                have hgg : c32 f A = false := by
                  rw [unhide HC32]
                  simp [eqT, oneT, unhide F16]
                have HGG := hide hgg
                clear hgg
                as_aux_lemma =>
                  go_wp2
                  go_meet
                  exact ⟨_, rfl, by rw [unhide HGG], unhide HXD 0⟩
            case rest =>
            obtain ⟨w12, rfl, rfl, hxc⟩ := hcut
            have H12 := hide (Reg.ext (unhide hxc) (unhide H10))
            clear hxc H10 x0 x1 y0 y1 HCA HTY
            obtain ⟨x0, x1⟩ := (unhide H12).at r16 a0 (by simp)
            obtain ⟨y0', y1'⟩ := (unhide H12).at r18 oneT (by simp)
            have y0 : w12.cell? ⟨r18, 0, none⟩ = some (.int .i64 1) := y0'
            have y1 : w12.cell? ⟨r18, 1, none⟩ = some (.int .i64 1) := y1'
            clear y0' y1'
            have HCA : Hid (∀ i (h : i < A.length), w12.cell? ⟨b, off + i * 2, none⟩ = some (.int .i64 (A.getD i noT).1) ∧ w12.cell? ⟨b, off + i * 2 + 1, none⟩ = some (.int .i64 (A.getD i noT).2)) := unhide HCX _ (unhide H12).1
            have HTY := hide ((unhide HA).ext (unhide H12).1)
            have hu := unhide HU8
            cases hc : c32 f A with
            | true =>
              rw [hc, if_pos rfl] at hu
              subst hu
              clear HU8
              have hl9 : 2 ≤ A.length := by
                unfold c32 at hc
                simp at hc
                omega
              obtain ⟨e1, g1⟩ := unhide HCA 1 (by omega)
              rw [unhide HA1] at e1 g1
              have e1' : w12.cell? ⟨b, off + 2, none⟩ = some (.int .i64 a1.1) := e1
              have g1' : w12.cell? ⟨b, off + 3, none⟩ = some (.int .i64 a1.2) := g1
              clear e1 g1
              have hl1' : (1 : Int) < (A.length : Int) := by omega
              obtain ⟨xx, yy, rr0, rr1, zz0, zz1⟩ := (unhide H12).res
              have HFF := hide ((unhide H12).fin (.int .i64 (a1).1) (.int .i64 (a1).2))
              go_wp2
              obtain ⟨ss0, ss1⟩ := (unhide HFF).1.two
              exact bodyPost_ret (v := .tuple #[.agg #[.int .i64 (a1).1, .int .i64 (a1).2], .int .i64 (f), .int .i64 0]) (by simp [results, Try.results6, go_sem, ss0, ss1, noT]) rfl ⟨rfl, (unhide HFF).2⟩
            | false =>
            rw [hc, if_neg (by decide)] at hu
            have HU9 := hide hu
            clear hu HU8 hc
            go_upto_region 34 with fail
            go_cut [263] from 211 to 263 (fun gv wc => ∃ w14, w14 = wc ∧ gv = .bool (c34 f A) ∧ Hid (Ext w12 wc))
            case first =>
              have HXD := hide (fun m => (Ext.refl w12).drewN m)
              by_cases h17 : f = 17
              · have f17 : (f == 17) = true := by simp [h17]
                have F17 : Hid (f = 17) := h17
                clear h17
                have f18 : (f == 18) = false := by rw [beq_eq_false_iff_ne]; have := unhide F17; omega
                have F18 : Hid (¬ f = 18) := by have := unhide F17; show ¬ _; omega
                by_cases hl : A.length = 3
                · have q3 : ((A.length : Int) == 3) = true := by simp [hl]
                  have HL : Hid (A.length = 3) := hl
                  have hl9 : 3 ≤ A.length := by omega
                  clear hl
                  cases sm with
                  | true =>
                    have hgg : c34 f A = true := by
                      rw [unhide HC34]
                      simp [eqT, oneT, unhide F17, unhide HL]
                    have HGG := hide hgg
                    clear hgg
                    as_aux_lemma =>
                      go_quiet (fail)
                      go_wp2
                      go_meet
                      exact ⟨_, rfl, by rw [unhide HGG], unhide HXD _⟩
                  | false =>
                    have HFL := hide (fun (m : Nat) => refFloats_any (.slice (some ⟨b, off, none⟩) 2 vcap) (A.take 2) a0.2 (w12.drewN m) (((unhide HTY).take' 2 (by omega)).ext ((Ext.refl w12).drewN m)))
                    have hc2 : (2 : Int) ≤ (vcap : Int) := by omega
                    cases hs2 : fltB (A.take 2) a0.2 with
                    | false =>
                      rw [hs2] at HFL
                      have hgg : c34 f A = false := by
                        rw [unhide HC34]
                        simp [eqT, oneT, hs2, unhide F18]
                      have HGG := hide hgg
                      clear hgg
                      as_aux_lemma =>
                        go_quiet (first | (go_at_call 18; refine Calls.quiet_of_same (unhide HFL _)))
                        go_wp2
                        go_meet
                        exact ⟨_, rfl, by rw [unhide HGG], unhide HXD _⟩
                    | true =>
                      rw [hs2] at HFL
                      obtain ⟨e2, g2⟩ := unhide HCA 2 (by omega)
                      rw [unhide HA2] at e2 g2
                      have e2' : w12.cell? ⟨b, off + 4, none⟩ = some (.int .i64 a2.1) := e2
                      have g2' : w12.cell? ⟨b, off + 5, none⟩ = some (.int .i64 a2.2) := g2
                      clear e2 g2
                      have hl2' : (2 : Int) < (A.length : Int) := by omega
                      cases ebq : (a2.1 == 1) with
                      | false =>
                        have hgg : c34 f A = false := by
                          rw [unhide HC34]
                          simp [eqT, oneT, unhide F18, ebq]
                        have HGG := hide hgg
                        clear hgg
                        as_aux_lemma =>
                          go_quiet (first | (go_at_call 18; refine Calls.quiet_of_same (unhide HFL _)))
                          go_wp2
                          go_meet
                          exact ⟨_, rfl, by rw [unhide HGG], unhide HXD _⟩
                      | true =>
                        cases esq : (a2.2 == 1) with
                        | false =>
                          have hgg : c34 f A = false := by
                            rw [unhide HC34]
                            simp [eqT, oneT, unhide F18, esq]
                          have HGG := hide hgg
                          clear hgg
                          as_aux_lemma =>
                            go_quiet (first | (go_at_call 18; refine Calls.quiet_of_same (unhide HFL _)))
                            go_wp2
                            go_meet
                            exact ⟨_, rfl, by rw [unhide HGG], unhide HXD _⟩
                        | true =>
                          have hgg : c34 f A = true := by
                            rw [unhide HC34]
                            simp [eqT, oneT, unhide F17, unhide HL, hs2, ebq, esq]
                          have HGG := hide hgg
                          clear hgg
                          as_aux_lemma =>
                            go_quiet (first | (go_at_call 18; refine Calls.quiet_of_same (unhide HFL _)))
                            go_wp2
                            go_meet
                            exact ⟨_, rfl, by rw [unhide HGG], unhide HXD _⟩
                · have q3 : ((A.length : Int) == 3) = false := by rw [beq_eq_false_iff_ne]; omega
                  have HL : Hid (¬ A.length = 3) := hl
                  clear hl
                  have hgg : c34 f A = false := by
                    rw [unhide HC34]
                    simp [eqT, oneT, unhide HL]
                  have HGG := hide hgg
                  clear hgg
                  as_aux_lemma =>
                    go_quiet (fail)
                    go_wp2
                    go_meet
                    exact ⟨_, rfl, by rw [unhide HGG], unhide HXD _⟩
              · have f17 : (f == 17) = false := by simp [h17]
                have F17 : Hid (¬ f = 17) := h17
                clear h17
                by_cases h18 : f = 18
                · have f18 : (f == 18) = true := by simp [h18]
                  have F18 : Hid (f = 18) := h18
                  clear h18
                  by_cases hl : A.length = 3
                  · have q3 : ((A.length : Int) == 3) = true := by simp [hl]
                    have HL : Hid (A.length = 3) := hl
                    have hl9 : 3 ≤ A.length := by omega
                    clear hl
                    cases sm with
                    | true =>
                      have hgg : c34 f A = true := by
                        rw [unhide HC34]
                        simp [eqT, oneT, unhide F18, unhide HL]
                      have HGG := hide hgg
                      clear hgg
                      as_aux_lemma =>
                        go_quiet (fail)
                        go_wp2
                        go_meet
                        exact ⟨_, rfl, by rw [unhide HGG], unhide HXD _⟩
                    | false =>
                      obtain ⟨e1, g1⟩ := unhide HCA 1 (by omega)
                      rw [unhide HA1] at e1 g1
                      have e1' : w12.cell? ⟨b, off + 2, none⟩ = some (.int .i64 a1.1) := e1
                      have g1' : w12.cell? ⟨b, off + 3, none⟩ = some (.int .i64 a1.2) := g1
                      clear e1 g1
                      have hl1' : (1 : Int) < (A.length : Int) := by omega
                      obtain ⟨e2, g2⟩ := unhide HCA 2 (by omega)
                      rw [unhide HA2] at e2 g2
                      have e2' : w12.cell? ⟨b, off + 4, none⟩ = some (.int .i64 a2.1) := e2
                      have g2' : w12.cell? ⟨b, off + 5, none⟩ = some (.int .i64 a2.2) := g2
                      clear e2 g2
                      have hl2' : (2 : Int) < (A.length : Int) := by omega
                      cases eaq : (a0.1 == 1) with
                      | false =>
                        have hgg : c34 f A = false := by
                          rw [unhide HC34]
                          simp [eqT, oneT, unhide F17, eaq]
                        have HGG := hide hgg
                        clear hgg
                        as_aux_lemma =>
                          go_quiet (fail)
                          go_wp2
                          go_meet
                          exact ⟨_, rfl, by rw [unhide HGG], unhide HXD _⟩
                      | true =>
                        cases ebq : (a1.1 == 1) with
                        | false =>
                          have hgg : c34 f A = false := by
                            rw [unhide HC34]
                            simp [eqT, oneT, unhide F17, ebq]
                          have HGG := hide hgg
                          clear hgg
                          as_aux_lemma =>
                            go_quiet (fail)
                            go_wp2
                            go_meet
                            exact ⟨_, rfl, by rw [unhide HGG], unhide HXD _⟩
                        | true =>
                          cases esq : (a1.2 == 1) with
                          | false =>
                            have hgg : c34 f A = false := by
                              rw [unhide HC34]
                              simp [eqT, oneT, unhide F17, esq]
                            have HGG := hide hgg
                            clear hgg
                            as_aux_lemma =>
                              go_quiet (fail)
                              go_wp2
                              go_meet
                              exact ⟨_, rfl, by rw [unhide HGG], unhide HXD _⟩
                          | true =>
                            cases ebr : (a2.1 == 1) with
                            | false =>
                              have hgg : c34 f A = false := by
                                rw [unhide HC34]
                                simp [eqT, oneT, unhide F17, ebr]
                              have HGG := hide hgg
                              clear hgg
                              as_aux_lemma =>
                                go_quiet (fail)
                                go_wp2
                                go_meet
                                exact ⟨_, rfl, by rw [unhide HGG], unhide HXD _⟩
                            | true =>
                              cases esr : (a2.2 == 1) with
                              | false =>
                                have hgg : c34 f A = false := by
                                  rw [unhide HC34]
                                  simp [eqT, oneT, unhide F17, esr]
                                have HGG := hide hgg
                                clear hgg
                                as_aux_lemma =>
                                  go_quiet (fail)
                                  go_wp2
                                  go_meet
                                  exact ⟨_, rfl, by rw [unhide HGG], unhide HXD _⟩
                              | true =>
                                have hgg : c34 f A = true := by
                                  rw [unhide HC34]
                                  simp [eqT, oneT, unhide F18, unhide HL, eaq, ebq, esq, ebr, esr]
                                have HGG := hide hgg
                                clear hgg
                                as_aux_lemma =>
                                  go_quiet (fail)
                                  go_wp2
                                  go_meet
                                  exact ⟨_, rfl, by rw [unhide HGG], unhide HXD _⟩
                  · have q3 : ((A.length : Int) == 3) = false := by rw [beq_eq_false_iff_ne]; omega
                    have HL : Hid (¬ A.length = 3) := hl
                    clear hl
                    have hgg : c34 f A = false := by
                      rw [unhide HC34]
                      simp [eqT, oneT, unhide HL]
                    have HGG := hide hgg
                    clear hgg
                    as_aux_lemma =>
                      go_quiet (fail)
                      go_wp2
                      go_meet
                      exact ⟨_, rfl, by rw [unhide HGG], unhide HXD _⟩
                · have f18 : (f == 18) = false := by simp [h18]
                  have F18 : Hid (¬ f = 18) := h18
                  clear h18
                  have hgg : c34 f A = false := by
                    rw [unhide HC34]
                    simp [eqT, oneT, unhide F17, unhide F18]
                  have HGG := hide hgg
                  clear hgg
                  as_aux_lemma =>
                    go_quiet (fail)
                    go_wp2
                    go_meet
                    exact ⟨_, rfl, by rw [unhide HGG], unhide HXD _⟩
            case rest =>
            obtain ⟨w14, rfl, rfl, hxc⟩ := hcut
            have H14 := hide (Reg.ext (unhide hxc) (unhide H12))
            clear hxc H12 x0 x1 y0 y1 HCA HTY
            obtain ⟨x0, x1⟩ := (unhide H14).at r16 a0 (by simp)
            obtain ⟨y0', y1'⟩ := (unhide H14).at r18 oneT (by simp)
            have y0 : w14.cell? ⟨r18, 0, none⟩ = some (.int .i64 1) := y0'
            have y1 : w14.cell? ⟨r18, 1, none⟩ = some (.int .i64 1) := y1'
            clear y0' y1'
            have HCA : Hid (∀ i (h : i < A.length), w14.cell? ⟨b, off + i * 2, none⟩ = some (.int .i64 (A.getD i noT).1) ∧ w14.cell? ⟨b, off + i * 2 + 1, none⟩ = some (.int .i64 (A.getD i noT).2)) := unhide HCX _ (unhide H14).1
            have HTY := hide ((unhide HA).ext (unhide H14).1)
            have hu := unhide HU9
            cases hc : c34 f A with
            | true =>
              rw [hc, if_pos rfl] at hu
              subst hu
              clear HU9
              obtain ⟨xx, yy, rr0, rr1, zz0, zz1⟩ := (unhide H14).res
              have HFF := hide ((unhide H14).fin (.int .i64 (a0).1) (.int .i64 (a0).2))
              go_wp2
              obtain ⟨ss0, ss1⟩ := (unhide HFF).1.two
              exact bodyPost_ret (v := .tuple #[.agg #[.int .i64 (a0).1, .int .i64 (a0).2], .int .i64 (f), .int .i64 0]) (by simp [results, Try.results6, go_sem, ss0, ss1, noT]) rfl ⟨rfl, (unhide HFF).2⟩
            | false =>
            rw [hc, if_neg (by decide)] at hu
            have HU10 := hide hu
            clear hu HU9 hc
            go_upto_region 36 with fail
            go_cut [285] from 266 to 285 (fun gv wc => ∃ w16, w16 = wc ∧ gv = .bool (c36 f A) ∧ Hid (Ext w14 wc))
            case first =>
              have HXD := hide (fun m => (Ext.refl w14).drewN m)
              by_cases h19 : f = 19
              · have f19 : (f == 19) = true := by simp [h19]
                have F19 : Hid (f = 19) := h19
                clear h19
                have f20 : (f == 20) = false := by rw [beq_eq_false_iff_ne]; have := unhide F19; omega
                have F20 : Hid (¬ f = 20) := by have := unhide F19; show ¬ _; omega
                by_cases hl : A.length = 2
                · have q2 : ((A.length : Int) == 2) = true := by simp [hl]
                  have HL : Hid (A.length = 2) := hl
                  have hl9 : 2 ≤ A.length := by omega
                  clear hl
                  cases sm with
                  | true =>
                    have hgg : c36 f A = true := by
                      rw [unhide HC36]
                      simp [eqT, oneT, unhide F19, unhide HL]
                    have HGG := hide hgg
                    clear hgg
                    as_aux_lemma =>
                      go_wp2
                      go_meet
                      exact ⟨_, rfl, by rw [unhide HGG], unhide HXD 0⟩
                  | false =>
                    have hgg : c36 f A = false := by
                      rw [unhide HC36]
                      simp [eqT, oneT, unhide F20]
                    have HGG := hide hgg
                    clear hgg
                    as_aux_lemma =>
                      go_wp2
                      go_meet
                      exact ⟨_, rfl, by rw [unhide HGG], unhide HXD 0⟩
                · have q2 : ((A.length : Int) == 2) = false := by rw [beq_eq_false_iff_ne]; omega
                  have HL : Hid (¬ A.length = 2) := hl
                  clear hl
                  have hgg : c36 f A = false := by
                    rw [unhide HC36]
                    simp [eqT, oneT, unhide F20, unhide HL]
                  have HGG := hide hgg
                  clear hgg
                  as_aux_lemma =>
                    go_wp2
                    go_meet
                    exact ⟨_, rfl, by rw [unhide HGG], unhide HXD 0⟩
              · have f19 : (f == 19) = false := by simp [h19]
                have F19 : Hid (¬ f = 19) := h19
                clear h19
                by_cases h20 : f = 20
                · have f20 : (f == 20) = true := by simp [h20]
                  have F20 : Hid (f = 20) := h20
                  clear h20
                  by_cases hl : A.length = 1
                  · have q1 : ((A.length : Int) == 1) = true := by simp [hl]
                    have HL : Hid (A.length = 1) := hl
                    have hl9 : 1 ≤ A.length := by omega
                    clear hl
                    have hgg : c36 f A = sm := by
                      rw [unhide HC36]
                      simp [eqT, oneT, unhide F19, unhide F20, unhide HL]
                    have HGG := hide hgg
                    clear hgg
                    as_aux_lemma =>
                      go_wp2
                      go_meet
                      exact ⟨_, rfl, by rw [unhide HGG], unhide HXD 0⟩
                  · have q1 : ((A.length : Int) == 1) = false := by rw [beq_eq_false_iff_ne]; omega
                    have HL : Hid (¬ A.length = 1) := hl
                    clear hl
                    have hgg : c36 f A = false := by
                      rw [unhide HC36]
                      simp [eqT, oneT, unhide F19, unhide HL]
                    have HGG := hide hgg
                    clear hgg
                    as_aux_lemma =>
                      go_wp2
                      go_meet
                      exact ⟨_, rfl, by rw [unhide HGG], unhide HXD 0⟩
                · have f20 : (f == 20) = false := by simp [h20]
                  have F20 : Hid (¬ f = 20) := h20
                  clear h20
                  have hgg : c36 f A = false := by
                    rw [unhide HC36]
                    simp [eqT, oneT, unhide F19, unhide F20]
                  have HGG := hide hgg
                  clear hgg
                  as_aux_lemma =>
                    go_wp2
                    go_meet
                    exact ⟨_, rfl, by rw [unhide HGG], unhide HXD 0⟩
            case rest =>
            obtain ⟨w16, rfl, rfl, hxc⟩ := hcut
            have H16 := hide (Reg.ext (unhide hxc) (unhide H14))
            clear hxc H14 x0 x1 y0 y1 HCA HTY
            obtain ⟨x0, x1⟩ := (unhide H16).at r16 a0 (by simp)
            obtain ⟨y0', y1'⟩ := (unhide H16).at r18 oneT (by simp)
            have y0 : w16.cell? ⟨r18, 0, none⟩ = some (.int .i64 1) := y0'
            have y1 : w16.cell? ⟨r18, 1, none⟩ = some (.int .i64 1) := y1'
            clear y0' y1'
            have HCA : Hid (∀ i (h : i < A.length), w16.cell? ⟨b, off + i * 2, none⟩ = some (.int .i64 (A.getD i noT).1) ∧ w16.cell? ⟨b, off + i * 2 + 1, none⟩ = some (.int .i64 (A.getD i noT).2)) := unhide HCX _ (unhide H16).1
            have HTY := hide ((unhide HA).ext (unhide H16).1)
            have hu := unhide HU10
            cases hc : c36 f A with
            | true =>
              rw [hc, if_pos rfl] at hu
              subst hu
              clear HU10
              obtain ⟨xx, yy, rr0, rr1, zz0, zz1⟩ := (unhide H16).res
              have HFF := hide ((unhide H16).fin (.int .i64 1) (.int .i64 1))
              go_wp2
              obtain ⟨ss0, ss1⟩ := (unhide HFF).1.two
              exact bodyPost_ret (v := .tuple #[.agg #[.int .i64 1, .int .i64 1], .int .i64 f, .int .i64 0]) (by simp [results, Try.results6, go_sem, ss0, ss1]) rfl ⟨rfl, (unhide HFF).2⟩
            | false =>
            rw [hc, if_neg (by decide)] at hu
            have HU11 := hide hu
            clear hu HU10 hc
            go_upto_region 38 with fail
            go_cut [297] from 288 to 297 (fun gv wc => ∃ w18, w18 = wc ∧ gv = .bool (c38 f A) ∧ Hid (Ext w16 wc))
            case first =>
              have HXD := hide (fun m => (Ext.refl w16).drewN m)
              by_cases h21 : f = 21
              · have f21 : (f == 21) = true := by simp [h21]
                have F21 : Hid (f = 21) := h21
                clear h21
                by_cases hl : A.length = 2
                · have q2 : ((A.length : Int) == 2) = true := by simp [hl]
                  have HL : Hid (A.length = 2) := hl
                  have hl9 : 2 ≤ A.length := by omega
                  clear hl
                  have HFL := hide (fun (m : Nat) => refFloats_any _ A 3 w16 (unhide HTY))
                  have hgg : c38 f A = fltB A 3 := by
                    rw [unhide HC38]
                    simp [eqT, oneT, unhide F21, unhide HL]
                  have HGG := hide hgg
                  clear hgg
                  as_aux_lemma =>
                    go_wp2_with fail
                    refine (unhide HFL 0).mono ?_
                    rintro e9 w9' ⟨rfl, hw9'⟩
                    subst hw9'
                    go_wp2
                    go_meet
                    exact ⟨_, rfl, by rw [unhide HGG] <;> simp only [List.drop_one], unhide HXD 0⟩
                · have q2 : ((A.length : Int) == 2) = false := by rw [beq_eq_false_iff_ne]; omega
                  have HL : Hid (¬ A.length = 2) := hl
                  clear hl
                  have hgg : c38 f A = false := by
                    rw [unhide HC38]
                    simp [eqT, oneT, unhide HL]
                  have HGG := hide hgg
                  clear hgg
                  as_aux_lemma =>
                    go_wp2
                    go_meet
                    exact ⟨_, rfl, by rw [unhide HGG], unhide HXD 0⟩
              · have f21 : (f == 21) = false := by simp [h21]
                have F21 : Hid (¬ f = 21) := h21
                clear h21
                have hgg : c38 f A = false := by
                  rw [unhide HC38]
                  simp [eqT, oneT, unhide F21]
                have HGG := hide hgg
                clear hgg
                as_aux_lemma =>
                  go_wp2
                  go_meet
                  exact ⟨_, rfl, by rw [unhide HGG], unhide HXD 0⟩
            case rest =>
            obtain ⟨w18, rfl, rfl, hxc⟩ := hcut
            have H18 := hide (Reg.ext (unhide hxc) (unhide H16))
            clear hxc H16 x0 x1 y0 y1 HCA HTY
            obtain ⟨x0, x1⟩ := (unhide H18).at r16 a0 (by simp)
            obtain ⟨y0', y1'⟩ := (unhide H18).at r18 oneT (by simp)
            have y0 : w18.cell? ⟨r18, 0, none⟩ = some (.int .i64 1) := y0'
            have y1 : w18.cell? ⟨r18, 1, none⟩ = some (.int .i64 1) := y1'
            clear y0' y1'
            have HCA : Hid (∀ i (h : i < A.length), w18.cell? ⟨b, off + i * 2, none⟩ = some (.int .i64 (A.getD i noT).1) ∧ w18.cell? ⟨b, off + i * 2 + 1, none⟩ = some (.int .i64 (A.getD i noT).2)) := unhide HCX _ (unhide H18).1
            have HTY := hide ((unhide HA).ext (unhide H18).1)
            have hu := unhide HU11
            cases hc : c38 f A with
            | true =>
              rw [hc, if_pos rfl] at hu
              subst hu
              clear HU11
              obtain ⟨xx, yy, rr0, rr1, zz0, zz1⟩ := (unhide H18).res
              have HFF := hide ((unhide H18).fin (.int .i64 (a0).1) (.int .i64 (a0).2))
              go_wp2
              obtain ⟨ss0, ss1⟩ := (unhide HFF).1.two
              exact bodyPost_ret (v := .tuple #[.agg #[.int .i64 (a0).1, .int .i64 (a0).2], .int .i64 (f), .int .i64 0]) (by simp [results, Try.results6, go_sem, ss0, ss1, noT]) rfl ⟨rfl, (unhide HFF).2⟩
            | false =>
            rw [hc, if_neg (by decide)] at hu
            have HU12 := hide hu
            clear hu HU11 hc
            go_upto_region 40 with fail
            go_cut [315] from 300 to 315 (fun gv wc => ∃ w20, w20 = wc ∧ gv = .bool (c40 f A) ∧ Hid (Ext w18 wc))
            case first =>
              have HXD := hide (fun m => (Ext.refl w18).drewN m)
              by_cases h22 : f = 22
              · have f22 : (f == 22) = true := by simp [h22]
                have F22 : Hid (f = 22) := h22
                clear h22
                by_cases hl : A.length = 2
                · have q2 : ((A.length : Int) == 2) = true := by simp [hl]
                  have HL : Hid (A.length = 2) := hl
                  have hl9 : 2 ≤ A.length := by omega
                  clear hl
                  cases eaq : (a0.1 == 4) with
                  | false =>
                    have hgg : c40 f A = false := by
                      rw [unhide HC40]
                      simp [eqT, oneT, eaq]
                    have HGG := hide hgg
                    clear hgg
                    as_aux_lemma =>
                      go_wp2
                      go_meet
                      exact ⟨_, rfl, by rw [unhide HGG], unhide HXD 0⟩
                  | true =>
                    have HFL := hide (fun (m : Nat) => refFloats_any (.slice (some ⟨b, off + 2, none⟩) (A.length - 1) (vcap - 1)) (A.drop 1) 2 w18 ((unhide HTY).drop' (A.length - 1) (vcap - 1) (by omega)))
                    have hv1 : ¬ vcap = 1 := by omega
                    have hv2 : (1 : Int) ≤ (A.length : Int) := by omega
                    have hv3 : (1 : Int) ≤ (vcap : Int) := by omega
                    have hgg : c40 f A = fltB (A.drop 1) 2 := by
                      rw [unhide HC40]
                      simp [eqT, oneT, unhide F22, unhide HL, eaq]
                    have HGG := hide hgg
                    clear hgg
                    as_aux_lemma =>
                      go_wp2_with fail
                      refine (unhide HFL 0).mono ?_
                      rintro e9 w9' ⟨rfl, hw9'⟩
                      subst hw9'
                      go_wp2
                      go_meet
                      exact ⟨_, rfl, by rw [unhide HGG] <;> simp only [List.drop_one], unhide HXD 0⟩
                · have q2 : ((A.length : Int) == 2) = false := by rw [beq_eq_false_iff_ne]; omega
                  have HL : Hid (¬ A.length = 2) := hl
                  clear hl
                  have hgg : c40 f A = false := by
                    rw [unhide HC40]
                    simp [eqT, oneT, unhide HL]
                  have HGG := hide hgg
                  clear hgg
                  as_aux_lemma =>
                    go_wp2
                    go_meet
                    exact ⟨_, rfl, by rw [unhide HGG], unhide HXD 0⟩
              · have f22 : (f == 22) = false := by simp [h22]
                have F22 : Hid (¬ f = 22) := h22
                clear h22
                have hgg : c40 f A = false := by
                  rw [unhide HC40]
                  simp [eqT, oneT, unhide F22]
                have HGG := hide hgg
                clear hgg
                as_aux_lemma =>
                  go_wp2
                  go_meet
                  exact ⟨_, rfl, by rw [unhide HGG], unhide HXD 0⟩
            case rest =>
            obtain ⟨w20, rfl, rfl, hxc⟩ := hcut
            have H20 := hide (Reg.ext (unhide hxc) (unhide H18))
            clear hxc H18 x0 x1 y0 y1 HCA HTY
            obtain ⟨x0, x1⟩ := (unhide H20).at r16 a0 (by simp)
            obtain ⟨y0', y1'⟩ := (unhide H20).at r18 oneT (by simp)
            have y0 : w20.cell? ⟨r18, 0, none⟩ = some (.int .i64 1) := y0'
            have y1 : w20.cell? ⟨r18, 1, none⟩ = some (.int .i64 1) := y1'
            clear y0' y1'
            have HCA : Hid (∀ i (h : i < A.length), w20.cell? ⟨b, off + i * 2, none⟩ = some (.int .i64 (A.getD i noT).1) ∧ w20.cell? ⟨b, off + i * 2 + 1, none⟩ = some (.int .i64 (A.getD i noT).2)) := unhide HCX _ (unhide H20).1
            have HTY := hide ((unhide HA).ext (unhide H20).1)
            have hu := unhide HU12
            cases hc : c40 f A with
            | true =>
              rw [hc, if_pos rfl] at hu
              subst hu
              clear HU12
              obtain ⟨xx, yy, rr0, rr1, zz0, zz1⟩ := (unhide H20).res
              have HFF := hide ((unhide H20).fin (.int .i64 1) (.int .i64 4))
              go_wp2
              obtain ⟨ss0, ss1⟩ := (unhide HFF).1.two
              exact bodyPost_ret (v := .tuple #[.agg #[.int .i64 1, .int .i64 4], .int .i64 f, .int .i64 0]) (by simp [results, Try.results6, go_sem, ss0, ss1]) rfl ⟨rfl, (unhide HFF).2⟩
            | false =>
            rw [hc, if_neg (by decide)] at hu
            have HU13 := hide hu
            clear hu HU12 hc
            have hu := unhide HU13
            subst hu
            obtain ⟨c0, c1⟩ := (unhide H20).at r9 noT (by simp)
            have c0' : w20.cell? ⟨r9, 0, none⟩ = some (.int .i64 0) := c0
            have c1' : w20.cell? ⟨r9, 1, none⟩ = some (.int .i64 0) := c1
            clear c0 c1
            obtain ⟨xx, yy, rr0, rr1, zz0, zz1⟩ := (unhide H20).res
            have HFF := hide ((unhide H20).fin (.int .i64 0) (.int .i64 0))
            go_wp2
            obtain ⟨ss0, ss1⟩ := (unhide HFF).1.two
            exact bodyPost_ret (v := .tuple #[.agg #[.int .i64 (noT).1, .int .i64 (noT).2], .int .i64 (0), .int .i64 230]) (by simp [results, Try.results6, go_sem, ss0, ss1, noT]) rfl ⟨rfl, (unhide HFF).2⟩
end Go.Proofs.Ytcfgooeljmfjoaa
