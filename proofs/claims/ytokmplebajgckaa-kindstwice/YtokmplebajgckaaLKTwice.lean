/-
  KindsTwice: a field of a field is a field, with the places that both say; for every type and two texts.
-/
import Derived.Test.YtokmplebajgckaaKV
import Derived.Test.YtokmplebajgckaaKK
import Derived.Test.YtokmplebajgckaaFrK
namespace Go.Proofs.Ytokmplebajgckaa
open Go.ChangeShapes Go.WideShapes Go.ChangeAt Go.RowKit
open Go.ChangeMaps (open_string)
set_option linter.unusedSimpArgs false
set_option linter.unusedVariables false

theorem nat_list {l : List Int} {n : Nat} (h : ∀ p ∈ l, 0 ≤ p ∧ p < (n : Int)) : ∃ ps : List Nat, l = ps.map (fun p : Nat => (p : Int)) ∧ ∀ p ∈ ps, p < n := by
  refine ⟨l.map Int.toNat, ?_, ?_⟩
  · rw [List.map_map]
    conv => lhs; rw [← List.map_id l]
    apply List.map_congr_left
    intro p hp
    have := h p hp
    simp
    omega
  · intro p hp
    obtain ⟨q, hq, rfl⟩ := List.mem_map.1 hp
    have := h q hq
    omega
theorem cut_one : ∀ p, p < 4 → ((⟨#[120, 121, 122, 119]⟩ : ByteArray).extract p (p + 1)).data.toList = [lett p] ∧ ((⟨#[120, 121, 122, 119]⟩ : ByteArray).extract p (p + 1)).size = 1 := by
  intro p hp
  rcases (by omega : p = 0 ∨ p = 1 ∨ p = 2 ∨ p = 3) with rfl | rfl | rfl | rfl <;> decide

set_option maxHeartbeats 4000000 in
set_option maxRecDepth 100000 in
theorem kindsTwice_any (t : Ty) (s s2 : ByteArray) (w : World) :
    Calls Try.prog 8 #[.agg #[.int .i64 (t).1, .int .i64 (t).2], .string s, .string s2] w fun e w' => e = .returned (.bool true) ∧ Ext w w' := by
  have HW := hide wakes13_any
  have HA := hide (field_any t s)
  have HOK := hide (field_ok t s.data.toList)
  have B := hide (Blk.new w #[.int .i64 (t).1, .int .i64 (t).2] 23)
  have X := hide ((Ext.refl w).alloc (.cells #[.int .i64 (t).1, .int .i64 (t).2] 23))
  go_enter Try.func8, Try.ntmps8
  go_wp2_with fail
  refine (unhide HW _).mono ?_
  rintro e w1 ⟨rfl, hx⟩
  replace B := hide ((unhide B).ext hx)
  replace X := hide ((unhide X).trans hx)
  clear hx HW
  obtain ⟨k0, k1⟩ := (unhide B).two
  rcases unhide HOK with ⟨hne, hnil⟩ | ⟨n, hts, hn2, hn4, hmay, hval, hfp, hnn⟩
  · generalize fieldP t s.data.toList = U at *
    obtain ⟨u, XS, er⟩ := U
    dsimp only at HA hne hnil
    subst hnil
    have qe : (er != 0) = true := by simp [hne]
    clear HOK hne
    go_wp2_with fail
    refine (unhide HA _).mono ?_
    rintro e w2 ⟨va, rfl, hra, hx⟩
    replace X := hide (((unhide X).trans hx).alloc (.cells #[.int .i64 (u).1, .int .i64 (u).2] 23))
    obtain ⟨ao, cap, rfl, -, -, -⟩ := hra.row.shape
    clear hx hra k0 k1 HA B
    go_wp2
    go_ret
    exact ⟨rfl, unhide X⟩
  · rw [hfp] at HA
    have hok := places_ok s.data.toList n hn2 hn4
    obtain ⟨ps, hps, hpsn⟩ := nat_list hok.2
    have hok1 := hok.1
    generalize placesP s.data.toList n = XS at *
    subst hps
    have hpl : ps.length ≤ 4 := by simpa using hok1
    have hp0 : ps ≠ [] := by simpa using hnn
    rw [List.length_map] at HA
    dsimp only at HA
    have HTS := hide hts
    clear HOK hok hfp hnn hok1 hts
    obtain ⟨u, hu⟩ : ∃ u : Ty, u = ⟨t.1, (ps.length : Int)⟩ := ⟨_, rfl⟩
    have HA2 : Hid (∀ w, Calls Try.prog 23 #[.agg #[.int .i64 (t).1, .int .i64 (t).2], .string s] w fun e w' => ∃ v, e = .returned (.tuple #[.agg #[.int .i64 (u).1, .int .i64 (u).2], v, .int .i64 0]) ∧ Own .i64 w' w.heap.size 3 v (ps.map (fun p : Nat => (p : Int))) ∧ Ext w w') := by rw [hu]; exact unhide HA
    have HUU := hide hu
    clear HA hu
    go_wp2_with fail
    refine (unhide HA2 _).mono ?_
    rintro e w2 ⟨va, rfl, hra, hx⟩
    replace B := hide (((unhide B).ext hx).alloc (.cells #[.int .i64 (u).1, .int .i64 (u).2] 23))
    replace X := hide (((unhide X).trans hx).alloc (.cells #[.int .i64 (u).1, .int .i64 (u).2] 23))
    have D0 := hide (Blk.new w2 #[.int .i64 (u).1, .int .i64 (u).2] 23)
    have RA := hide ((hra.row).ext ((Ext.refl w2).alloc (.cells #[.int .i64 (u).1, .int .i64 (u).2] 23)))
    obtain ⟨ao, cap, rfl, -, -, -⟩ := hra.row.shape
    clear hx hra k0 k1 HA2
    go_upto_region 6 with fail
    generalize w2.alloc (.cells #[.int .i64 (u).1, .int .i64 (u).2] 23) = w3 at B X D0 RA ⊢
    generalize w2.heap.size = r0 at *
    obtain ⟨k0, k1⟩ := (unhide D0).two
    have HB := hide (field_any u s2)
    rcases field_ok u s2.data.toList with ⟨hne, hnil⟩ | ⟨m, hus, hm2, hm4, -, -, hfp, hnn⟩
    · generalize fieldP u s2.data.toList = U at *
      obtain ⟨v, YS, er⟩ := U
      dsimp only at HB hne hnil
      subst hnil
      have qe : (er != 0) = true := by simp [hne]
      clear hne
      go_wp2_with fail
      refine (unhide HB _).mono ?_
      rintro e w4 ⟨vb, rfl, hrb, hx⟩
      replace X := hide (((unhide X).trans hx).alloc (.cells #[.int .i64 (v).1, .int .i64 (v).2] 23))
      obtain ⟨bo, bcap, rfl, -, -, -⟩ := hrb.row.shape
      clear hx hrb k0 k1 HB B D0 RA
      go_wp2
      go_ret
      exact ⟨rfl, unhide X⟩
    · rw [hfp] at HB
      have hmp : m = ps.length := by
        have := unhide HUU
        rw [this] at hus
        dsimp only at hus
        omega
      have hok := places_ok s2.data.toList m hm2 hm4
      obtain ⟨qs, hqs, hqsn⟩ := nat_list hok.2
      have hok1 := hok.1
      generalize placesP s2.data.toList m = YS at *
      subst hqs
      subst hmp
      have hql : qs.length ≤ 4 := by simpa using hok1
      have hq0 : qs ≠ [] := by simpa using hnn
      rw [List.length_map] at HB
      dsimp only at HB
      have hub : u.1 = t.1 := by rw [unhide HUU]
      rw [hub] at HB
      clear hok hfp hnn hok1 hub hus
      obtain ⟨v, hv⟩ : ∃ v : Ty, v = ⟨t.1, (qs.length : Int)⟩ := ⟨_, rfl⟩
      have HB2 : Hid (∀ w, Calls Try.prog 23 #[.agg #[.int .i64 (u).1, .int .i64 (u).2], .string s2] w fun e w' => ∃ z, e = .returned (.tuple #[.agg #[.int .i64 (v).1, .int .i64 (v).2], z, .int .i64 0]) ∧ Own .i64 w' w.heap.size 3 z (qs.map (fun p : Nat => (p : Int))) ∧ Ext w w') := by
        rw [hv]
        intro wx
        have h := unhide HB wx
        rw [unhide HUU] at h ⊢
        exact h
      have HV := hide hv
      clear HB hv
      go_wp2_with fail
      refine (unhide HB2 _).mono ?_
      rintro e w4 ⟨vb, rfl, hrb, hx⟩
      replace B := hide (((unhide B).ext hx).alloc (.cells #[.int .i64 (v).1, .int .i64 (v).2] 23))
      replace X := hide (((unhide X).trans hx).alloc (.cells #[.int .i64 (v).1, .int .i64 (v).2] 23))
      replace RA := hide (((unhide RA).ext hx).ext ((Ext.refl w4).alloc (.cells #[.int .i64 (v).1, .int .i64 (v).2] 23)))
      have D1 := hide (Blk.new w4 #[.int .i64 (v).1, .int .i64 (v).2] 23)
      have RB := hide ((hrb.row).ext ((Ext.refl w4).alloc (.cells #[.int .i64 (v).1, .int .i64 (v).2] 23)))
      obtain ⟨bo, bcap, rfl, -, -, -⟩ := hrb.row.shape
      clear hx hrb k0 k1 HB2 D0
      go_upto_region 9 with fail
      generalize w4.alloc (.cells #[.int .i64 (v).1, .int .i64 (v).2] 23) = w5 at B X D1 RA RB ⊢
      generalize w4.heap.size = r1 at *
      try simp only [List.length_map]
      obtain ⟨F, hF⟩ : ∃ F : List Nat, F = qs.map (fun q => ps.getD q 0) := ⟨_, rfl⟩
      have hFl : F.length = qs.length := by rw [hF]; simp
      have hFn : ∀ p ∈ F, p < n := by
        intro p hp
        rw [hF] at hp
        obtain ⟨q, hq, rfl⟩ := List.mem_map.1 hp
        have := hqsn q hq
        rw [List.getD_eq_getElem?_getD, List.getElem?_eq_getElem this]
        exact hpsn _ (List.getElem_mem this)
      have HF := hide hF
      have HFL := hide hFl
      clear hF hFl
      go_wp2
      go_loopw [46, 12] (fun i nm wr => ∃ (k : Nat) (z : ByteArray), k ≤ qs.length ∧ i = .int .i64 (k : Int) ∧ nm = .string z ∧ Hid (z.data.toList = (F.take k).map lett) ∧ Hid (Ext w5 wr)) (fun i _ _ => qs.length - (intOf i).toNat)
      case atStart => exact ⟨0, ⟨#[]⟩, by omega, rfl, rfl, rfl, Ext.refl w5⟩
      case round =>
        obtain ⟨k, z, hk, rfl, rfl, hz, hxr⟩ := hrel
        by_cases hlt : k < qs.length
        · have hk1 : k < (qs.map (fun p : Nat => (p : Int))).length := by simpa using hlt
          obtain ⟨b2, o2, e2, cb⟩ := ((unhide RB).ext (unhide hxr)).at k hk1
          have cb1 := cb k hk1
          rw [List.getElem_map] at cb1
          have hqk : qs[k] < ps.length := hqsn _ (List.getElem_mem hlt)
          have hq1 : qs[k] < (ps.map (fun p : Nat => (p : Int))).length := by simpa using hqk
          obtain ⟨b1, o1, e1, ca⟩ := ((unhide RA).ext (unhide hxr)).at qs[k] hq1
          have ca1 := ca qs[k] hq1
          rw [List.getElem_map] at ca1
          have hkF : k < F.length := by rw [unhide HFL]; exact hlt
          have hFk : F[k] = ps[qs[k]] := by
            have : F[k]? = some (ps.getD qs[k] 0) := by rw [unhide HF, List.getElem?_map, List.getElem?_eq_getElem hlt]; rfl
            rw [List.getElem?_eq_getElem hkF, Option.some.injEq] at this
            rw [this, List.getD_eq_getElem?_getD, List.getElem?_eq_getElem hqk]
            rfl
          have hp4 : ps[qs[k]] < 4 := by
            have := hpsn _ (List.getElem_mem hqk)
            omega
          have hzl : z.size = k := by
            have h : z.data.toList.length = ((F.take k).map lett).length := by rw [unhide hz]
            simp at h
            have h5 := unhide HFL
            omega
          have hz2 : Hid ((z ++ (⟨#[120, 121, 122, 119]⟩ : ByteArray).extract ps[qs[k]] (ps[qs[k]] + 1)).data.toList = (F.take (k + 1)).map lett) := by
            show _ = _
            rw [ByteArray.data_append, Array.toList_append, unhide hz, (cut_one _ hp4).1, List.take_succ_eq_append_getElem hkF, List.map_append, hFk]
            rfl
          have hcs := (cut_one _ hp4).2
          subst e1 e2
          clear ca cb hFk hkF
          generalize hpd : ps[qs[k]] = pd at *
          have HPD := hide hpd
          clear hpd
          generalize hqd : qs[k] = qd at *
          have HQD := hide hqd
          clear hqd
          have HXD := hide (fun m => (unhide hxr).drewN m)
          have hkl : (k : Int) < (qs.length : Int) := by omega
          have hql2 : (qd : Int) < (ps.length : Int) := by omega
          have hw1 : IntKind.i64.wrap ((pd : Int) + 1) = (pd : Int) + 1 := by simp [IntKind.wrap, IntKind.bits, IntKind.signed]; omega
          have hpa : (0 : Int) ≤ (pd : Int) := by omega
          have hpb : (pd : Int) ≤ (pd : Int) + 1 := by omega
          have hpc : (pd : Int) + 1 ≤ 4 := by omega
          have tn : ((pd : Int) + 1).toNat = pd + 1 := by omega
          go_wp2
          go_quiet (fail)
          go_wp2
          go_roundw
          case rel => exact ⟨k + 1, _, by omega, by go_num, rfl, hz2, unhide HXD _⟩
          case measure => simp [intOf]; omega
        · obtain rfl : k = qs.length := by omega
          have hz3 : z.data.toList = F.map lett := by
            have h5 := unhide HFL
            rw [unhide hz, List.take_of_length_le (by omega)]
          have hF0 : F ≠ [] := by
            intro e
            have h5 := unhide HFL
            rw [e] at h5
            exact hq0 (List.length_eq_zero_iff.1 h5.symm)
          have hfl := field_lett t n (unhide HTS) hn2 hn4 hmay hval F hFn (by rw [unhide HFL]; exact hql) hF0
          have HC := hide (field_any t z)
          rw [hz3, hfl, unhide HFL, ← unhide HV] at HC
          dsimp only at HC
          clear hfl hz3 hF0 hz
          have HC2 : Hid (∀ w, Calls Try.prog 23 #[.agg #[.int .i64 (t).1, .int .i64 (t).2], .string z] w fun e w' => ∃ y, e = .returned (.tuple #[.agg #[.int .i64 (v).1, .int .i64 (v).2], y, .int .i64 0]) ∧ Own .i64 w' w.heap.size 3 y (F.map (fun p : Nat => (p : Int))) ∧ Ext w w') := unhide HC
          clear HC
          replace B := hide ((unhide B).ext (unhide hxr))
          replace X := hide ((unhide X).trans (unhide hxr))
          replace RA := hide ((unhide RA).ext (unhide hxr))
          replace RB := hide ((unhide RB).ext (unhide hxr))
          replace D1 := hide ((unhide D1).ext (unhide hxr))
          clear hxr
          obtain ⟨k0, k1⟩ := (unhide B).two
          go_wp2_with fail
          refine (unhide HC2 _).mono ?_
          rintro e w7 ⟨vc, rfl, hrc, hx⟩
          replace X := hide (((unhide X).trans hx).alloc (.cells #[.int .i64 (v).1, .int .i64 (v).2] 23))
          replace RA := hide (((unhide RA).ext hx).ext ((Ext.refl w7).alloc (.cells #[.int .i64 (v).1, .int .i64 (v).2] 23)))
          replace RB := hide (((unhide RB).ext hx).ext ((Ext.refl w7).alloc (.cells #[.int .i64 (v).1, .int .i64 (v).2] 23)))
          replace D1 := hide (((unhide D1).ext hx).alloc (.cells #[.int .i64 (v).1, .int .i64 (v).2] 23))
          have D2 := hide (Blk.new w7 #[.int .i64 (v).1, .int .i64 (v).2] 23)
          have RC := hide ((hrc.row).ext ((Ext.refl w7).alloc (.cells #[.int .i64 (v).1, .int .i64 (v).2] 23)))
          obtain ⟨co, ccap, rfl, -, -, -⟩ := hrc.row.shape
          clear hx hrc k0 k1 HC2 B
          go_upto_region 16 with fail
          generalize w7.alloc (.cells #[.int .i64 (v).1, .int .i64 (v).2] 23) = w8 at X RA RB RC D1 D2 ⊢
          generalize w7.heap.size = r2 at *
          try simp only [List.length_map]
          have hFq : F.length = qs.length := unhide HFL
          obtain ⟨m0, m1⟩ := (unhide D1).two
          obtain ⟨n0, n1⟩ := (unhide D2).two
          go_wp2
          go_loopw [86] (fun i wr => ∃ k : Nat, k ≤ qs.length ∧ i = .int .i64 (k : Int) ∧ Hid (Ext w8 wr)) (fun i _ => qs.length - (intOf i).toNat)
          case atStart => exact ⟨0, by omega, rfl, Ext.refl w8⟩
          case round =>
            obtain ⟨k, hk, rfl, hxr⟩ := hrel
            by_cases hlt2 : k < qs.length
            · have hk1 : k < (qs.map (fun p : Nat => (p : Int))).length := by simpa using hlt2
              obtain ⟨b2, o2, e2, cb⟩ := ((unhide RB).ext (unhide hxr)).at k hk1
              have cb1 := cb k hk1
              rw [List.getElem_map] at cb1
              have hqk : qs[k] < ps.length := hqsn _ (List.getElem_mem hlt2)
              have hq1 : qs[k] < (ps.map (fun p : Nat => (p : Int))).length := by simpa using hqk
              obtain ⟨b1, o1, e1, ca⟩ := ((unhide RA).ext (unhide hxr)).at qs[k] hq1
              have ca1 := ca qs[k] hq1
              rw [List.getElem_map] at ca1
              have hkF : k < F.length := by rw [unhide HFL]; exact hlt2
              have hkF1 : k < (F.map (fun p : Nat => (p : Int))).length := by simpa using hkF
              obtain ⟨b3, o3, e3, cc⟩ := ((unhide RC).ext (unhide hxr)).at k hkF1
              have cc1 := cc k hkF1
              rw [List.getElem_map] at cc1
              have hFk : F[k] = ps[qs[k]] := by
                have : F[k]? = some (ps.getD qs[k] 0) := by rw [unhide HF, List.getElem?_map, List.getElem?_eq_getElem hlt2]; rfl
                rw [List.getElem?_eq_getElem hkF, Option.some.injEq] at this
                rw [this, List.getD_eq_getElem?_getD, List.getElem?_eq_getElem hqk]
                rfl
              rw [hFk] at cc1
              subst e1 e2 e3
              clear ca cb cc hFk hkF
              generalize hpd : ps[qs[k]] = pd at *
              have HPD := hide hpd
              clear hpd
              generalize hqd : qs[k] = qd at *
              have HQD := hide hqd
              clear hqd
              have HXD := hide (fun m => (unhide hxr).drewN m)
              have hkl : (k : Int) < (qs.length : Int) := by omega
              have hql2 : (qd : Int) < (ps.length : Int) := by omega
              go_wp2
              go_quiet (fail)
              go_wp2
              go_roundw
              case rel => exact ⟨k + 1, by omega, by go_num, unhide HXD _⟩
              case measure => simp [intOf]; omega
            · have HXF := hide ((unhide X).trans (unhide hxr))
              go_wp2
              go_ret
              exact ⟨rfl, unhide HXF⟩

set_option maxRecDepth 100000 in
theorem kindsTwice_owes (H : Type) (enc : TypeId × Value → H) (W : World) (base : Nat) (args : Array Value) (ds : List (DataW H)) (p : List MemPlace) : Owes H enc Try.prog 8 Try.f8 Rows.kindsTwiceSpec W base args ds p := by
  intro hval hA hsz
  rw [Try.params8] at hA hval hsz
  obtain ⟨v0, vs0, d0, ds0, p0, q0, hargs, rfl, rfl, h0, r0⟩ := trodAll_cons hA
  obtain ⟨v1, vs1, d1, ds1, p1, q1, rfl, rfl, rfl, h1, r1⟩ := trodAll_cons r0
  obtain ⟨v2, vs2, d2, ds2, p2, q2, rfl, rfl, rfl, h2, r2⟩ := trodAll_cons r1
  obtain ⟨rfl, rfl, rfl⟩ := trodAll_nil r2
  obtain rfl : args = #[v0, v1, v2] := by cases args; simp_all
  obtain ⟨t, rfl⟩ := open_ty (hval 0 23 v0 rfl rfl) h0
  obtain ⟨s, rfl, rfl, rfl, ws⟩ := open_string Try.underlying9 (hval 1 9 v1 rfl rfl) h1
  obtain ⟨s2, rfl, rfl, rfl, ws2⟩ := open_string Try.underlying9 (hval 2 9 v2 rfl rfl) h2
  exact ⟨⟨rfl, rfl, rfl⟩, kindsTwice_any t s s2 W⟩

set_option maxRecDepth 100000 in
theorem kindsTwice_lifted (os : Os) (started : os.Started) (H : Type) (enc : TypeId × Value → H) :
    ReturnsInHanded {} Try.checked os 8 .any (Rows.kindsTwiceSpec.pre6 enc Try.prog Try.f8 [] false) (Rows.kindsTwiceSpec.post enc Try.prog Try.f8 false true false false) :=
  lift_law (C := Try.checked) own laidOut started (by kernel_rfl) Try.func8 (T := 4) rfl Try.underlying4 rfl (by kernel_rfl)
    (ChangeSpec.witness6 (enc := enc) (C := Try.checked) false ⟨#[], #[.agg #[.int .i64 0, .int .i64 0], .string ⟨#[]⟩, .string ⟨#[]⟩], []⟩ 8 (by kernel_rfl) (by kernel_rfl) (by kernel_rfl) (by kernel_rfl)) (kindsTwice_owes H enc)

theorem kindsTwice_holds : Rows.KindsTwiceSaid :=
  OpenClaim.holds_of_wide 8 Try.f8 rfl rfl rfl rfl rfl rfl rfl ⟨rfl, rfl, rfl, rfl, rfl⟩ rfl rfl rfl rfl rfl (by kernel_rfl) Try.func8 (by kernel_rfl)
    (of_decide_eq_true (by kernel_rfl)) (by unfold Func.isWrapper; rw [if_neg (of_decide_eq_false (by kernel_rfl))]; exact ⟨rfl, rfl⟩)
    (fun os started H enc _ => kindsTwice_lifted os started H enc)
#print axioms kindsTwice_holds
end Go.Proofs.Ytokmplebajgckaa
