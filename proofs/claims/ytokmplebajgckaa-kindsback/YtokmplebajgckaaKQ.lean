/-
  Types' words as functions, and calls. What the dump lacks is left out.
-/
import Derived.Test.YtokmplebajgckaaKP
namespace Go.Proofs.Ytokmplebajgckaa
open Go.RowKit
set_option linter.unusedVariables false
set_option linter.unusedSimpArgs false

def sumS : List Ty → Int
  | [] => 0
  | a :: l => a.2 + sumS l
def lastS (l : List Ty) : Int := match l.getLast? with | none => 0 | some t => t.2
theorem sumS_app (l m : List Ty) : sumS (l ++ m) = sumS l + sumS m := by
  induction l with
  | nil => simp [sumS]
  | cons a l ih =>
    simp only [List.cons_append, sumS, ih]
    omega
theorem sumS_take (A : List Ty) (k : Nat) (h : k < A.length) : sumS (A.take (k + 1)) = sumS (A.take k) + A[k].2 := by
  rw [List.take_succ_eq_append_getElem h, sumS_app]
  simp [sumS]
theorem lastS_take (A : List Ty) (k : Nat) (h : k < A.length) : lastS (A.take (k + 1)) = A[k].2 := by
  rw [List.take_succ_eq_append_getElem h]
  unfold lastS
  rw [List.getLast?_concat]
theorem may_size {t : Ty} (h : mayP t = true) : 0 ≤ t.2 ∧ t.2 ≤ 4 := by
  unfold mayP at h
  simp only [Bool.or_eq_true, Bool.and_eq_true, beq_iff_eq, decide_eq_true_eq] at h
  omega
theorem valu_size {t : Ty} (h : mayP t = true) (hv : valuP t = true) : 1 ≤ t.2 ∧ t.2 ≤ 4 := by
  unfold mayP at h
  unfold valuP numP at hv
  simp only [Bool.or_eq_true, Bool.and_eq_true, beq_iff_eq, decide_eq_true_eq] at h hv
  omega
theorem sumS_bound : ∀ (A : List Ty), A.all mayP = true → 0 ≤ sumS A ∧ sumS A ≤ 4 * A.length
  | [], _ => by simp [sumS]
  | a :: A, h => by
    simp only [List.all_cons, Bool.and_eq_true] at h
    have h1 := may_size h.1
    have h2 := sumS_bound A h.2
    simp only [sumS, List.length_cons]
    omega
theorem all_take {A : List Ty} {p : Ty → Bool} (h : A.all p = true) (k : Nat) : (A.take k).all p = true := by
  rw [List.all_eq_true] at h ⊢
  exact fun x hx => h x (List.mem_of_mem_take hx)
/-- Does a type's word take these? -/
def makesP (t : Ty) (A : List Ty) : Bool :=
  A.all valuP && (if A.length = 0 then false else if A.length = 1 then (sumS A == 1 || decide (t.2 ≤ sumS A)) else (decide (t.2 ≤ sumS A) && decide (sumS A - lastS A < t.2)))

set_option maxHeartbeats 4000000 in
theorem makes_any (t : Ty) (A : List Ty) (v : Value) (w : World) (hA : TyR w v A) (hm : A.all mayP = true) :
    Calls Try.prog 41 #[.agg #[.int .i64 (t).1, .int .i64 (t).2], v] w fun e w' => e = .returned (.bool (makesP t A)) ∧ Ext w w' := by
  have HA := hide hA
  obtain ⟨vo, vcap, rfl, hlen, -⟩ := hA
  have HMM := hide hm
  clear hm
  have B0 := hide (Blk.new w #[.int .i64 (t).1, .int .i64 (t).2] 23)
  have X0 := hide ((Ext.refl w).alloc (.cells #[.int .i64 (t).1, .int .i64 (t).2] 23))
  have HV := hide isValue_any
  obtain ⟨U, hU⟩ : ∃ U, makesP t A = U := ⟨_, rfl⟩
  rw [hU]
  have HU := hide hU
  clear hU
  go_enter Try.func41, Try.ntmps41
  go_wp2
  generalize w.alloc (.cells #[.int .i64 (t).1, .int .i64 (t).2] 23) = w1 at B0 X0 ⊢
  go_loopw [5, 6, 11] (fun s l i wr => ∃ k : Nat, k ≤ A.length ∧ s = .int .i64 (sumS (A.take k)) ∧ l = .int .i64 (lastS (A.take k)) ∧ i = .int .i64 (k : Int) ∧ Hid ((A.take k).all valuP = true) ∧ Hid (Blk wr w.heap.size #[.int .i64 (t).1, .int .i64 (t).2] 23) ∧ Hid (Ext w wr)) (fun _ _ i _ => A.length - (intOf i).toNat)
  case atStart => exact ⟨0, by omega, rfl, rfl, rfl, rfl, B0, X0⟩
  case round =>
    obtain ⟨k, hk, rfl, rfl, rfl, hv, hb, hx⟩ := hrel
    clear B0 X0
    by_cases hlt : k < A.length
    · obtain ⟨_, _, e, _, hat⟩ := (unhide HA).ext (unhide hx)
      obtain ⟨b, off, he, c0, c1⟩ := hat k hlt
      have e2 := (Value.slice.inj e).1
      subst e2
      clear hat e
      subst he
      have hs1 := hide (sumS_take A k hlt)
      have hl1 := hide (lastS_take A k hlt)
      have hmk : mayP A[k] = true := List.all_eq_true.1 (unhide HMM) _ (List.getElem_mem hlt)
      have hbd := sumS_bound (A.take k) (all_take (unhide HMM) k)
      have hlt3 : (A.take k).length ≤ 1000 := by simp; omega
      have hmz := may_size hmk
      have hva : (A.take (k + 1)).all valuP = ((A.take k).all valuP && valuP A[k]) := by
        rw [List.take_succ_eq_append_getElem hlt, List.all_append]
        simp only [List.all_cons, List.all_nil, Bool.and_true]
      have hall : valuP A[k] = false → A.all valuP = false := by
        intro h
        rw [Bool.eq_false_iff]
        intro h2
        rw [List.all_eq_true.1 h2 _ (List.getElem_mem hlt)] at h
        cases h
      obtain ⟨p, hp⟩ : ∃ p, p = A[k] := ⟨_, rfl⟩
      rw [← hp] at c0 c1 hs1 hl1 hva hall hmz
      rw [unhide hv, Bool.true_and] at hva
      generalize sumS (A.take k) = s at *
      have HX2 := hide ((unhide hx).alloc (.cells #[.int .i64 (p).1, .int .i64 (p).2] 23))
      have HB2 := hide ((unhide hb).alloc (.cells #[.int .i64 (p).1, .int .i64 (p).2] 23))
      have HP2 := hide (Blk.new wr #[.int .i64 (p).1, .int .i64 (p).2] 23)
      have HVA := hide hva
      have HAL := hide hall
      clear hp hva hall hmk hv hb hx
      cases hvp : valuP p with
      | false =>
        have hu : U = false := by
          rw [← unhide HU]
          unfold makesP
          rw [unhide HAL hvp]
          rfl
        subst hu
        have HV2 := hide (unhide HV p)
        rw [hvp] at HV2
        clear HU HAL HVA
        go_wp2_with fail
        refine (unhide HV2 _).mono ?_
        rintro e w3 ⟨rfl, hx3⟩
        have HX3 := hide ((unhide HX2).trans hx3)
        clear hx3
        go_wp2
        go_ret
        exact ⟨rfl, unhide HX3⟩
      | true =>
        have HV2 := hide (unhide HV p)
        rw [hvp] at HV2 HVA
        go_wp2_with fail
        refine (unhide HV2 _).mono ?_
        rintro e w3 ⟨rfl, hx3⟩
        have HX3 := hide (fun n => ((unhide HX2).trans hx3).drewN n)
        have HB3 := hide (fun n => ((unhide HB2).ext hx3).drewN n)
        obtain ⟨d0, d1⟩ := ((unhide HP2).ext hx3).two
        clear hx3
        have hw : IntKind.i64.wrap (s + p.2) = s + p.2 := by simp [IntKind.wrap, IntKind.bits, IntKind.signed]; omega
        go_wp2
        go_quiet (fail)
        go_wp2
        go_roundw
        case rel => exact ⟨k + 1, by omega, by rw [unhide hs1], by rw [unhide hl1], by go_num, HVA, unhide HB3 _, unhide HX3 _⟩
        case measure => simp [intOf]; omega
    · obtain rfl : k = A.length := by omega
      have hv2 := unhide hv
      rw [List.take_length] at hv2
      rw [List.take_length]
      have hbd := sumS_bound A (unhide HMM)
      have hls : lastS A ≤ 4 ∧ 0 ≤ lastS A := by
        unfold lastS
        cases hg : A.getLast? with
        | none => simp
        | some u =>
          have := may_size (List.all_eq_true.1 (unhide HMM) u (List.mem_of_getLast? hg))
          exact ⟨this.2, this.1⟩
      have hU := unhide HU
      unfold makesP at hU
      rw [hv2, Bool.true_and] at hU
      obtain ⟨d0, d1⟩ := (unhide hb).two
      generalize sumS A = s at *
      generalize lastS A = l at *
      clear hv hv2 HU
      by_cases h0 : A.length = 0
      · rw [if_pos h0] at hU
        subst hU
        have q0 : ((A.length : Int) == 0) = true := by simp [h0]
        have HX := hx
        go_wp2
        go_ret
        exact ⟨rfl, unhide HX⟩
      · have q0 : ((A.length : Int) == 0) = false := beq_eq_false_iff_ne.2 (by omega)
        rw [if_neg h0] at hU
        by_cases h1 : A.length = 1
        · rw [if_pos h1] at hU
          have q1 : ((A.length : Int) == 1) = true := by simp [h1]
          cases qs : (s == 1) with
          | true =>
            rw [qs, Bool.true_or] at hU
            subst hU
            clear h0 h1
            go_wp2
            go_ret
            exact ⟨rfl, unhide hx⟩
          | false =>
            rw [qs, Bool.false_or] at hU
            subst hU
            clear h0 h1
            go_wp2
            go_ret
            exact ⟨rfl, unhide hx⟩
        · rw [if_neg h1] at hU
          have q1 : ((A.length : Int) == 1) = false := beq_eq_false_iff_ne.2 (by omega)
          have hw : IntKind.i64.wrap (s - l) = s - l := by simp [IntKind.wrap, IntKind.bits, IntKind.signed]; omega
          by_cases hts : t.2 ≤ s
          · rw [decide_eq_true hts, Bool.true_and] at hU
            subst hU
            clear h0 h1
            go_wp2
            go_ret
            exact ⟨rfl, unhide hx⟩
          · rw [decide_eq_false hts, Bool.false_and] at hU
            subst hU
            clear h0 h1
            go_wp2
            go_ret
            exact ⟨rfl, unhide hx⟩

/-- What comes of a call. -/
def callT (n : Byts8) (A : List Ty) : Ty × Int × Int :=
  if A.all mayP = false then (noT, 0, 2)
  else match fnP n with
    | some f => callP f A
    | none => if (ofP n).2 ≠ 0 ∨ valuP (ofP n).1 = false then (noT, 0, 4) else if makesP (ofP n).1 A then ((ofP n).1, 23, 0) else (noT, 0, 230)
theorem zeroFn (w : World) : (zeroValue 62).run Try.prog w = .ok (.agg #[.int .i64 0, .int .i64 0]) w := by
  have h : (Try.prog.info? 62).map (·.zero) = some (some (.agg #[.int .i64 0, .int .i64 0])) := by kernel_rfl
  cases hq : Try.prog.info? 62 with
  | none => simp [hq] at h
  | some i =>
    have hz : i.zero = some (.agg #[.int .i64 0, .int .i64 0]) := by simpa [hq] using h
    simp [zeroValue, typeInfo, hq, hz]

set_option maxHeartbeats 4000000 in
theorem callT_any (n : Byts8) (A : List Ty) (v : Value) (w : World) (hn : n.length ≤ maxLen) (hA : TyR w v A) :
    Calls Try.prog 25 #[.string ⟨n.toArray⟩, v] w fun e w' => e = .returned (.tuple #[.agg #[.int .i64 ((callT n A).1).1, .int .i64 ((callT n A).1).2], .int .i64 (callT n A).2.1, .int .i64 (callT n A).2.2]) ∧ Ext w w' := by
  have HA := hide hA
  obtain ⟨vo, vcap, rfl, -, -⟩ := hA
  have HFN := hide functions_any
  have HMB := hide (fun wx (hx : Ext w wx) => mayBe_any _ A wx ((unhide HA).ext hx))
  have HCA := hide (fun f wx (hx : Ext w wx) => call_any f A _ wx ((unhide HA).ext hx))
  have HMK := hide (fun t wx (hm : A.all mayP = true) (hx : Ext w wx) => makes_any t A _ wx ((unhide HA).ext hx) hm)
  have HOF := hide (of_any n)
  have HVA := hide isValue_any
  have H0 : Hid (Reg w [] w.heap.size (w.alloc (.cells #[.int .i64 0, .int .i64 0] 23))) :=
    ⟨(Ext.refl w).alloc _, fun p hp => absurd hp (by simp), ⟨_, _, Blk.at rfl⟩, by omega, fun p hp => absurd hp (by simp)⟩
  obtain ⟨U, hU⟩ : ∃ U, callT n A = U := ⟨_, rfl⟩
  rw [hU]
  unfold callT at hU
  go_enter Try.func25, Try.ntmps25
  go_wp2_with fail
  refine (unhide HMB _ (unhide H0).1).mono ?_
  rintro e w1 ⟨rfl, hx1⟩
  have H1 := hide (Reg.ext hx1 (unhide H0))
  clear hx1 H0 HMB
  cases hm : A.all mayP with
  | false =>
    rw [if_pos hm] at hU
    subst hU
    obtain ⟨x, y, r0, r1, z0, z1⟩ := (unhide H1).res
    have HF := hide ((unhide H1).fin (.int .i64 0) (.int .i64 0))
    go_wp2
    obtain ⟨s0, s1⟩ := (unhide HF).1.two
    exact bodyPost_ret (v := .tuple #[.agg #[.int .i64 (noT).1, .int .i64 (noT).2], .int .i64 0, .int .i64 2]) (by simp [results, Try.results25, go_sem, s0, s1, noT]) rfl ⟨rfl, (unhide HF).2⟩
  | true =>
    rw [if_neg (by rw [hm]; decide)] at hU
    have HMK2 := hide (fun t wx (hx : Ext w wx) => unhide HMK t wx hm hx)
    clear hm HMK
    go_wp2_with fail
    refine (unhide HFN _).mono ?_
    rintro e w2 ⟨rfl, hF, hx2⟩
    have hlk := hF.look (t := 64) Try.underlying64 (zeroFn w2) n hn
    have H2 := hide (Reg.ext hx2 (unhide H1))
    clear hx2 hF hn H1 HFN
    cases hf : fnP n with
    | some f =>
      rw [hf] at hlk hU
      simp only [Option.map_some, Option.getD_some, Option.isSome_some] at hlk
      unfold tyV at hlk
      dsimp only at hU
      subst hU
      have H3 := hide (Reg.ext ((Ext.refl w2).alloc (.cells #[.int .i64 (f).1, .int .i64 (f).2] 62)) (unhide H2))
      go_wp2_with fail
      refine (unhide HCA f _ (unhide H3).1).mono ?_
      rintro e w4 ⟨rfl, hx4⟩
      have H4 := hide (Reg.ext hx4 (unhide H3))
      clear hx4 H3 H2
      obtain ⟨x, y, r0, r1, z0, z1⟩ := (unhide H4).res
      have HF := hide ((unhide H4).fin (.int .i64 (callP f A).1.1) (.int .i64 (callP f A).1.2))
      go_wp2
      obtain ⟨s0, s1⟩ := (unhide HF).1.two
      exact bodyPost_ret (v := .tuple #[.agg #[.int .i64 ((callP f A).1).1, .int .i64 ((callP f A).1).2], .int .i64 (callP f A).2.1, .int .i64 (callP f A).2.2]) (by simp [results, Try.results25, go_sem, s0, s1]) rfl ⟨rfl, (unhide HF).2⟩
    | none =>
      rw [hf] at hlk hU
      simp only [Option.map_none, Option.getD_none, Option.isSome_none] at hlk
      dsimp only at hU
      have H3 := hide (Reg.ext ((Ext.refl w2).alloc (.cells #[.int .i64 0, .int .i64 0] 62)) (unhide H2))
      go_wp2_with fail
      refine (unhide HOF _).mono ?_
      rintro e w4 ⟨rfl, hx4⟩
      generalize ofP n = Q at *
      obtain ⟨t, er⟩ := Q
      dsimp only at hU ⊢
      have H4 := hide (Reg.ext hx4 (unhide H3))
      have H5 := hide (Reg.ext ((Ext.refl w4).alloc (.cells #[.int .i64 (t).1, .int .i64 (t).2] 23)) (unhide H4))
      have B5 := hide (Blk.new w4 #[.int .i64 (t).1, .int .i64 (t).2] 23)
      clear hx4 H3 H2
      go_upto_region 7 with fail
      generalize w4.alloc (.cells #[.int .i64 (t).1, .int .i64 (t).2] 23) = w5 at H5 B5 ⊢
      generalize w4.heap.size = r at *
      obtain ⟨c0, c1⟩ := (unhide B5).two
      by_cases he : er = 0
      · subst he
        have HVA2 := hide (unhide HVA t)
        cases hv : valuP t with
        | false =>
          rw [if_pos (.inr hv)] at hU
          subst hU
          rw [hv] at HVA2
          go_wp2_with fail
          refine (unhide HVA2 _).mono ?_
          rintro e w6 ⟨rfl, hx6⟩
          have H6 := hide (Reg.ext hx6 (unhide H5))
          clear hx6
          obtain ⟨x, y, r0, r1, z0, z1⟩ := (unhide H6).res
          have HF := hide ((unhide H6).fin (.int .i64 0) (.int .i64 0))
          go_wp2
          obtain ⟨s0, s1⟩ := (unhide HF).1.two
          exact bodyPost_ret (v := .tuple #[.agg #[.int .i64 (noT).1, .int .i64 (noT).2], .int .i64 0, .int .i64 4]) (by simp [results, Try.results25, go_sem, s0, s1, noT]) rfl ⟨rfl, (unhide HF).2⟩
        | true =>
          rw [if_neg (by rw [hv]; simp)] at hU
          rw [hv] at HVA2
          have HMK3 := hide (unhide HMK2 t)
          go_wp2_with fail
          refine (unhide HVA2 _).mono ?_
          rintro e w6 ⟨rfl, hx6⟩
          have H6 := hide (Reg.ext hx6 (unhide H5))
          have B6 := hide ((unhide B5).ext hx6)
          clear hx6 c0 c1
          obtain ⟨c0, c1⟩ := (unhide B6).two
          go_wp2_with fail
          refine (unhide HMK3 _ (unhide H6).1).mono ?_
          rintro e w7 ⟨rfl, hx7⟩
          have H7 := hide (Reg.ext hx7 (unhide H6))
          have B7 := hide ((unhide B6).ext hx7)
          clear hx7 c0 c1
          obtain ⟨c0, c1⟩ := (unhide B7).two
          obtain ⟨x, y, r0, r1, z0, z1⟩ := (unhide H7).res
          cases hk : makesP t A with
          | true =>
            rw [hk, if_pos rfl] at hU
            subst hU
            have HF := hide ((unhide H7).fin (.int .i64 t.1) (.int .i64 t.2))
            go_wp2
            obtain ⟨s0, s1⟩ := (unhide HF).1.two
            exact bodyPost_ret (v := .tuple #[.agg #[.int .i64 (t).1, .int .i64 (t).2], .int .i64 23, .int .i64 0]) (by simp [results, Try.results25, go_sem, s0, s1]) rfl ⟨rfl, (unhide HF).2⟩
          | false =>
            rw [hk, if_neg (by decide)] at hU
            subst hU
            have HF := hide ((unhide H7).fin (.int .i64 0) (.int .i64 0))
            go_wp2
            obtain ⟨s0, s1⟩ := (unhide HF).1.two
            exact bodyPost_ret (v := .tuple #[.agg #[.int .i64 (noT).1, .int .i64 (noT).2], .int .i64 0, .int .i64 230]) (by simp [results, Try.results25, go_sem, s0, s1, noT]) rfl ⟨rfl, (unhide HF).2⟩
      · rw [if_pos (.inl he)] at hU
        subst hU
        have qe : (er != 0) = true := by simp [he]
        clear he
        obtain ⟨x, y, r0, r1, z0, z1⟩ := (unhide H5).res
        have HF := hide ((unhide H5).fin (.int .i64 0) (.int .i64 0))
        go_wp2
        obtain ⟨s0, s1⟩ := (unhide HF).1.two
        exact bodyPost_ret (v := .tuple #[.agg #[.int .i64 (noT).1, .int .i64 (noT).2], .int .i64 0, .int .i64 4]) (by simp [results, Try.results25, go_sem, s0, s1, noT]) rfl ⟨rfl, (unhide HF).2⟩
end Go.Proofs.Ytokmplebajgckaa
