/-
  The machine of registers: a run, step by step.
-/
import Derived.Test.YtglfhmlcmffoaaaGreatVG8J
namespace Go.Proofs.YtglfhmlcmffoaaaGreat
open Go.RowKit
set_option linter.unusedVariables false
set_option linter.unusedSimpArgs false

/-- What a store does, for an instruction of a code that may be. -/
theorem storeM_any {C : Cod} {w0 w : World} {mb : Nat} {E : EnvC} {vr vy : Value} {s : St} {n k : Nat} (I : Nat → Int) (hM : MAt w0 w mb E vr vy s)
    (hR : (s.R.length : Int) = C.regs) (hV : C.stage = 1 → (s.V.length : Int) = C.vary) (ha : Ask C n k I) (e : I 0 = 4) :
    Calls Tryz.prog 41 #[.pointer (some ⟨mb, 0, none⟩), .agg (insA I)] w fun e w' => e = .returned (.tuple #[]) ∧ MAt w0 w' mb E vr vy (storS s I) ∧ ∃ b, MB mb vr vy b ∧ w.grownBy w' (some b) := by
  have hm := hM.1
  have hr := hM.2.1.row
  have r6 : 0 ≤ I 6 ∧ I 6 < (s.R.length : Int) := by rw [hR]; exact ha.r6 (by omega)
  obtain ⟨hop, h3⟩ := stor_in (ha.stor e)
  have V : ∀ o : Int, I 1 = o → storS s I = (if o = 1 then { s with po := reg s.R (I 6) } else if o = 2 then { s with sz := reg s.R (I 6) 0 } else if o = 3 then { s with V := s.V.set (I 5).toNat (reg s.R (I 6)) } else { s with cl := reg s.R (I 6) }) := fun o e => by subst e; rfl
  rcases hop with e1 | e1 | e1 | e1
  · rw [V 1 e1]
    refine (store_1 I e1 hm hr r6).mono ?_
    rintro e2 w2 ⟨rfl, hb, hg⟩
    exact ⟨rfl, hM.setPo hb hg, mb, .inl rfl, hg⟩
  · rw [V 2 e1]
    refine (store_2 I e1 hm hr r6).mono ?_
    rintro e2 w2 ⟨rfl, hb, hg⟩
    exact ⟨rfl, hM.setSz hb hg, mb, .inl rfl, hg⟩
  · rw [V 3 e1]
    obtain ⟨hs, h5⟩ := h3 e1
    refine (store_3 I e1 hm hr r6 hM.2.2.1 (by rw [hV hs]; exact h5) (fun g hg => (hM.2.2.2.2.2.2 g hg).1)).mono ?_
    rintro e2 w2 ⟨rfl, g, hg, hv, hgr⟩
    exact ⟨rfl, hM.setV hg hv hgr, g, .inr (.inr hg), hgr⟩
  · rw [V 4 e1]
    refine (store_4 I e1 hm hr r6).mono ?_
    rintro e2 w2 ⟨rfl, hb, hg⟩
    exact ⟨rfl, hM.setCl hb hg, mb, .inl rfl, hg⟩
theorem OV.slc {w : World} {base : Nat} {v : Value} {L : List (Nat → Int)} (h : OV w base v L) {k : Nat} (hk : k < L.length) :
    ∃ g cap, v = .slice (some ⟨g, 0, none⟩) L.length cap ∧ ∀ wx, Ext w wx → (wx.cell? ⟨g, k * 4, none⟩ = some (.int .i32 (L[k] 0)) ∧ wx.cell? ⟨g, k * 4 + 1, none⟩ = some (.int .i32 (L[k] 1)) ∧ wx.cell? ⟨g, k * 4 + 2, none⟩ = some (.int .i32 (L[k] 2)) ∧ wx.cell? ⟨g, k * 4 + 3, none⟩ = some (.int .i32 (L[k] 3))) ∧
      wx.frozen? ⟨g, k * 4, none⟩ = false ∧ wx.frozen? ⟨g, k * 4 + 1, none⟩ = false ∧ wx.frozen? ⟨g, k * 4 + 2, none⟩ = false ∧ wx.frozen? ⟨g, k * 4 + 3, none⟩ = false := by
  obtain ⟨ao, cap, rfl, _⟩ := GO.shape h
  obtain ⟨g, e, _, _, _⟩ := GO.at vEnc_len h k hk
  subst e
  refine ⟨g, cap, rfl, fun wx hx => ?_⟩
  have hw := OV.ext9 h hx
  obtain ⟨g2, e2, _, _, hc⟩ := GO.at vEnc_len hw k hk
  cases e2
  exact ⟨⟨hc 0 _ (by omega) rfl, hc 1 _ (by omega) rfl, hc 2 _ (by omega) rfl, hc 3 _ (by omega) rfl⟩, hw.frozen _, hw.frozen _, hw.frozen _, hw.frozen _⟩
theorem MAt.setRV {w0 w : World} {mb : Nat} {E : EnvC} {vr vy : Value} {s : St} {g n cap : Nat} (h : MAt w0 w mb E vr vy s) (e : vr = .slice (some ⟨g, 0, none⟩) n cap) (k : Nat) (hk : k < s.R.length) (x : Nat → Int) :
    MAt w0 ((((w.setCell ⟨g, k * 4, none⟩ (.int .i32 (x 0))).setCell ⟨g, k * 4 + 1, none⟩ (.int .i32 (x 1))).setCell ⟨g, k * 4 + 2, none⟩ (.int .i32 (x 2))).setCell ⟨g, k * 4 + 3, none⟩ (.int .i32 (x 3))) mb E vr vy { s with R := s.R.set k x } := by
  subst e
  exact h.setR k hk x
theorem may_vary {C : Cod} (h : mayP C = true) (h1 : C.stage = 1) : 0 ≤ C.vary ∧ C.vary ≤ 4 := by
  simp only [mayP, Bool.and_eq_true] at h
  have h2 := h.1
  unfold headB at h2
  rw [if_pos h1] at h2
  simp only [Bool.and_eq_true, inB_iff] at h2
  omega
theorem storS_R (s : St) (I : Nat → Int) : (storS s I).R = s.R ∧ (storS s I).V.length = s.V.length ∧ (storS s I).dc = s.dc := by
  unfold storS
  repeat' split
  all_goals simp

set_option maxRecDepth 10000 in
set_option maxHeartbeats 8000000 in
theorem run_any {C : Cod} {S : Sur} {G : List (Img × Value × List Ent)} {w0 w : World} {mb : Nat} {E : EnvC} {vr vy v : Value} {g : FuncId} {lb : Array Value} {Tr : World → List Nat → Prop} (hmay : mayP C = true) (hM : MAt w0 w mb E vr vy (st0 C)) (hS : SurAt w0 E S) (hG : GR w0 E.vi G) (hf : Fit C S)
    (hI : IR w0 v C.ins) (hok : ∀ I ∈ C.ins, OkI I) (hsee : Sees Tryz.prog w0 mb vr vy g lb Tr) (hTr : Tr w []) :
    Calls Tryz.prog 27 #[.pointer (some ⟨mb, 0, none⟩), v, .func (.func g) #[] lb] w fun e w' => RunM w0 mb E vr vy Tr (runP C S G) e w' := by
  obtain ⟨hlen, hrg0, hrg1⟩ := may_regs hmay
  have HASK := hide (fun k hk => may_ask hmay k hk)
  obtain ⟨pl, hpl⟩ : ∃ q, runP C S G = q := ⟨_, rfl⟩
  rw [hpl]
  have HPL := hide hpl
  obtain ⟨ao, cap, rfl, hn0, hlc, hcm, hat⟩ := hI
  have HAT := hide hat
  have HS := hide hS
  have HG := hide hG
  have HF := hide hf
  have HOK := hide hok
  have HSEE := hide hsee
  have eg := hsee.enters
  have h0 := hide (And.intro hM hTr)
  have HVY := hide (fun (h1 : C.stage = 1) => may_vary hmay h1)
  have hRl := hide (show ((st0 C).R.length : Int) = C.regs by simp [st0]; omega)
  clear hmay hat hS hG hf hok hsee hM hTr hpl hn0
  unfold maxLen at hcm
  obtain ⟨n, hn⟩ : ∃ n, C.ins.length = n := ⟨_, rfl⟩
  have HN := hide hn
  rw [hn] at hlen hlc ⊢
  clear hn
  go_enter Tryz.func27, Tryz.ntmps27
  go_wp2
  go_step3
  go_wp2
  go_step3
  go_wp2
  go_loopw [6] (fun p wr => ∃ (k f : Nat) (s : St) (tr : List Nat), k ≤ n ∧ p = .int .i64 (k : Int) ∧ Hid (MAt w0 wr mb E vr vy s ∧ Tr wr tr ∧ (runF C.ins S G f k s).1 = pl.1 ∧ tr ++ (runF C.ins S G f k s).2 = pl.2 ∧ n ≤ f + k ∧ s.dc = false ∧ (s.R.length : Int) = C.regs ∧ (C.stage = 1 → (s.V.length : Int) = C.vary) ∧ (∀ x i, I32 (reg s.R x i)) ∧ tr.length ≤ k)) (fun p _ => n - (intOf p).toNat)
  case atStart =>
    refine ⟨0, n, st0 C, [], Nat.zero_le _, rfl, (unhide h0).1, (unhide h0).2, ?_, ?_, by omega, rfl, unhide hRl, ?_, ?_, by simp⟩
    · rw [← unhide HPL, runP, unhide HN]
    · rw [← unhide HPL, runP, unhide HN, List.nil_append]
    · intro h1
      have := unhide HVY h1
      simp [st0, h1]
      omega
    · intro x i
      unfold reg
      rw [List.getD_eq_getElem?_getD]
      simp only [st0, List.getElem?_replicate]
      split <;> (unfold nul I32; simp)
  case round =>
    obtain ⟨k, f, s, tr, hk, rfl, hrel⟩ := hrel
    have R0 := hide hrel
    clear h0
    by_cases hlt : k < n
    case neg =>
      obtain rfl : k = n := by omega
      have hF : ∀ f, runF C.ins S G f k s = (s, []) := fun f => by
        cases f with
        | zero => rfl
        | succ f => rw [runF, dif_neg (by rw [unhide HN]; omega)]
      have h2 := hide hrel.2.2.1
      have h3 := hide hrel.2.2.2.1
      rw [hF] at h2 h3
      have HE := hide (And.intro (unhide h2) (unhide h3))
      clear hF h2 h3 hrel
      go_wp2
      refine bodyPost_end (v := .tuple #[]) (by simp [results, Tryz.results27, go_sem]) rfl ?_
      refine ⟨rfl, ?_, .inl ⟨?_, ?_⟩⟩
      · rw [← (unhide HE).2, List.append_nil]
        exact (unhide R0).2.1
      · rw [← (unhide HE).1]
        exact (unhide R0).2.2.2.2.2.1
      · rw [← (unhide HE).1]
        exact (unhide R0).1
    case pos =>
    have hf1 : 0 < f := by have := hrel.2.2.2.2.1; omega
    obtain ⟨f, rfl⟩ : ∃ f', f = f' + 1 := ⟨f - 1, by omega⟩
    have hkC : k < C.ins.length := by rw [unhide HN]; exact hlt
    have hki : (k : Int) < (n : Int) := by omega
    have HK := hide hkC
    have hA := unhide HASK k hkC
    rw [unhide HN] at hA
    have hAsk := hide hA
    have hOk := hide (unhide HOK C.ins[k] (List.getElem_mem hkC))
    have hU := hide (show runF C.ins S G (f + 1) k s = _ from by rw [runF, dif_pos hkC])
    obtain ⟨b, off, rfl, hrg⟩ := (unhide HAT) k hkC
    have hcal := hide ((unhide HSEE).see k wr tr (unhide R0).2.1 (by have := (unhide R0).2.2.2.2.2.2.2.2.2; omega) (by omega) (unhide R0).1.2.2.2.1)
    generalize C.ins[k] = I at *
    have HRG := hide hrg
    clear hrel hA hrg hf1 hkC
    go_upto_region 3 with (go_at_fn g; refine (unhide hcal).mono ?_; rintro e w1 ⟨rfl, hTr1, hout⟩; have M1 := hide ((unhide R0).1.out hout); have T1 := hide hTr1; clear hTr1 hout)
    have HR1 := hide (rng_ext (unhide HRG) (unhide M1).2.2.2.1)
    go_upto_region 4 with (first
      | (refine wpList_load_mid rfl 59 (.tmp 17) rfl b (off + k * 16) rfl (insA I).toList _ (unhide HR1) Tryz.underlying59 rfl sizeI16 ?_; rw [Array.toArray_toList])
      | refine wpList_storeLast rfl 59 (.tmp 7) (.tmp 18) rfl _ w1.heap.size (by simp) rfl (insA I) rfl 16 sizeI16 rfl rfl (insA_one I) ?_)
    have B2 : Hid (Blk (w1.alloc (.cells (insA I) 59)) w1.heap.size (insA I) 59) := Blk.new _ _ _
    have M2 := hide ((unhide M1).ext ((Ext.refl w1).alloc (.cells (insA I) 59)))
    have T2 := hide ((unhide HSEE).ext _ _ _ (unhide T1) ((Ext.refl w1).alloc (.cells (insA I) 59)))
    have hmb1 : mb < w1.heap.size := (unhide M1).1.lt
    have hgr1 : ∀ gr, vr.ownBlock = some gr → gr < w1.heap.size := fun gr h => (GO.lt (unhide M1).2.1 gr h).2
    have HGR := hide hgr1
    have hgv1 : ∀ gr, vy.ownBlock = some gr → gr < w1.heap.size := fun gr h => (GO.lt (unhide M1).2.2.1 gr h).2
    have HGV := hide hgv1
    obtain ⟨B, hB⟩ : ∃ B, w1.heap.size = B := ⟨_, rfl⟩
    rw [hB] at B2 hmb1 HGR HGV
    rw [show Value.pointer (some ⟨w1.heap.size, 0, none⟩) = Value.pointer (some ⟨B, 0, none⟩) by rw [hB]]
    clear hB hgr1 hgv1 hcal
    generalize w1.alloc (.cells (insA I) 59) = w2 at B2 M2 T2 ⊢
    have hne : ¬ mb = B := by omega
    have i0 := ins_at (unhide B2) 0 (v := .int .i64 (I 0)) rfl
    have R := hide (show runF C.ins S G (f + 1) k s = _ from (unhide hU))
    have hop := (unhide hAsk).op
    have hinv := hide (And.intro (unhide R0).2.2.1 (And.intro (unhide R0).2.2.2.1 (And.intro (unhide R0).2.2.2.2.1 (unhide R0).2.2.2.2.2)))
    clear R0 M1 T1 HR1 HRG HK
    have hmn : ∀ m : Nat, I 5 = (m : Int) → (I 5).toNat = m := fun m h => by omega
    by_cases e10 : I 0 = 10
    case pos =>
      have RE : runF C.ins S G (f + 1) k s = ((runF C.ins S G f (I 5).toNat s).1, k :: (runF C.ins S G f (I 5).toNat s).2) := by rw [unhide R, if_pos e10]
      obtain ⟨hj1, hj2⟩ := (unhide hAsk).jump (.inl e10)
      obtain ⟨m, em⟩ : ∃ m : Nat, I 5 = (m : Int) := ⟨(I 5).toNat, by omega⟩
      rw [hmn m em] at RE
      have HRE : Hid ((runF C.ins S G f m s).1 = pl.1 ∧ tr ++ ([k] ++ (runF C.ins S G f m s).2) = pl.2) := by
        have h1 := (unhide hinv).1
        have h2 := (unhide hinv).2.1
        rw [RE] at h1 h2
        exact ⟨h1, h2⟩
      clear RE
      have i5 := ins_at (unhide B2) 5 (v := .int .i64 (I 5)) rfl
      rw [em] at i5 hj1 hj2
      rw [e10] at i0
      clear em e10 hop hmn
      go_wp2
      go_roundw
      case rel =>
        first
        | (
          refine ⟨m, f, s, tr ++ [k], by omega, by first | rfl | go_num, unhide M2, unhide T2, ?_, ?_, by have := (unhide hinv).2.2.1; omega, ?_, ?_, ?_, ?_, by have := (unhide hinv).2.2.2.2.2.2.2; simp; omega⟩
          · exact (unhide HRE).1
          · rw [List.append_assoc]
            exact (unhide HRE).2
          · exact (unhide hinv).2.2.2.1
          · exact (unhide hinv).2.2.2.2.1
          · exact (unhide hinv).2.2.2.2.2.1
          · exact (unhide hinv).2.2.2.2.2.2.1
          )
      case measure => simp [intOf]; omega
    case neg =>
    have d10 : (I 0 == 10) = false := by simp [e10]
    by_cases e11 : I 0 = 11
    case pos =>
      have RE : runF C.ins S G (f + 1) k s = (if reg s.R (I 6) 0 = 0 then ((runF C.ins S G f (I 5).toNat s).1, k :: (runF C.ins S G f (I 5).toNat s).2) else ((runF C.ins S G f (k + 1) s).1, k :: (runF C.ins S G f (k + 1) s).2)) := by rw [unhide R, if_neg e10, if_pos e11]
      obtain ⟨hj1, hj2⟩ := (unhide hAsk).jump (.inr e11)
      have h6 := (unhide hAsk).r6 (by omega)
      obtain ⟨m, em⟩ : ∃ m : Nat, I 5 = (m : Int) := ⟨(I 5).toNat, by omega⟩
      rw [hmn m em] at RE
      have i5 := ins_at (unhide B2) 5 (v := .int .i64 (I 5)) rfl
      rw [em] at i5 hj1 hj2
      have i6 := ins_at (unhide B2) 6 (v := .int .i64 (I 6)) rfl
      have hRl := (unhide hinv).2.2.2.2.1
      obtain ⟨br, offr, capr, evr, _, hall⟩ := (unhide M2).2.1.row.slc (by have := h6.1; have := h6.2; omega)
      obtain ⟨k6, ek6, hk6, r60, _⟩ := hall (I 6) h6.1 (by omega)
      have m13 := mc_at (unhide M2).1 13 (v := vr) rfl
      rw [evr] at m13
      rw [ek6] at i6
      rw [e11] at i0
      generalize reg s.R (I 6) 0 = y at *
      generalize s.R.length = rl at hk6 m13 hRl hall evr
      clear em hop hmn hall ek6 h6
      by_cases hy : y = 0
      case pos =>
        rw [if_pos hy] at RE
        subst hy
        have HRE : Hid ((runF C.ins S G f m s).1 = pl.1 ∧ tr ++ ([k] ++ (runF C.ins S G f m s).2) = pl.2) := by
          have h1 := (unhide hinv).1
          have h2 := (unhide hinv).2.1
          rw [RE] at h1 h2
          exact ⟨h1, h2⟩
        clear RE
        clear e11
        go_wp2
        go_quiet (fail)
        go_wp2
        go_roundw
        case rel =>
          refine ⟨m, f, s, tr ++ [k], by omega, by first | rfl | go_num, (unhide M2).ext ((Ext.refl w2).drewN _), (unhide HSEE).ext _ _ _ (unhide T2) ((Ext.refl w2).drewN _), ?_, ?_, by have := (unhide hinv).2.2.1; omega, ?_, ?_, ?_, ?_, by have := (unhide hinv).2.2.2.2.2.2.2; simp; omega⟩
          · exact (unhide HRE).1
          · rw [List.append_assoc]
            exact (unhide HRE).2
          · exact (unhide hinv).2.2.2.1
          · exact (unhide hinv).2.2.2.2.1
          · exact (unhide hinv).2.2.2.2.2.1
          · exact (unhide hinv).2.2.2.2.2.2.1
        case measure => simp [intOf]; omega
      case neg =>
        rw [if_neg hy] at RE
        have dy : (y == 0) = false := by simp [hy]
        have HRE : Hid ((runF C.ins S G f (k + 1) s).1 = pl.1 ∧ tr ++ ([k] ++ (runF C.ins S G f (k + 1) s).2) = pl.2) := by
          have h1 := (unhide hinv).1
          have h2 := (unhide hinv).2.1
          rw [RE] at h1 h2
          exact ⟨h1, h2⟩
        clear RE
        clear e11 hy
        go_wp2
        go_quiet (fail)
        go_wp2
        go_roundw
        case rel =>
          refine ⟨(k + 1), f, s, tr ++ [k], by omega, by first | rfl | go_num, (unhide M2).ext ((Ext.refl w2).drewN _), (unhide HSEE).ext _ _ _ (unhide T2) ((Ext.refl w2).drewN _), ?_, ?_, by have := (unhide hinv).2.2.1; omega, ?_, ?_, ?_, ?_, by have := (unhide hinv).2.2.2.2.2.2.2; simp; omega⟩
          · exact (unhide HRE).1
          · rw [List.append_assoc]
            exact (unhide HRE).2
          · exact (unhide hinv).2.2.2.1
          · exact (unhide hinv).2.2.2.2.1
          · exact (unhide hinv).2.2.2.2.2.1
          · exact (unhide hinv).2.2.2.2.2.2.1
        case measure => simp [intOf]; omega
    case neg =>
    have d11 : (I 0 == 11) = false := by simp [e11]
    by_cases e12 : I 0 = 12
    case pos =>
      have RE : runF C.ins S G (f + 1) k s = (discS s, [k]) := by rw [unhide R, if_neg e10, if_neg e11, if_pos e12]
      have HRE : Hid (discS s = pl.1 ∧ tr ++ [k] = pl.2) := by
        have h1 := (unhide hinv).1
        have h2 := (unhide hinv).2.1
        rw [RE] at h1 h2
        exact ⟨h1, h2⟩
      rw [e12] at i0
      have m14 := mc_at (unhide M2).1 14 (v := .int .i32 (s.po 0)) rfl
      have z14 := (unhide M2).1.free 14
      have m15 := mc_at (unhide M2).1 15 (v := .int .i32 (s.po 1)) rfl
      have z15 := (unhide M2).1.free 15
      have m16 := mc_at (unhide M2).1 16 (v := .int .i32 (s.po 2)) rfl
      have z16 := (unhide M2).1.free 16
      have m17 := mc_at (unhide M2).1 17 (v := .int .i32 (s.po 3)) rfl
      have z17 := (unhide M2).1.free 17
      have m18 := mc_at (unhide M2).1 18 (v := .int .i32 s.sz) rfl
      have z18 := (unhide M2).1.free 18
      have m19 := mc_at (unhide M2).1 19 (v := vy) rfl
      have z19 := (unhide M2).1.free 19
      have m20 := mc_at (unhide M2).1 20 (v := .int .i32 (s.cl 0)) rfl
      have z20 := (unhide M2).1.free 20
      have m21 := mc_at (unhide M2).1 21 (v := .int .i32 (s.cl 1)) rfl
      have z21 := (unhide M2).1.free 21
      have m22 := mc_at (unhide M2).1 22 (v := .int .i32 (s.cl 2)) rfl
      have z22 := (unhide M2).1.free 22
      have m23 := mc_at (unhide M2).1 23 (v := .int .i32 (s.cl 3)) rfl
      have z23 := (unhide M2).1.free 23
      have m24 := mc_at (unhide M2).1 24 (v := .bool s.dc) rfl
      have z24 := (unhide M2).1.free 24
      clear RE hop hmn e12 e11 e10
      go_wp2
      refine bodyPost_end (v := .tuple #[]) (by simp [results, Tryz.results27, go_sem]) rfl ?_
      have hb := ((((((((((((unhide M2).1.set 14 (.int .i32 0)).set 15 (.int .i32 0)).set 16 (.int .i32 0)).set 17 (.int .i32 0)).set 18 (.int .i32 0)).set 19 (.slice none 0 0)).set 20 (.int .i32 0)).set 21 (.int .i32 0)).set 22 (.int .i32 0)).set 23 (.int .i32 0)).set 24 (.bool true))
      have hg : w2.grownBy _ (some mb) := (((((((((((grownBy_set w2 mb 14 (.int .i32 0)).trans (grownBy_set _ mb 15 (.int .i32 0))).trans (grownBy_set _ mb 16 (.int .i32 0))).trans (grownBy_set _ mb 17 (.int .i32 0))).trans (grownBy_set _ mb 18 (.int .i32 0))).trans (grownBy_set _ mb 19 (.slice none 0 0))).trans (grownBy_set _ mb 20 (.int .i32 0))).trans (grownBy_set _ mb 21 (.int .i32 0))).trans (grownBy_set _ mb 22 (.int .i32 0))).trans (grownBy_set _ mb 23 (.int .i32 0))).trans (grownBy_set _ mb 24 (.bool true)))
      refine ⟨rfl, ?_, .inr ⟨?_, ?_⟩⟩
      · rw [← (unhide HRE).2]
        exact (unhide HSEE).keep _ _ _ mb (unhide T2) hg (.inl rfl)
      · rw [← (unhide HRE).1]
        rfl
      · rw [← (unhide HRE).1]
        obtain ⟨h1, h2, h3, h4, h5, h6, h7⟩ := unhide M2
        refine ⟨?_, h2.other hg h6, GO.nil _ _, h4.grown hg h4.size (fun b e => by cases e; exact h5), h5, h6, fun g hg => by cases hg⟩
        simpa [mcA, discS, nul] using hb
    case neg =>
    have d12 : (I 0 == 12) = false := by simp [e12]
    have RE : runF C.ins S G (f + 1) k s = ((runF C.ins S G f (k + 1) (stepS S G s I)).1, k :: (runF C.ins S G f (k + 1) (stepS S G s I)).2) := by rw [unhide R, if_neg e10, if_neg e11, if_neg e12]
    have HRE : Hid ((runF C.ins S G f (k + 1) (stepS S G s I)).1 = pl.1 ∧ tr ++ ([k] ++ (runF C.ins S G f (k + 1) (stepS S G s I)).2) = pl.2) := by
      have h1 := (unhide hinv).1
      have h2 := (unhide hinv).2.1
      rw [RE] at h1 h2
      exact ⟨h1, h2⟩
    clear RE
    by_cases e4 : I 0 = 4
    case pos =>
      have ES : stepS S G s I = storS s I := by unfold stepS; rw [if_pos e4]
      rw [ES] at HRE
      have HST := hide (storeM_any I (unhide M2) (unhide hinv).2.2.2.2.1 (unhide hinv).2.2.2.2.2.1 (unhide hAsk) e4)
      have HB := hide (unhide B2)
      rw [e4] at i0
      have HSR := hide (storS_R s I)
      generalize storS s I = s2 at *
      clear ES hop hmn e4 e10 e11 e12 d10 d11 d12
      go_wp2_with (first
        | refine wpList_load_row rfl 59 (.tmp 7) rfl B rfl 59 (insA I) (0, 0) _ (unhide HB) Tryz.underlying59 rfl sizeI16 ?_
        | (go_at_call 41; refine (unhide HST).mono ?_; rintro e w9 ⟨rfl, hM9, hb9⟩; have M9 := hide hM9; have G9 := hide hb9; clear hM9 hb9))
      have T9 : Hid (Tr w9 (tr ++ [k])) := by
        obtain ⟨b9, h9, hg9⟩ := unhide G9
        exact (unhide HSEE).keep _ _ _ b9 (unhide T2) hg9 h9
      go_roundw
      case rel =>
          refine ⟨(k + 1), f, s2, tr ++ [k], by omega, by first | rfl | go_num, unhide M9, unhide T9, ?_, ?_, by have := (unhide hinv).2.2.1; omega, ?_, ?_, ?_, ?_, by have := (unhide hinv).2.2.2.2.2.2.2; simp; omega⟩
          · exact (unhide HRE).1
          · rw [List.append_assoc]
            exact (unhide HRE).2
          · rw [(unhide HSR).2.2]; exact (unhide hinv).2.2.2.1
          · rw [(unhide HSR).1]; exact (unhide hinv).2.2.2.2.1
          · rw [(unhide HSR).2.1]; exact (unhide hinv).2.2.2.2.2.1
          · rw [(unhide HSR).1]; exact (unhide hinv).2.2.2.2.2.2.1
      case measure => simp [intOf]; omega
    case neg =>
    have d4 : (I 0 == 4) = false := by simp [e4]
    have hwr : wrB (I 0) = true := by
      rcases hop with h | h | h | h | h | h | h | h | h | h | h | h <;> first | omega | (rw [h]; rfl)
    obtain ⟨hd0, hd1⟩ := (unhide hAsk).dst hwr
    have ES : stepS S G s I = { s with R := s.R.set (I 4).toNat (valP S G s.R I) } := by unfold stepS; rw [if_neg e4]
    rw [ES] at HRE
    have hRl := (unhide hinv).2.2.2.2.1
    obtain ⟨kd, ekd⟩ : ∃ kd : Nat, I 4 = (kd : Int) := ⟨(I 4).toNat, by omega⟩
    have hkd : kd < s.R.length := by omega
    have hkdi : (kd : Int) < (s.R.length : Int) := by omega
    rw [show (I 4).toNat = kd by omega] at HRE
    have HV := hide (fun wx (hx : Ext w2 wx) => value_any I ((unhide M2).ext hx) (unhide HS) (unhide HG) (unhide HF) (unhide hinv).2.2.2.2.1 (unhide hinv).2.2.2.2.2.2.1 (unhide hAsk) ⟨e4, e10, e11, e12⟩)
    rw [show insA I = (#[.int .i64 (I 0), .int .i64 (I 1), .int .i64 (I 2), .int .i64 (I 3), .int .i64 (kd : Int), .int .i64 (I 5), .int .i64 (I 6), .int .i64 (I 7), .int .i32 (I 8), .int .i32 (I 9), .int .i32 (I 10), .int .i32 (I 11), .int .i64 (I 12), .int .i64 (I 13), .int .i64 (I 14), .int .i64 (I 15)] : Array Value) by rw [← ekd]; rfl] at HV
    have H32 := hide (valP_i32 (S := S) (G := G) (unhide HF) (unhide hinv).2.2.2.2.2.2.1 (unhide hOk))
    generalize valP S G s.R I = y at *
    obtain ⟨gr, cr, evr, hcl⟩ := (unhide M2).2.1.slc hkd
    obtain ⟨u, hu⟩ : ∃ u, s.R[kd] = u := ⟨_, rfl⟩
    simp only [hu] at hcl
    have HCE := hide hcl
    clear hu
    have m13 := mc_at (unhide M2).1 13 (v := vr) rfl
    rw [evr] at m13
    have i1 := ins_at (unhide B2) 1 (v := .int .i64 (I 1)) rfl
    have i2 := ins_at (unhide B2) 2 (v := .int .i64 (I 2)) rfl
    have i3 := ins_at (unhide B2) 3 (v := .int .i64 (I 3)) rfl
    have i4 := ins_at (unhide B2) 4 (v := .int .i64 (I 4)) rfl
    have i5 := ins_at (unhide B2) 5 (v := .int .i64 (I 5)) rfl
    have i6 := ins_at (unhide B2) 6 (v := .int .i64 (I 6)) rfl
    have i7 := ins_at (unhide B2) 7 (v := .int .i64 (I 7)) rfl
    have i8 := ins_at (unhide B2) 8 (v := .int .i32 (I 8)) rfl
    have i9 := ins_at (unhide B2) 9 (v := .int .i32 (I 9)) rfl
    have i10 := ins_at (unhide B2) 10 (v := .int .i32 (I 10)) rfl
    have i11 := ins_at (unhide B2) 11 (v := .int .i32 (I 11)) rfl
    have i12 := ins_at (unhide B2) 12 (v := .int .i64 (I 12)) rfl
    have i13 := ins_at (unhide B2) 13 (v := .int .i64 (I 13)) rfl
    have i14 := ins_at (unhide B2) 14 (v := .int .i64 (I 14)) rfl
    have i15 := ins_at (unhide B2) 15 (v := .int .i64 (I 15)) rfl
    rw [ekd] at i4
    have hgm : gr ≠ mb := (unhide M2).2.2.2.2.2.1 gr (by rw [evr]; rfl)
    have hgB : gr < B := unhide HGR gr (by rw [evr]; rfl)
    have hBg : B ≠ gr := by omega
    have hmg : mb ≠ gr := fun e => hgm e.symm
    have HEV := hide evr
    have HKD := hide hkd
    obtain ⟨rl, hrl⟩ : ∃ rl, s.R.length = rl := ⟨_, rfl⟩
    rw [hrl] at m13 hkdi
    have HCL := hide (fun wx (hg : w2.grownBy wx (some gr)) => show wx.cell? ⟨mb, 13, none⟩ = some (.slice (some ⟨gr, 0, none⟩) rl cr) ∧ wx.cell? ⟨B, 0, none⟩ = some (.int .i64 (I 0)) ∧ wx.cell? ⟨B, 1, none⟩ = some (.int .i64 (I 1)) ∧ wx.cell? ⟨B, 2, none⟩ = some (.int .i64 (I 2)) ∧ wx.cell? ⟨B, 3, none⟩ = some (.int .i64 (I 3)) ∧ wx.cell? ⟨B, 4, none⟩ = some (.int .i64 (kd : Int)) ∧ wx.cell? ⟨B, 5, none⟩ = some (.int .i64 (I 5)) ∧ wx.cell? ⟨B, 6, none⟩ = some (.int .i64 (I 6)) ∧ wx.cell? ⟨B, 7, none⟩ = some (.int .i64 (I 7)) ∧ wx.cell? ⟨B, 8, none⟩ = some (.int .i32 (I 8)) ∧ wx.cell? ⟨B, 9, none⟩ = some (.int .i32 (I 9)) ∧ wx.cell? ⟨B, 10, none⟩ = some (.int .i32 (I 10)) ∧ wx.cell? ⟨B, 11, none⟩ = some (.int .i32 (I 11)) ∧ wx.cell? ⟨B, 12, none⟩ = some (.int .i64 (I 12)) ∧ wx.cell? ⟨B, 13, none⟩ = some (.int .i64 (I 13)) ∧ wx.cell? ⟨B, 14, none⟩ = some (.int .i64 (I 14)) ∧ wx.cell? ⟨B, 15, none⟩ = some (.int .i64 (I 15)) from
      ⟨cell_grown hg m13 (by assumption), cell_grown hg i0 (by assumption), cell_grown hg i1 (by assumption), cell_grown hg i2 (by assumption), cell_grown hg i3 (by assumption), cell_grown hg i4 (by assumption), cell_grown hg i5 (by assumption), cell_grown hg i6 (by assumption), cell_grown hg i7 (by assumption), cell_grown hg i8 (by assumption), cell_grown hg i9 (by assumption), cell_grown hg i10 (by assumption), cell_grown hg i11 (by assumption), cell_grown hg i12 (by assumption), cell_grown hg i13 (by assumption), cell_grown hg i14 (by assumption), cell_grown hg i15 (by assumption)⟩)
    clear hcl evr ES hop hmn e4 e10 e11 e12 hwr hd0 hd1 ekd hkd hRl hrl
    go_wp2
    go_region_held3 (fun wx => wx.cell? ⟨mb, 13, none⟩ = some (.slice (some ⟨gr, 0, none⟩) rl cr) ∧ wx.cell? ⟨B, 0, none⟩ = some (.int .i64 (I 0)) ∧ wx.cell? ⟨B, 1, none⟩ = some (.int .i64 (I 1)) ∧ wx.cell? ⟨B, 2, none⟩ = some (.int .i64 (I 2)) ∧ wx.cell? ⟨B, 3, none⟩ = some (.int .i64 (I 3)) ∧ wx.cell? ⟨B, 4, none⟩ = some (.int .i64 (kd : Int)) ∧ wx.cell? ⟨B, 5, none⟩ = some (.int .i64 (I 5)) ∧ wx.cell? ⟨B, 6, none⟩ = some (.int .i64 (I 6)) ∧ wx.cell? ⟨B, 7, none⟩ = some (.int .i64 (I 7)) ∧ wx.cell? ⟨B, 8, none⟩ = some (.int .i32 (I 8)) ∧ wx.cell? ⟨B, 9, none⟩ = some (.int .i32 (I 9)) ∧ wx.cell? ⟨B, 10, none⟩ = some (.int .i32 (I 10)) ∧ wx.cell? ⟨B, 11, none⟩ = some (.int .i32 (I 11)) ∧ wx.cell? ⟨B, 12, none⟩ = some (.int .i64 (I 12)) ∧ wx.cell? ⟨B, 13, none⟩ = some (.int .i64 (I 13)) ∧ wx.cell? ⟨B, 14, none⟩ = some (.int .i64 (I 14)) ∧ wx.cell? ⟨B, 15, none⟩ = some (.int .i64 (I 15)))
      (first | with_reducible exact unhide HCL _ (grown_ofExt _ ((Ext.refl _).drew)) | with_reducible exact unhide HCL _ (grown_ofExt _ bx) | with_reducible exact unhide HCL _ (grown_set4 bx))
      (first | (go_at_call 42; refine (unhide HV _ ((Ext.refl w2).drew)).mono ?_; rintro e w5 ⟨rfl, hx5⟩; have bx := ((Ext.refl w2).drew).trans hx5; obtain ⟨⟨v0, v1, v2, v3⟩, z0, z1, z2, z3⟩ := unhide HCE _ bx; clear hx5))
    all_goals
      have M9 := hide (((unhide M2).ext bx).setRV (unhide HEV) kd (unhide HKD) y)
      have T9 := hide ((unhide HSEE).keep _ _ _ gr ((unhide HSEE).ext _ _ _ (unhide T2) bx) (grown4 w5 gr (kd * 4) (kd * 4 + 1) (kd * 4 + 2) (kd * 4 + 3) (.int .i32 (y 0)) (.int .i32 (y 1)) (.int .i32 (y 2)) (.int .i32 (y 3))) (.inr (.inl (by rw [unhide HEV]; rfl))))
      go_wp2
      go_roundw
      case rel =>
          refine ⟨(k + 1), f, { s with R := s.R.set kd y }, tr ++ [k], by omega, by first | rfl | go_num, unhide M9, unhide T9, ?_, ?_, by have := (unhide hinv).2.2.1; omega, ?_, ?_, ?_, ?_, by have := (unhide hinv).2.2.2.2.2.2.2; simp; omega⟩
          · exact (unhide HRE).1
          · rw [List.append_assoc]
            exact (unhide HRE).2
          · exact (unhide hinv).2.2.2.1
          · simp only [List.length_set]; exact (unhide hinv).2.2.2.2.1
          · exact (unhide hinv).2.2.2.2.2.1
          · exact reg_set_i32 (unhide hinv).2.2.2.2.2.2.1 (unhide H32) kd
      case measure => simp [intOf]; omega
end Go.Proofs.YtglfhmlcmffoaaaGreat
