/-
  Images: the document's bits, Mean.
-/
import Derived.Test.YtpjapdifmfpcnaaRE
import Derived.Test.YtpjapdifmfpcnaaJN
namespace Go.Proofs.Ytpjapdifmfpcnaa
open Go.RowKit
set_option linter.unusedVariables false
set_option linter.unusedSimpArgs false

/-- The cells of channels. -/
def kcs (ks : List Nat) : Array Value := (ks.map fun k => Value.int .i64 (k : Nat)).toArray
theorem kcs_at {w : World} {b : Nat} {ks : List Nat} {t : TypeId} (h : Blk w b (kcs ks) t) (i : Nat) (hi : i < ks.length) : w.cell? ⟨b, i, none⟩ = some (.int .i64 (ks[i] : Nat)) := h.cell (by simp [kcs, hi])
set_option maxHeartbeats 2000000 in
theorem refBits_any (f : Int) (w : World) :
    Calls Try.prog 57 #[.int .i64 f] w fun e w' => ∃ b, e = .returned (.slice (some ⟨b, 0, none⟩) (chs8 f).length (chs8 f).length) ∧ Blk w' b (kcs (chs8 f)) 3 ∧ Ext w w' := by
  by_cases h1 : f = 1
  · subst h1
    go_enter Try.func57, Try.ntmps57
    go_wp2
    go_ret
    exact ⟨_, rfl, Blk.new w _ _, (Ext.refl w).alloc _⟩
  have b1 : (f == 1) = false := by simp [h1]
  by_cases h2 : f = 2
  · subst h2
    go_enter Try.func57, Try.ntmps57
    go_wp2
    go_ret
    exact ⟨_, rfl, Blk.new w _ _, (Ext.refl w).alloc _⟩
  have b2 : (f == 2) = false := by simp [h2]
  by_cases h3 : f = 3
  · subst h3
    go_enter Try.func57, Try.ntmps57
    go_wp2
    go_ret
    exact ⟨_, rfl, Blk.new w _ _, (Ext.refl w).alloc _⟩
  have b3 : (f == 3) = false := by simp [h3]
  by_cases h4 : f = 4
  · subst h4
    go_enter Try.func57, Try.ntmps57
    go_wp2
    go_ret
    exact ⟨_, rfl, Blk.new w _ _, (Ext.refl w).alloc _⟩
  have b4 : (f == 4) = false := by simp [h4]
  by_cases h7 : f = 7
  · subst h7
    go_enter Try.func57, Try.ntmps57
    go_wp2
    go_ret
    exact ⟨_, rfl, Blk.new w _ _, (Ext.refl w).alloc _⟩
  have b7 : (f == 7) = false := by simp [h7]
  have E := hide (show chs8 f = [8] by unfold chs8; rw [if_neg h1, if_neg h2, if_neg h3, if_neg h4, if_neg h7])
  clear h1 h2 h3 h4 h7
  rw [unhide E]
  go_enter Try.func57, Try.ntmps57
  go_wp2
  go_ret
  exact ⟨_, rfl, Blk.new w _ _, (Ext.refl w).alloc _⟩


/-- A slice of slices of bytes. -/
def BR (w : World) (v : Value) (GG : List (List Int)) : Prop := ∃ b off cap, v = .slice (some ⟨b, off, none⟩) GG.length cap ∧ GG.length ≤ cap ∧ cap ≤ maxLen ∧ ∀ i (h : i < GG.length), ∃ u, w.cell? ⟨b, off + i, none⟩ = some u ∧ Row .u8 w u GG[i]
theorem BR.ext {w w' : World} {v : Value} {GG : List (List Int)} (h : BR w v GG) (hx : Ext w w') : BR w' v GG := by
  obtain ⟨b, off, cap, e, h1, h2, h3⟩ := h
  refine ⟨b, off, cap, e, h1, h2, fun i hi => ?_⟩
  obtain ⟨u, hu, hr⟩ := h3 i hi
  exact ⟨u, by rw [hx.cell (p := ⟨b, off + i, none⟩) (World.block_lt_of_cell? w _ hu)]; exact hu, hr.ext hx⟩
theorem low_zero : ∀ n, low 0 n = List.replicate n 0
  | 0 => rfl
  | n + 1 => by
    show (0 : Int) % 256 :: low (0 / 256) n = _
    rw [show (0 : Int) / 256 = 0 from rfl, low_zero n]
    rfl
theorem numOf_drop (g : List Int) (r : Nat) (h : r < g.length) : numOf (g.drop r) = numOf (g.drop (r + 1)) * 256 + g[r] := by
  rw [List.drop_eq_getElem_cons h]
  show g[r] + 256 * numOf (g.drop (r + 1)) = _
  omega
theorem drop_byt {g : List Int} (h : Byt g) (r : Nat) : Byt (g.drop r) := fun x hx => h x (List.mem_of_mem_drop hx)

set_option maxRecDepth 10000 in
set_option maxHeartbeats 4000000 in
theorem refMean_any (f : Int) (s : Nat) (hs : sizI f = (s : Int)) (hs0 : s ≠ 0) (GG : List (List Int)) (v : Value) (w : World) (h : BR w v GG) (hG1 : 1 ≤ GG.length) (hG4 : GG.length ≤ 4) (hl : ∀ g ∈ GG, g.length = s ∧ Byt g) :
    Calls Try.prog 38 #[.int .i64 f, v] w fun e w' => ∃ g, e = .returned (.slice (some ⟨g, 0, none⟩) s s) ∧ Own .u8 w' w.heap.size 5 (.slice (some ⟨g, 0, none⟩) s s) (meanB (chs8 f) s GG) ∧ Ext w w' := by
  obtain ⟨ks1, ks2, ks3, hs4⟩ := chs_sum hs hs0
  obtain ⟨i0, hi, hz0, hz1, hz2⟩ := info_parts info5
  have h0 := h
  obtain ⟨vb, voff, vcap, rfl, hvc, hvm, _⟩ := h0
  have hvm2 : vcap ≤ 9223372036854775807 := by unfold maxLen at hvm; omega
  have HBR := hide h
  have HL := hide hl
  have HSZ : Hid (∀ wx, Calls Try.prog 29 #[.int .i64 f] wx fun e w' => e = .returned (.int .i64 (s : Int)) ∧ wx = w') := fun wx => by
    rw [← hs]
    refine (refSize_any f wx).mono ?_
    rintro e w' ⟨rfl, rfl⟩
    exact ⟨rfl, rfl⟩
  obtain ⟨G, hG⟩ : ∃ G, G = GG.map numOf := ⟨_, rfl⟩
  have hGl : G.length = GG.length := by rw [hG]; simp
  have HG := hide (And.intro hG hGl)
  have HKS := hide (And.intro ks1 ks3)
  obtain ⟨n, hn⟩ : ∃ n, n = GG.length := ⟨_, rfl⟩
  have HN := hide hn
  rw [← hn] at hG1 hG4 hvc ⊢
  clear h hl hs hG hGl hvm ks1 ks3 hn
  go_enter Try.func38, Try.ntmps38
  go_wp2_with (first | (go_at_call 29; refine (unhide HSZ _).mono ?_; rintro e ws ⟨rfl, rfl⟩) | (at_make; refine wpList_make_Zeros _ rfl _ _ 27 rfl w.heap.size 5 i0 .u8 Try.underlying27 hi hz0 hz1 _ _ _ _ s rfl rfl rfl rfl ?b1 ?b2 ?b3 ?_))
  case b1 => rw [hz2]; omega
  case b2 => unfold maxLen; omega
  case b3 => exact Nat.le_refl _
  intro w1 hown hg
  have hx1 : Ext w w1 := grown_below hg (Nat.le_refl _) (fun k h => by cases h)
  have H1 := hide (And.intro hown hx1)
  clear hown hg hx1
  go_wp2_with fail
  refine (refBits_any f _).mono ?_
  rintro e w2 ⟨kb, rfl, hk2, hx2⟩
  have hS2 : Own .u8 w2 w.heap.size 5 (.slice (some ⟨w.heap.size, 0, none⟩) s s) (low (meanN ((chs8 f).take 0) 0 G) s) := by
    have := (unhide H1).1.kept hx2
    rw [List.take_zero]
    show Own _ _ _ _ _ (low 0 s)
    rw [low_zero]
    exact this
  have H2 := hide (And.intro hS2 (And.intro ((unhide H1).2.trans hx2) hk2))
  have hkl : (chs8 f).length ≤ 4 := ks2
  obtain ⟨ks, hks⟩ : ∃ ks, ks = chs8 f := ⟨_, rfl⟩
  rw [← hks] at H2 hkl HKS ⊢
  have HK := hide hks
  clear hS2 hx2 hk2 H1 hks ks2
  go_wp2_with fail
  go_loopw [6, 22] (fun av iv wr => ∃ c : Nat, c ≤ ks.length ∧ iv = .int .i64 (c : Int) ∧ av = .int .i64 (((ks.take c).sum : Nat) : Int) ∧ Own .u8 wr w.heap.size 5 (.slice (some ⟨w.heap.size, 0, none⟩) s s) (low (meanN (ks.take c) 0 G) s) ∧ Ext w wr ∧ Blk wr kb (kcs ks) 3) (fun _ iv _ => ks.length - (intOf iv).toNat)
  case atStart => exact ⟨0, Nat.zero_le _, rfl, by simp, (unhide H2).1, (unhide H2).2.1, (unhide H2).2.2⟩
  case round =>
    clear H2
    obtain ⟨c, hc, rfl, rfl, hown, hxr, hkr⟩ := hrel
    by_cases hlt : c < ks.length
    · have hlt2 : (c : Int) < (ks.length : Int) := by omega
      have ck := kcs_at hkr c hlt
      obtain ⟨kk1, kk2⟩ := (unhide HKS).2 _ (List.getElem_mem hlt)
      have hsum : (ks.take (c + 1)).sum = (ks.take c).sum + ks[c] := sum_take ks c hlt
      have hsle : (ks.take (c + 1)).sum ≤ 8 * s := by
        rw [← (unhide HKS).1]
        conv => rhs; rw [← List.take_append_drop (c + 1) ks]
        rw [List.sum_append]
        omega
      have hmsn : meanN (ks.take (c + 1)) 0 G = meanN (ks.take c) 0 G + chan (ks.take c).sum ks[c] G * 2 ^ (ks.take c).sum := by
        rw [List.take_succ_eq_append_getElem hlt, meanN_snoc, Nat.zero_add]
      have hmb := meanN_lt (ks.take c) G (by rw [(unhide HG).2, ← unhide HN]; omega)
      have hcb := chan_bound (ks.take c).sum ks[c] G (by rw [(unhide HG).2, ← unhide HN]; omega)
      obtain ⟨p, hp⟩ : ∃ p, p = (ks.take c).sum := ⟨_, rfl⟩
      obtain ⟨k, hk⟩ : ∃ k, k = ks[c] := ⟨_, rfl⟩
      obtain ⟨P, hP⟩ : ∃ P, P = meanN (ks.take c) 0 G := ⟨_, rfl⟩
      rw [← hp, ← hk] at hsum hmsn hcb
      rw [← hP] at hmsn hmb hown
      rw [← hp] at hmb ⊢
      rw [← hk] at ck kk1 kk2
      have HM := hide (And.intro hmsn (And.intro hmb (And.intro hsum hcb)))
      have HO := hide (And.intro hown (And.intro hxr hkr))
      have hpk : p + k ≤ 8 * s := by omega
      clear hsum hmsn hmb hcb hp hk hP hown hxr hkr hsle
      go_wp2_with fail
      clear ck
      obtain ⟨pw1, pw2⟩ := pow8 kk2
      go_loopw [9, 28] (fun sv iv wq => ∃ i m : Nat, i ≤ n ∧ iv = .int .i64 (i : Int) ∧ sv = .int .i64 (chanS p k (G.take i)) ∧ wq = wr.drewN m) (fun _ iv _ => n - (intOf iv).toNat)
      case atStart => exact ⟨0, 0, Nat.zero_le _, rfl, by simp [chanS], rfl⟩
      case round =>
        obtain ⟨i, m, hi9, rfl, rfl, rfl⟩ := hrel
        by_cases hlt3 : i < n
        · have hlt4 : (i : Int) < (n : Int) := by omega
          have hiG : i < GG.length := by rw [← unhide HN]; exact hlt3
          obtain ⟨vb2, voff2, vcap2, e9, _, _, hBR⟩ := unhide HBR
          cases e9
          obtain ⟨u, hu, hr⟩ := hBR i hiG
          have hxm : Ext w (wr.drewN m) := (unhide HO).2.1.drewN m
          have hu2 : (wr.drewN m).cell? ⟨vb, voff + i, none⟩ = some u := by
            rw [hxm.cell (p := ⟨vb, voff + i, none⟩) (World.block_lt_of_cell? w _ hu)]
            exact hu
          have hr2 := hr.ext hxm
          obtain ⟨hgl, hgb⟩ := (unhide HL) _ (List.getElem_mem hiG)
          obtain ⟨g, hg⟩ : ∃ g, g = GG[i] := ⟨_, rfl⟩
          rw [← hg] at hr2 hgl hgb
          have hGi : G.take (i + 1) = G.take i ++ [numOf g] := by
            have h1 : i < G.length := by rw [(unhide HG).2]; exact hiG
            rw [List.take_succ_eq_append_getElem h1]
            congr 2
            have h2 : G[i]? = (GG.map numOf)[i]? := by rw [(unhide HG).1]
            rw [List.getElem?_eq_getElem h1, List.getElem?_map, List.getElem?_eq_getElem hiG] at h2
            rw [hg]
            exact Option.some.inj h2
          have HGI := hide hGi
          obtain ⟨uo, ucap, rfl, _⟩ := hr2.shape
          rw [hgl] at hu2 hr2
          have HR2 := hide hr2
          have HGB := hide (And.intro hgl hgb)
          obtain ⟨s0, s1⟩ := chanS_bound p k (G.take i)
          have hm : ((G.take i).length : Int) * (2 ^ k - 1) ≤ 4 * 255 := Int.mul_le_mul (by simp; omega) (by omega) (by omega) (by omega)
          have s2 : chanS p k (G.take i) ≤ 1020 := by omega
          clear hBR hu hr hg hGi hr2 hgl hgb s1 hm
          go_wp2_with fail
          clear hu2
          go_loopw [12, 13] (fun nv iv wz => ∃ r : Nat, r ≤ s ∧ iv = .int .i64 ((r : Int) - 1) ∧ nv = .int .i64 (numOf (g.drop r)) ∧ wr.drewN m = wz) (fun _ iv _ => (intOf iv + 1).toNat)
          case atStart => exact ⟨s, Nat.le_refl _, rfl, by rw [List.drop_of_length_le (by rw [(unhide HGB).1]; exact Nat.le_refl _)]; rfl, rfl⟩
          case round =>
            obtain ⟨r, hr9, rfl, rfl, rfl⟩ := hrel
            cases r with
            | succ r =>
              have hrs : r < g.length := by rw [(unhide HGB).1]; omega
              obtain ⟨gb, goff, rfl, hcc⟩ := (unhide HR2).at r hrs
              have cr := hcc r hrs
              have hnd := numOf_drop g r hrs
              have hbnd := numOf_le (g.drop (r + 1)) (drop_byt (unhide HGB).2 _) 3 (by simp; rw [(unhide HGB).1]; omega)
              have hby := (unhide HGB).2 _ (List.getElem_mem hrs)
              have HND := hide hnd
              obtain ⟨n0, n1⟩ := hbnd
              obtain ⟨y0, y1⟩ := hby
              have hri : ((r + 1 : Nat) : Int) - 1 = (r : Int) := by omega
              rw [hri]
              have hr64 : (r : Int) < (s : Int) := by omega
              have hr00 : (0 : Int) ≤ (r : Int) := by omega
              generalize g[r] = gr at *
              generalize numOf (g.drop (r + 1)) = nr at *
              have n2 : nr < 16777216 := n1
              clear hcc hnd hri n1
              go_wp2
              go_roundw
              case rel => exact ⟨r, by omega, by go_num, by rw [unhide HND], by first | rfl | trivial⟩
              case measure => simp [intOf]
            | zero =>
              have hneg : ¬ (0 : Int) ≤ ((0 : Nat) : Int) - 1 := by omega
              rw [List.drop_zero]
              have hnb := numOf_le g (unhide HGB).2 4 (by rw [(unhide HGB).1]; omega)
              obtain ⟨g0, g1⟩ := hnb
              have g2 : numOf g < 4294967296 := g1
              have HS := hide (show chanS p k (G.take (i + 1)) = chanS p k (G.take i) + numOf g / 2 ^ p % 2 ^ k by rw [unhide HGI, chanS_snoc])
              generalize numOf g = gn at *
              have d0 : 0 ≤ gn / 2 ^ p := Int.ediv_nonneg g0 (Int.pow_nonneg (by omega))
              have d1 : gn / 2 ^ p < 4294967296 := Int.lt_of_le_of_lt (Int.ediv_le_self _ g0) g2
              have m0 := Int.emod_nonneg (gn / 2 ^ p) (show (2 : Int) ^ k ≠ 0 by omega)
              have m1 := Int.emod_lt_of_pos (gn / 2 ^ p) (show (0 : Int) < 2 ^ k by omega)
              have hp64 : (p : Int) < 64 := by omega
              have hk64 : (k : Int) < 64 := by omega
              have w1 : IntKind.i64.wrap ((2 : Int) ^ k) = 2 ^ k := wrap_id (by omega) (by omega)
              have w2 : Int.tmod (gn / 2 ^ p) (2 ^ k) = gn / 2 ^ p % 2 ^ k := Int.tmod_eq_emod_of_nonneg d0
              have w3 : IntKind.i64.wrap (chanS p k (G.take i) + gn / 2 ^ p % 2 ^ k) = chanS p k (G.take i) + gn / 2 ^ p % 2 ^ k := wrap_id (by omega) (by omega)
              have hz2 : ¬ (2 : Int) ^ k = 0 := by omega
              have hz3 : ((2 : Int) ^ k == 0) = false := by rw [beq_eq_false_iff_ne]; exact hz2
              clear g1
              go_wp2
              go_quiet (fail)
              go_wp2
              go_roundw
              case rel => exact ⟨i + 1, m + nq, by omega, by go_num, by rw [unhide HS], by first | rfl | exact drewN_drewN _ _ _⟩
              case measure => simp [intOf]; omega
        · obtain rfl : i = n := by omega
          have hnl : ¬ (i : Int) < (i : Int) := by omega
          have hGn : G.take i = G := by rw [List.take_of_length_le]; rw [(unhide HG).2, ← unhide HN]; exact Nat.le_refl _
          rw [hGn]
          have HCH := hide (show chan p k G = (chanS p k G + (i : Int) / 2) / (i : Int) by unfold chan; rw [(unhide HG).2, ← unhide HN])
          obtain ⟨s0, s1⟩ := chanS_bound p k G
          have hm : ((G.length : Nat) : Int) * (2 ^ k - 1) ≤ 4 * 255 := Int.mul_le_mul (by rw [(unhide HG).2, ← unhide HN]; omega) (by omega) (by omega) (by omega)
          have s2 : chanS p k G ≤ 1020 := by omega
          have hnz : ¬ (i : Int) = 0 := by omega
          have hnzb : ((i : Int) == 0) = false := by rw [beq_eq_false_iff_ne]; omega
          have hi2 : (0 : Int) ≤ (i : Int) / 2 := by omega
          have hi3 : (i : Int) / 2 ≤ 2 := by omega
          have ht1 : Int.tdiv (i : Int) 2 = (i : Int) / 2 := Int.tdiv_eq_ediv_of_nonneg (by omega)
          have ht2 : Int.tdiv (chanS p k G + (i : Int) / 2) (i : Int) = (chanS p k G + (i : Int) / 2) / (i : Int) := Int.tdiv_eq_ediv_of_nonneg (by omega)
          have hcb := (unhide HM).2.2.2
          have qb0 : 0 ≤ (chanS p k G + (i : Int) / 2) / (i : Int) := by rw [← unhide HCH]; exact hcb.1
          have qb1 : (chanS p k G + (i : Int) / 2) / (i : Int) ≤ 256 := by rw [← unhide HCH]; omega
          have HO2 := hide (And.intro ((unhide HO).1.kept ((Ext.refl wr).drewN m)) (And.intro ((unhide HO).2.1.drewN m) ((unhide HO).2.2.drewN m)))
          clear hGn s1 hm
          go_upto_region 17 with fail
          go_cut [14] (fun p9 wc => p9 = .int .i64 (chan p k G) ∧ wr.drewN m = wc)
          case first =>
            go_wp2
            go_meet
            exact ⟨by rw [unhide HCH], rfl⟩
          case rest =>
          obtain ⟨rfl, rfl⟩ := hcut
          generalize chan p k G = M at *
          generalize wr.drewN m = wm at *
          obtain ⟨M0, M1⟩ := hcb
          clear ht1 ht2 hnz hnzb hi2 hi3 s0 s2 HCH qb0 qb1
          go_wp2_with fail
          go_loopw [65] (fun iv wz => ∃ j : Nat, j ≤ k ∧ iv = .int .i64 (j : Int) ∧ Own .u8 wz w.heap.size 5 (.slice (some ⟨w.heap.size, 0, none⟩) s s) (low (P + M % 2 ^ j * 2 ^ p) s) ∧ Ext w wz ∧ Blk wz kb (kcs ks) 3) (fun iv _ => k - (intOf iv).toNat)
          case atStart => exact ⟨0, Nat.zero_le _, rfl, by rw [show P + M % 2 ^ 0 * 2 ^ p = P by simp [Int.emod_one]]; exact (unhide HO2).1, (unhide HO2).2.1, (unhide HO2).2.2⟩
          case round =>
            clear HO2
            obtain ⟨j, hj, rfl, hown, hxz, hkz⟩ := hrel
            by_cases hlt5 : j < k
            · have hlt6 : (j : Int) < (k : Int) := by omega
              have hj64 : (j : Int) < 64 := by omega
              have d0 : 0 ≤ M / 2 ^ j := Int.ediv_nonneg M0 (Int.pow_nonneg (by omega))
              have d1 : M / 2 ^ j < 256 := Int.lt_of_le_of_lt (Int.ediv_le_self _ M0) (by omega)
              have ht1 : Int.tmod (M / 2 ^ j) 2 = M / 2 ^ j % 2 := Int.tmod_eq_emod_of_nonneg d0
              have hnx := mod_next M j
              have HO := hide (And.intro hown (And.intro hxz hkz))
              by_cases hb : M / 2 ^ j % 2 = 1
              · have hbb : (M / 2 ^ j % 2 == 1) = true := by rw [hb]; rfl
                obtain ⟨q, hq⟩ : ∃ q, q = p + j := ⟨_, rfl⟩
                obtain ⟨Nn, hNn⟩ : ∃ Nn, Nn = P + M % 2 ^ j * 2 ^ p := ⟨_, rfl⟩
                have e2 : (2 : Int) ^ q = 2 ^ j * 2 ^ p := by rw [hq, Nat.add_comm, Int.pow_add]
                have hP := (unhide HM).2.1
                have hm0 := Int.emod_nonneg M (show (2 : Int) ^ j ≠ 0 by have := two_pow_pos j; omega)
                have hm1 := Int.emod_lt_of_pos M (show (0 : Int) < 2 ^ j by have := two_pow_pos j; omega)
                have hpp := two_pow_pos p
                have hN0 : 0 ≤ Nn := by
                  have := Int.mul_nonneg hm0 (show (0 : Int) ≤ 2 ^ p by omega)
                  omega
                have hN1 : Nn < 2 ^ q := by
                  have h1 : (M % 2 ^ j + 1) * 2 ^ p ≤ 2 ^ j * 2 ^ p := Int.mul_le_mul_of_nonneg_right (by omega) (by omega)
                  rw [Int.add_mul, Int.one_mul] at h1
                  rw [e2]
                  omega
                have hqs : q < 8 * s := by omega
                obtain ⟨lb1, lb2, lb3⟩ := low_bit Nn q s hN0 hN1 hqs
                have hnx2 : P + M % 2 ^ (j + 1) * 2 ^ p = Nn + 2 ^ q := by
                  rw [hnx, hb, Int.mul_one, Int.add_mul, hNn, e2]
                  omega
                rw [← hNn] at hown
                have hll := low_length Nn s
                have hq8 : q / 8 < s := by omega
                have cq := hown.cellAt (q / 8) (by rw [hll]; exact hq8)
                have fq := hown.frozenAt (q / 8)
                have egd : (low Nn s).getD (q / 8) 0 = (low Nn s)[q / 8]'(by rw [hll]; exact hq8) := by simp [hll, hq8]
                rw [egd] at lb1 lb2 lb3
                have hst := hown.stored (q / 8) ((low Nn s)[q / 8]'(by rw [hll]; exact hq8) + 2 ^ (q % 8))
                rw [← lb1, ← hnx2] at hst
                have hgs := grownBy_set wr (w.heap.size) (q / 8) (.int .u8 ((low Nn s)[q / 8]'(by rw [hll]; exact hq8) + 2 ^ (q % 8)))
                have hbn := blk_neU hkz (by decide) hown
                have hxs : Ext w _ := below_grown hxz hgs hxz.size (Nat.le_refl _)
                have H9 := hide (And.intro hst (And.intro hxs (hkz.grown hgs hbn)))
                generalize (low Nn s)[q / 8]'(by rw [hll]; exact hq8) = y at *
                have hpw : (2 : Int) ^ (q % 8) ≤ 128 := by
                  have : q % 8 < 8 := Nat.mod_lt _ (by omega)
                  generalize q % 8 = z at *
                  rcases (by omega : z = 0 ∨ z = 1 ∨ z = 2 ∨ z = 3 ∨ z = 4 ∨ z = 5 ∨ z = 6 ∨ z = 7) with rfl | rfl | rfl | rfl | rfl | rfl | rfl | rfl <;> decide
                have hpw0 := two_pow_pos (q % 8)
                have w1 : IntKind.i64.wrap ((p : Int) + (j : Int)) = (q : Int) := by rw [show (p : Int) + (j : Int) = (q : Int) by omega]; exact wrap_id (by omega) (by omega)
                have w2 : Int.tdiv (q : Int) 8 = ((q / 8 : Nat) : Int) := by rw [Int.tdiv_eq_ediv_of_nonneg (by omega)]; omega
                have w3 : Int.tmod (q : Int) 8 = ((q % 8 : Nat) : Int) := by rw [Int.tmod_eq_emod_of_nonneg (by omega)]; omega
                have w5 : IntKind.u8.wrap (y + 2 ^ (q % 8)) = y + 2 ^ (q % 8) := by simp [IntKind.wrap, IntKind.bits, IntKind.signed]; omega
                have w6 : IntKind.u8.wrap ((2 : Int) ^ (q % 8)) = 2 ^ (q % 8) := by simp [IntKind.wrap, IntKind.bits, IntKind.signed]; omega
                clear hown hxz hkz hst hgs hbn hxs lb1 hnx2 e2 hP hm0 hm1 hpp hN0 hN1 hNn hnx hll egd HO hq
                go_upto_region 22 with fail
                have hz8 : q % 8 < 8 := Nat.mod_lt _ (by omega)
                generalize q / 8 = d at *
                generalize q % 8 = z at *
                have W1 := hide w1
                have W2 := hide w2
                have W3 := hide w3
                have W5 := hide w5
                have W6 := hide w6
                have W2b : Hid (IntKind.i64.wrap (d : Int) = (d : Int)) := wrap_id (by omega) (by omega)
                have W3b : Hid (IntKind.i64.wrap (z : Int) = (z : Int)) := wrap_id (by omega) (by omega)
                have WD : Hid ((d : Int) < (s : Int)) := by show _ < _; omega
                have WZ : Hid ((z : Int) < 8) := by show _ < _; omega
                clear w1 w2 w3 w5 w6
                refine wp_region_noPanic ?_
                refine wp_region_held_drew (S := fun _ => True) (by kernel_rfl) trivial (fun HS => ?_)
                refine wpAnyH_take (i := 0) (oi := { dst := some 73, op := Op.move (Operand.tmp 5), type := 27, pos := _, after := _, guard := none }) (v := .slice (some ⟨w.heap.size, 0, none⟩) s s) rfl (by kernel_rfl) (by kernel_rfl) (by kernel_rfl) (fun _ _ _ h => h) (Or.inl ⟨by rfl, fun _ _ => rfl⟩) HS ?_
                simp only [Act.put, List.setIfInBounds_toArray, List.set_cons_zero, List.set_cons_succ]
                refine wpAnyH_take (i := 1) (oi := { dst := some 74, op := Op.move (Operand.tmp 6), type := 3, pos := _, after := _, guard := none }) (v := .int .i64 (p : Int)) rfl (by kernel_rfl) (by kernel_rfl) (by kernel_rfl) (fun _ _ _ h => h) (Or.inl ⟨by rfl, fun _ _ => rfl⟩) HS ?_
                simp only [Act.put, List.setIfInBounds_toArray, List.set_cons_zero, List.set_cons_succ]
                refine wpAnyH_take (i := 2) (oi := { dst := some 75, op := Op.move (Operand.tmp 15), type := 3, pos := _, after := _, guard := none }) (v := .int .i64 (j : Int)) rfl (by kernel_rfl) (by kernel_rfl) (by kernel_rfl) (fun _ _ _ h => h) (Or.inl ⟨by rfl, fun _ _ => rfl⟩) HS ?_
                simp only [Act.put, List.setIfInBounds_toArray, List.set_cons_zero, List.set_cons_succ]
                refine wpAnyH_take (i := 3) (oi := { dst := some 76, op := Op.binOp BinOp.add 3 (Operand.tmp 74) (Operand.tmp 75) 3, type := 3, pos := _, after := _, guard := none }) (v := .int .i64 (q : Int)) rfl (by kernel_rfl) (by kernel_rfl) (by kernel_rfl) (fun _ _ _ h => h) (Or.inl ⟨by rfl, fun wx hx => by have W1h := unhide W1; go_simp⟩) HS ?_
                simp only [Act.put, List.setIfInBounds_toArray, List.set_cons_zero, List.set_cons_succ]
                refine wpAnyH_take (i := 4) (oi := { dst := some 77, op := Op.binOp BinOp.quo 3 (Operand.tmp 76) (Operand.const (Value.int IntKind.i64 8)) 3, type := 3, pos := _, after := _, guard := none }) (v := .int .i64 (d : Int)) rfl (by kernel_rfl) (by kernel_rfl) (by kernel_rfl) (fun _ _ _ h => h) (Or.inl ⟨by rfl, fun wx hx => by have W2h := unhide W2; have W2bh := unhide W2b; go_simp⟩) HS ?_
                simp only [Act.put, List.setIfInBounds_toArray, List.set_cons_zero, List.set_cons_succ]
                refine wpAnyH_take (i := 5) (oi := { dst := some 78, op := Op.indexAddr 27 (Operand.tmp 73) (Operand.tmp 77), type := 0, pos := _, after := _, guard := none }) (v := .pointer (some ⟨w.heap.size, d, none⟩)) rfl (by kernel_rfl) (by kernel_rfl) (by kernel_rfl) (fun _ _ _ h => h) (Or.inl ⟨by rfl, fun wx hx => by have WDh := unhide WD; go_simp⟩) HS ?_
                simp only [Act.put, List.setIfInBounds_toArray, List.set_cons_zero, List.set_cons_succ]
                refine wpAnyH_take (i := 7) (oi := { dst := some 80, op := Op.move (Operand.tmp 6), type := 3, pos := _, after := _, guard := none }) (v := .int .i64 (p : Int)) rfl (by kernel_rfl) (by kernel_rfl) (by kernel_rfl) (fun _ _ _ h => h) (Or.inl ⟨by rfl, fun _ _ => rfl⟩) HS ?_
                simp only [Act.put, List.setIfInBounds_toArray, List.set_cons_zero, List.set_cons_succ]
                refine wpAnyH_take (i := 8) (oi := { dst := some 81, op := Op.move (Operand.tmp 15), type := 3, pos := _, after := _, guard := none }) (v := .int .i64 (j : Int)) rfl (by kernel_rfl) (by kernel_rfl) (by kernel_rfl) (fun _ _ _ h => h) (Or.inl ⟨by rfl, fun _ _ => rfl⟩) HS ?_
                simp only [Act.put, List.setIfInBounds_toArray, List.set_cons_zero, List.set_cons_succ]
                refine wpAnyH_take (i := 9) (oi := { dst := some 82, op := Op.binOp BinOp.add 3 (Operand.tmp 80) (Operand.tmp 81) 3, type := 3, pos := _, after := _, guard := none }) (v := .int .i64 (q : Int)) rfl (by kernel_rfl) (by kernel_rfl) (by kernel_rfl) (fun _ _ _ h => h) (Or.inl ⟨by rfl, fun wx hx => by have W1h := unhide W1; go_simp⟩) HS ?_
                simp only [Act.put, List.setIfInBounds_toArray, List.set_cons_zero, List.set_cons_succ]
                refine wpAnyH_take (i := 10) (oi := { dst := some 83, op := Op.binOp BinOp.rem 3 (Operand.tmp 82) (Operand.const (Value.int IntKind.i64 8)) 3, type := 3, pos := _, after := _, guard := none }) (v := .int .i64 (z : Int)) rfl (by kernel_rfl) (by kernel_rfl) (by kernel_rfl) (fun _ _ _ h => h) (Or.inl ⟨by rfl, fun wx hx => by have W3h := unhide W3; have W3bh := unhide W3b; go_simp⟩) HS ?_
                simp only [Act.put, List.setIfInBounds_toArray, List.set_cons_zero, List.set_cons_succ]
                refine wpAnyH_take (i := 11) (oi := { dst := some 84, op := Op.binOp BinOp.shl 5 (Operand.const (Value.int IntKind.u8 1)) (Operand.tmp 83) 3, type := 5, pos := _, after := _, guard := none }) (v := .int .u8 (2 ^ z)) rfl (by kernel_rfl) (by kernel_rfl) (by kernel_rfl) (fun _ _ _ h => h) (Or.inl ⟨by rfl, fun wx hx => by have W6h := unhide W6; have WZh := unhide WZ; go_simp⟩) HS ?_
                simp only [Act.put, List.setIfInBounds_toArray, List.set_cons_zero, List.set_cons_succ]
                refine wpAnyH_ready (rs := [6]) (by kernel_rfl) (by simp) (AllReadyH.cons (o := { dst := some 79, op := Op.load 5 (Operand.tmp 78), type := 5, pos := _, after := _, guard := none }) rfl (fun KK hK => ?_) AllReadyH.nil)
                refine Eq.mpr (if_pos (by rfl)) ?_
                go_simp
                refine hK.out _ _ trivial (fun _ => ?_)
                clear hK KK
                try simp only [Act.put, List.setIfInBounds_toArray, List.set_cons_zero, List.set_cons_succ]
                refine wpAnyH_take (i := 12) (oi := { dst := some 85, op := Op.binOp BinOp.add 5 (Operand.tmp 79) (Operand.tmp 84) 5, type := 5, pos := _, after := _, guard := none }) (v := .int .u8 (y + 2 ^ z)) rfl (by kernel_rfl) (by kernel_rfl) (by kernel_rfl) (fun _ _ _ h => h) (Or.inl ⟨by rfl, fun wx hx => by have W5h := unhide W5; go_simp⟩) HS ?_
                simp only [Act.put, List.setIfInBounds_toArray, List.set_cons_zero, List.set_cons_succ]
                refine wpAnyH_take (i := 13) (oi := { dst := some 86, op := Op.indexAddr 27 (Operand.tmp 73) (Operand.tmp 77), type := 0, pos := _, after := _, guard := none }) (v := .pointer (some ⟨w.heap.size, d, none⟩)) rfl (by kernel_rfl) (by kernel_rfl) (by kernel_rfl) (fun _ _ _ h => h) (Or.inl ⟨by rfl, fun wx hx => by have WDh := unhide WD; go_simp⟩) HS ?_
                simp only [Act.put, List.setIfInBounds_toArray, List.set_cons_zero, List.set_cons_succ]
                refine wpAnyH_ready (rs := [14]) (by kernel_rfl) (by simp) (AllReadyH.cons (o := { dst := none, op := Op.store 5 (Operand.tmp 86) (Operand.tmp 85), type := 0, pos := _, after := _, guard := none }) rfl (fun KK hK => ?_) AllReadyH.nil)
                refine Eq.mpr (if_pos (by rfl)) ?_
                go_simp
                refine hK.out _ _ trivial (fun _ => ?_)
                clear hK KK
                try simp only [Act.put, List.setIfInBounds_toArray, List.set_cons_zero, List.set_cons_succ]
                refine wpAnyH_done (by kernel_rfl) ?_ _
                refine NoPanic.normal ?_
                clear HS
                go_wp2
                go_roundw
                case rel => exact ⟨j + 1, by omega, by go_num, (unhide H9).1, (unhide H9).2.1.drew, (unhide H9).2.2⟩
                case measure => simp [intOf]; omega
              · have hb0 : M / 2 ^ j % 2 = 0 := by omega
                have hbb : (M / 2 ^ j % 2 == 1) = false := by rw [hb0]; rfl
                have HNX := hide (show M % 2 ^ (j + 1) = M % 2 ^ j by rw [hnx, hb0]; simp)
                clear hnx hown hxz hkz hb hb0
                go_wp2
                go_roundw
                case rel => exact ⟨j + 1, by omega, by go_num, by rw [unhide HNX]; exact (unhide HO).1, (unhide HO).2.1, (unhide HO).2.2⟩
                case measure => simp [intOf]; omega
            · obtain rfl : j = k := by omega
              have hnl2 : ¬ (j : Int) < (j : Int) := by omega
              have hMj : M % 2 ^ j = M := Int.emod_eq_of_lt M0 M1
              rw [hMj, ← (unhide HM).1] at hown
              have HO := hide (And.intro hown (And.intro hxz hkz))
              have hpj : (p : Int) + (j : Int) ≤ 1000 := by omega
              clear hown hxz hkz hMj
              go_wp2
              go_roundw
              case rel => exact ⟨c + 1, by omega, by go_num, by rw [(unhide HM).2.2.1]; simp, (unhide HO).1, (unhide HO).2.1, (unhide HO).2.2⟩
              case measure => simp [intOf]; omega
    · obtain rfl : c = ks.length := by omega
      have hnl : ¬ (ks.length : Int) < (ks.length : Int) := by omega
      rw [List.take_length] at hown
      have HO := hide (And.intro hown hxr)
      clear hown hxr hkr
      go_wp2
      go_ret
      refine ⟨_, rfl, ?_, (unhide HO).2⟩
      unfold meanB
      rw [← unhide HK, ← (unhide HG).1]
      exact (unhide HO).1
end Go.Proofs.Ytpjapdifmfpcnaa
