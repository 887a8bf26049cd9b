/- Several texts in one. -/
import Derived.Test.YtglfhmlcmffoaaaGreatVFw
import Derived.Test.YtglfhmlcmffoaaaGreatCZb
import Derived.Test.YtglfhmlcmffoaaaGreatCZaJ
/-
  The law VmHangs: its closure, which lays vectors of another row where nothing reads.
-/
namespace Go.Proofs.YtglfhmlcmffoaaaGreat
open Go.RowKit
set_option linter.unusedVariables false
set_option linter.unusedSimpArgs false

/-- The row T, those of its first k vectors that R does not mark being F's. -/
def mixTo (T F : List (Nat → Int)) (R : List Bool) : Nat → List (Nat → Int)
  | 0 => T
  | k + 1 => if k < F.length ∧ R.getD k false = false then (mixTo T F R k).set k (F.getD k nul) else mixTo T F R k
theorem mixTo_len (T F : List (Nat → Int)) (R : List Bool) : ∀ k, (mixTo T F R k).length = T.length
  | 0 => rfl
  | k + 1 => by
    unfold mixTo
    split
    · rw [List.length_set, mixTo_len T F R k]
    · exact mixTo_len T F R k
/-- Whatever R marks is as it was. -/
theorem mixTo_at (T F : List (Nat → Int)) (R : List Bool) (i : Nat) (h : R.getD i false = true) : ∀ k, (mixTo T F R k).getD i nul = T.getD i nul
  | 0 => rfl
  | k + 1 => by
    unfold mixTo
    split
    · rename_i hc
      have hne : k ≠ i := fun e => by rw [e, h] at hc; exact absurd hc.2 (by decide)
      rw [List.getD_eq_getElem?_getD, List.getElem?_set, if_neg hne, ← List.getD_eq_getElem?_getD]
      exact mixTo_at T F R i h k
    · exact mixTo_at T F R i h k
theorem mixTo_i32 {T F : List (Nat → Int)} {R : List Bool} (hT : ∀ x i, I32 (reg T x i)) (hF : ∀ x i, I32 (reg F x i)) : ∀ k x i, I32 (reg (mixTo T F R k) x i)
  | 0 => hT
  | k + 1 => by
    unfold mixTo
    split
    · refine reg_set_i32 (mixTo_i32 hT hF k) (fun i => ?_) k
      have := hF (k : Int) i
      unfold reg at this
      rwa [Int.toNat_natCast] at this
    · exact mixTo_i32 hT hF k

set_option maxRecDepth 10000 in
set_option maxHeartbeats 1000000 in
theorem lay18_any (T F : List (Nat → Int)) (R : List Bool) (ao af : Option Addr) (n nf ca cf : Nat) (base : Nat) (w : World) (hT : OV w base (.slice ao n ca) T) (hF : OV w base (.slice af nf cf) F) (hn : n = T.length) (hnf : nf = F.length) (h40 : n ≤ 40) (hf40 : nf ≤ 40) (hR : R.length = 64)
    (hne : ∀ b, (Value.slice ao n ca).ownBlock = some b → (Value.slice af nf cf).ownBlock ≠ some b) :
    Calls Tryz.prog 23 #[.slice ao n ca, .slice af nf cf, .agg (bcells R)] w fun e w' => e = .returned (.tuple #[]) ∧ OV w' base (.slice ao n ca) (mixTo T F R n) ∧ w.grownBy w' (Value.slice ao n ca).ownBlock := by
  have HN := hide (And.intro hn hnf)
  have HR64 := hide hR
  have HNE := hide hne
  have h0 := hide (show OV (w.alloc (.cells (bcells R) 60)) base (.slice ao n ca) T ∧ OV (w.alloc (.cells (bcells R) 60)) base (.slice af nf cf) F ∧ Blk (w.alloc (.cells (bcells R) 60)) w.heap.size (bcells R) 60 ∧ w.grownBy (w.alloc (.cells (bcells R) 60)) (Value.slice ao n ca).ownBlock from ⟨GO.ext hT ((Ext.refl _).alloc _), GO.ext hF ((Ext.refl _).alloc _), Blk.new w _ _, extGrownG ((Ext.refl _).alloc _) _⟩)
  have HLT := hide (GO.lt hT)
  clear hn hnf hR hne hT hF
  go_enter Tryz.func23, Tryz.ntmps23
  go_wp2
  generalize w.alloc (.cells (bcells R) 60) = w1 at h0 ⊢
  go_loopw [9] (fun p wr => ∃ k : Nat, k ≤ n ∧ p = .int .i64 (k : Int) ∧ Hid (OV wr base (.slice ao n ca) (mixTo T F R k) ∧ OV wr base (.slice af nf cf) F ∧ Blk wr w.heap.size (bcells R) 60 ∧ w.grownBy wr (Value.slice ao n ca).ownBlock)) (fun p _ => n - (intOf p).toNat)
  case atStart => exact ⟨0, Nat.zero_le _, rfl, unhide h0⟩
  case round =>
    obtain ⟨k, hk, rfl, R0⟩ := hrel
    clear h0
    by_cases hlt : k < n
    case neg =>
      obtain rfl : k = n := by omega
      go_wp2
      refine bodyPost_end (v := .tuple #[]) (by simp [results, Tryz.results23, go_sem]) rfl ⟨rfl, (unhide R0).1, (unhide R0).2.2.2⟩
    case pos =>
    have hki : (k : Int) < (n : Int) := by omega
    have hkb : k < R.length := by rw [unhide HR64]; omega
    have hk64 : (k : Int) < 64 := by omega
    have cb := (unhide R0).2.2.1.cell (bcells_at hkb)
    have HMX : Hid (mixTo T F R (k + 1) = if k < F.length ∧ R.getD k false = false then (mixTo T F R k).set k (F.getD k nul) else mixTo T F R k) := rfl
    by_cases hkf : k < nf
    case neg =>
      have dkf : ¬ (k : Int) < (nf : Int) := by omega
      have dkd : decide ((k : Int) < (nf : Int)) = false := decide_eq_false dkf
      have R1 : Hid (OV wr base (.slice ao n ca) (mixTo T F R (k + 1)) ∧ OV wr base (.slice af nf cf) F ∧ Blk wr w.heap.size (bcells R) 60 ∧ w.grownBy wr (Value.slice ao n ca).ownBlock) := by
        rw [unhide HMX, if_neg (by rw [← (unhide HN).2]; omega)]
        exact unhide R0
      clear R0 cb HMX
      go_wp2
      go_roundw
      case rel => exact ⟨k + 1, by omega, by go_num, unhide R1⟩
      case measure => simp [intOf]; omega
    case pos =>
    have dkf : (k : Int) < (nf : Int) := by omega
    obtain ⟨q, hq⟩ : ∃ q, R.getD k false = q := ⟨_, rfl⟩
    rw [hq] at cb HMX
    clear hq
    cases q
    case true =>
      have R1 : Hid (OV wr base (.slice ao n ca) (mixTo T F R (k + 1)) ∧ OV wr base (.slice af nf cf) F ∧ Blk wr w.heap.size (bcells R) 60 ∧ w.grownBy wr (Value.slice ao n ca).ownBlock) := by
        rw [unhide HMX, if_neg (by simp)]
        exact unhide R0
      clear R0 HMX
      go_wp2
      go_roundw
      case rel => exact ⟨k + 1, by omega, by go_num, unhide R1⟩
      case measure => simp [intOf]; omega
    case false =>
      have hkF : k < F.length := by rw [← (unhide HN).2]; exact hkf
      have hkT : k < (mixTo T F R k).length := by rw [mixTo_len, ← (unhide HN).1]; exact hlt
      obtain ⟨gt, ct, et, ht⟩ := OV.slc (unhide R0).1 hkT
      obtain ⟨gf, cf2, ef, hf⟩ := OV.slc (unhide R0).2.1 hkF
      have et1 := (Value.slice.inj et).1
      have ef1 := (Value.slice.inj ef).1
      subst et1
      subst ef1
      obtain ⟨⟨t0, t1, t2, t3⟩, f0, f1, f2, f3⟩ := ht wr (Ext.refl _)
      obtain ⟨⟨s0, s1, s2, s3⟩, _⟩ := hf wr (Ext.refl _)
      obtain ⟨x, hx⟩ : ∃ x, F[k] = x := ⟨_, rfl⟩
      rw [hx] at s0 s1 s2 s3
      have hxd : F.getD k nul = x := by rw [← hx]; simp [hkF]
      rw [hxd, if_pos ⟨hkF, rfl⟩] at HMX
      have hgfn : gt ≠ gf := fun e => unhide HNE gt rfl (by rw [e]; rfl)
      have hgw := (unhide HLT) gt rfl
      have hB := (unhide R0).2.2.1.lt
      clear ht hf et ef hx hxd
      have hg4 := grown4 wr gt (k * 4) (k * 4 + 1) (k * 4 + 2) (k * 4 + 3) (.int .i32 (x 0)) (.int .i32 (x 1)) (.int .i32 (x 2)) (.int .i32 (x 3))
      have R1 : Hid (OV ((((wr.setCell ⟨gt, k * 4, none⟩ (.int .i32 (x 0))).setCell ⟨gt, k * 4 + 1, none⟩ (.int .i32 (x 1))).setCell ⟨gt, k * 4 + 2, none⟩ (.int .i32 (x 2))).setCell ⟨gt, k * 4 + 3, none⟩ (.int .i32 (x 3))) base (.slice (some ⟨gt, 0, none⟩) n ca) (mixTo T F R (k + 1)) ∧ OV ((((wr.setCell ⟨gt, k * 4, none⟩ (.int .i32 (x 0))).setCell ⟨gt, k * 4 + 1, none⟩ (.int .i32 (x 1))).setCell ⟨gt, k * 4 + 2, none⟩ (.int .i32 (x 2))).setCell ⟨gt, k * 4 + 3, none⟩ (.int .i32 (x 3))) base (.slice (some ⟨gf, 0, none⟩) nf cf) F ∧ Blk ((((wr.setCell ⟨gt, k * 4, none⟩ (.int .i32 (x 0))).setCell ⟨gt, k * 4 + 1, none⟩ (.int .i32 (x 1))).setCell ⟨gt, k * 4 + 2, none⟩ (.int .i32 (x 2))).setCell ⟨gt, k * 4 + 3, none⟩ (.int .i32 (x 3))) w.heap.size (bcells R) 60 ∧ w.grownBy ((((wr.setCell ⟨gt, k * 4, none⟩ (.int .i32 (x 0))).setCell ⟨gt, k * 4 + 1, none⟩ (.int .i32 (x 1))).setCell ⟨gt, k * 4 + 2, none⟩ (.int .i32 (x 2))).setCell ⟨gt, k * 4 + 3, none⟩ (.int .i32 (x 3))) (some gt)) := by
        rw [unhide HMX]
        exact ⟨(unhide R0).1.store k hkT x, GO.keep (unhide R0).2.1 hg4 (fun b hb => by cases hb; exact hgfn.symm), (unhide R0).2.2.1.grown hg4 (by have := hgw.2; omega), (unhide R0).2.2.2.trans hg4⟩
      clear R0 HMX hg4
      go_wp2
      go_roundw
      case rel => exact ⟨k + 1, by omega, by go_num, unhide R1⟩
      case measure => simp [intOf]; omega
end Go.Proofs.YtglfhmlcmffoaaaGreat

/-
  The law VmHangs, plainly: what is marked as read, and that what is not marked is no matter.
-/
namespace Go.Proofs.YtglfhmlcmffoaaaGreat
open Go.RowKit
set_option linter.unusedVariables false
set_option linter.unusedSimpArgs false

/-- What is marked: attributes, uniforms, varyings, Coord, Front, Point, the images. -/
structure Rds where
  a : List Bool
  u : List Bool
  v : List Bool
  co : Bool
  fr : Bool
  pt : Bool
  tx : Bool
def rd0 : Rds := ⟨List.replicate 64 false, List.replicate 64 false, List.replicate 64 false, false, false, false, false⟩
def rdS (r : Rds) (I : Nat → Int) : Rds :=
  if I 0 = 9 then ⟨r.a, r.u, r.v, r.co, r.fr, r.pt, true⟩
  else if I 0 ≠ 3 then r
  else if I 1 = 1 then ⟨r.a.set (I 5).toNat true, r.u, r.v, r.co, r.fr, r.pt, r.tx⟩
  else if I 1 = 2 then ⟨r.a, r.u.set (I 5).toNat true, r.v, r.co, r.fr, r.pt, r.tx⟩
  else if I 1 = 3 then ⟨r.a, r.u, r.v.set (I 5).toNat true, r.co, r.fr, r.pt, r.tx⟩
  else if I 1 = 4 then ⟨r.a, r.u, r.v, true, r.fr, r.pt, r.tx⟩
  else if I 1 = 5 then ⟨r.a, r.u, r.v, r.co, true, r.pt, r.tx⟩
  else ⟨r.a, r.u, r.v, r.co, r.fr, true, r.tx⟩
def rdK (L : List (Nat → Int)) (P : List Nat) : Nat → Rds
  | 0 => rd0
  | k + 1 => rdS (rdK L P k) (L.getD (P.getD k 0) zI)
def Len64 (r : Rds) : Prop := r.a.length = 64 ∧ r.u.length = 64 ∧ r.v.length = 64
theorem rdS_len {r : Rds} (h : Len64 r) (I : Nat → Int) : Len64 (rdS r I) := by
  unfold rdS Len64 at *
  repeat' split
  all_goals simpa using h
theorem rdK_len (L : List (Nat → Int)) (P : List Nat) : ∀ k, Len64 (rdK L P k)
  | 0 => by simp [rdK, rd0, Len64]
  | k + 1 => rdS_len (rdK_len L P k) _
/-- What an instruction loads is marked. -/
structure Mk (r : Rds) (I : Nat → Int) : Prop where
  tx : I 0 = 9 → r.tx = true
  a : I 0 = 3 → I 1 = 1 → r.a.getD (I 5).toNat false = true
  u : I 0 = 3 → I 1 = 2 → r.u.getD (I 5).toNat false = true
  v : I 0 = 3 → I 1 = 3 → r.v.getD (I 5).toNat false = true
  co : I 0 = 3 → I 1 = 4 → r.co = true
  fr : I 0 = 3 → I 1 = 5 → r.fr = true
  pt : I 0 = 3 → I 1 ≠ 1 → I 1 ≠ 2 → I 1 ≠ 3 → I 1 ≠ 4 → I 1 ≠ 5 → r.pt = true
theorem setT (l : List Bool) (i : Nat) (h : i < l.length) : (l.set i true).getD i false = true := by simp [h]
theorem mk_self {r : Rds} (h : Len64 r) {I : Nat → Int} (hb : I 0 = 3 → (I 5).toNat < 64) : Mk (rdS r I) I := by
  obtain ⟨ha, hu, hv⟩ := h
  refine ⟨fun e => ?_, fun e e1 => ?_, fun e e1 => ?_, fun e e1 => ?_, fun e e1 => ?_, fun e e1 => ?_, fun e e1 e2 e3 e4 e5 => ?_⟩
  · unfold rdS; rw [if_pos e]
  · unfold rdS; rw [if_neg (by omega), if_neg (by omega), if_pos e1]; exact setT _ _ (by rw [ha]; exact hb e)
  · unfold rdS; rw [if_neg (by omega), if_neg (by omega), if_neg (by omega), if_pos e1]; exact setT _ _ (by rw [hu]; exact hb e)
  · unfold rdS; rw [if_neg (by omega), if_neg (by omega), if_neg (by omega), if_neg (by omega), if_pos e1]; exact setT _ _ (by rw [hv]; exact hb e)
  · unfold rdS; rw [if_neg (by omega), if_neg (by omega), if_neg (by omega), if_neg (by omega), if_neg (by omega), if_pos e1]
  · unfold rdS; rw [if_neg (by omega), if_neg (by omega), if_neg (by omega), if_neg (by omega), if_neg (by omega), if_neg (by omega), if_pos e1]
  · unfold rdS; rw [if_neg (by omega), if_neg (by omega), if_neg e1, if_neg e2, if_neg e3, if_neg e4, if_neg e5]
theorem mk_mono {r : Rds} {J : Nat → Int} (h : Mk r J) (I : Nat → Int) : Mk (rdS r I) J := by
  unfold rdS
  repeat' split
  all_goals
    first
    | exact h
    | exact ⟨fun _ => rfl, h.a, h.u, h.v, h.co, h.fr, h.pt⟩
    | exact ⟨h.tx, fun e e1 => set_true_at _ _ _ (h.a e e1), h.u, h.v, h.co, h.fr, h.pt⟩
    | exact ⟨h.tx, h.a, fun e e1 => set_true_at _ _ _ (h.u e e1), h.v, h.co, h.fr, h.pt⟩
    | exact ⟨h.tx, h.a, h.u, fun e e1 => set_true_at _ _ _ (h.v e e1), h.co, h.fr, h.pt⟩
    | exact ⟨h.tx, h.a, h.u, h.v, fun _ _ => rfl, h.fr, h.pt⟩
    | exact ⟨h.tx, h.a, h.u, h.v, h.co, fun _ _ => rfl, h.pt⟩
    | exact ⟨h.tx, h.a, h.u, h.v, h.co, h.fr, fun _ _ _ _ _ _ => rfl⟩
theorem rdK_mk {L : List (Nat → Int)} {P : List Nat} (hb : ∀ x ∈ P, (L.getD x zI) 0 = 3 → ((L.getD x zI) 5).toNat < 64) : ∀ k, k ≤ P.length → ∀ j, j < k → Mk (rdK L P k) (L.getD (P.getD j 0) zI)
  | 0, _, j, hj => by omega
  | k + 1, hk, j, hj => by
    by_cases e : j = k
    · subst e
      refine mk_self (rdK_len L P j) (hb _ ?_)
      rw [show P.getD j 0 = P[j] by simp [show j < P.length by omega]]
      exact List.getElem_mem _
    · exact mk_mono (rdK_mk hb k (by omega) j (by omega)) _
/-- The surroundings, mixed. -/
def mixS (S F : Sur) (r : Rds) : Sur := ⟨mixTo S.att F.att r.a S.att.length, mixTo S.uni F.uni r.u S.uni.length, mixTo S.vry F.vry r.v S.vry.length, if r.co then S.co else F.co, if r.fr then S.fr else F.fr, if r.pt then S.pt else F.pt⟩
theorem mixS_load {S F : Sur} {r : Rds} {I : Nat → Int} (h : Mk r I) (h3 : I 0 = 3) : loadP (mixS S F r) I = loadP S I := by
  unfold loadP
  by_cases e1 : I 1 = 1
  · rw [if_pos e1, if_pos e1]; exact mixTo_at _ _ _ _ (h.a h3 e1) _
  rw [if_neg e1, if_neg e1]
  by_cases e2 : I 1 = 2
  · rw [if_pos e2, if_pos e2]; exact mixTo_at _ _ _ _ (h.u h3 e2) _
  rw [if_neg e2, if_neg e2]
  by_cases e3 : I 1 = 3
  · rw [if_pos e3, if_pos e3]; exact mixTo_at _ _ _ _ (h.v h3 e3) _
  rw [if_neg e3, if_neg e3]
  by_cases e4 : I 1 = 4
  · rw [if_pos e4, if_pos e4]; show (if r.co then S.co else F.co) = S.co; rw [h.co h3 e4]; rfl
  rw [if_neg e4, if_neg e4]
  by_cases e5 : I 1 = 5
  · rw [if_pos e5, if_pos e5]; show truI (if r.fr then S.fr else F.fr) = truI S.fr; rw [h.fr h3 e5]; rfl
  rw [if_neg e5, if_neg e5]
  show (fun i => if i = 0 then (if r.pt then S.pt else F.pt) 0 else if i = 1 then (if r.pt then S.pt else F.pt) 1 else 0) = _
  rw [h.pt h3 e1 e2 e3 e4 e5]
  rfl
theorem mixS_32 {S F : Sur} {r : Rds} (h : Sur32 S) (k : Sur32 F) : Sur32 (mixS S F r) := by
  refine ⟨mixTo_i32 h.a32 k.a32 _, mixTo_i32 h.u32 k.u32 _, mixTo_i32 h.v32 k.v32 _, fun i => ?_, fun i => ?_⟩
  · show I32 ((if r.co then S.co else F.co) i)
    split
    · exact h.c32 i
    · exact k.c32 i
  · show I32 ((if r.pt then S.pt else F.pt) i)
    split
    · exact h.p32 i
    · exact k.p32 i
/-- What no instruction that is done loads is no matter. -/
theorem runP_mix {C : Cod} (hm : mayP C = true) (S F : Sur) (G GF : List (Img × Value × List Ent)) (r : Rds) (h : ∀ x ∈ (runP C S G).2, Mk r (C.ins.getD x zI)) : runP C (mixS S F r) (if r.tx then G else GF) = runP C S G := by
  refine runF_agree (fun k hk => (may_ask hm k hk).op) _ _ _ (fun x hx => ⟨fun h3 => mixS_load (h x hx) h3, fun h9 a b => ?_⟩)
  rw [(h x hx).tx h9]
  rfl
theorem load_64 {C : Cod} (hm : mayP C = true) (k : Nat) (hk : k < C.ins.length) (h3 : C.ins[k] 0 = 3) : 0 ≤ C.ins[k] 5 ∧ C.ins[k] 5 < 64 := by
  have hl := (may_ask hm k hk).load h3
  simp only [mayP, Bool.and_eq_true] at hm
  have h2 := hm.1
  have hb : C.attr ≤ 8 ∧ C.unif ≤ 32 ∧ C.vary ≤ 4 := by
    unfold headB at h2
    split at h2
    · simp only [Bool.and_eq_true, inB_iff] at h2
      omega
    · split at h2
      · simp only [Bool.and_eq_true, inB_iff] at h2
        omega
      · cases h2
  unfold loadB at hl
  split at hl
  · simp only [Bool.and_eq_true, inB_iff] at hl
    omega
  · split at hl
    · simp only [inB_iff] at hl
      omega
    · split at hl
      · simp only [Bool.and_eq_true, inB_iff] at hl
        omega
      · split at hl
        · simp only [Bool.and_eq_true, beq_iff_eq] at hl
          omega
        · cases hl
theorem cutS_idem (S : Sur) : cutS (cutS S) = cutS S := by simp [cutS, List.take_take]
theorem envIn_of {W w : World} {base : Nat} {E E2 : EnvC} {S : Sur} {G : List (Img × Value × List Ent)} (hE : EnvIn W E S G) (h : EnvOwn w base E2 (cutS S)) (hvi : E2.vi = cutI E.vi 4) (hx : Ext W w) : EnvIn w E2 (cutS S) (G.take 4) := by
  refine ⟨⟨h.va.row, fun c hc => hE.va.2.1 c (List.mem_of_mem_take hc), GO.shape h.va⟩, ⟨h.vu.row, fun c hc => hE.vu.2.1 c (List.mem_of_mem_take hc), GO.shape h.vu⟩, ⟨h.vv.row, fun c hc => hE.vv.2.1 c (List.mem_of_mem_take hc), GO.shape h.vv⟩, h.co, h.fr, h.pt, hE.c32, hE.p32, ⟨by rw [hvi]; exact gr_cut hE w hx, ?_⟩⟩
  obtain ⟨ao, cap, e, z, l, m⟩ := hE.gi.2
  refine ⟨ao, cap, ?_, z, ?_, m⟩
  · rw [hvi, e]
    show Value.slice ao (min G.length 4) cap = _
    rw [List.length_take, Nat.min_comm]
  · rw [List.length_take]
    omega
theorem gr_own {W : World} {E E2 : EnvC} {S : Sur} {G : List (Img × Value × List Ent)} (hE : EnvIn W E S G) (hvi : E2.vi = cutI E.vi 4) : ∀ wx, Ext W wx → GR wx E2.vi (G.take 4) := fun wx hx => by rw [hvi]; exact gr_cut hE wx hx
theorem cutI_idem {W : World} {E : EnvC} {S : Sur} {G : List (Img × Value × List Ent)} (hE : EnvIn W E S G) : cutI (cutI E.vi 4) 4 = cutI E.vi 4 := by
  obtain ⟨ao, cap, e, _⟩ := hE.gi.2
  rw [e]
  show Value.slice ao (min (min G.length 4) 4) cap = Value.slice ao (min G.length 4) cap
  rw [show min (min G.length 4) 4 = min G.length 4 by omega]
theorem GO.keepO {α : Type} {enc : α → List Value} {e : TypeId} {size : Nat} {w w' : World} {base : Nat} {v : Value} {L : List α} {row : Option Nat} (h : GO enc e size w base v L) (hg : w.grownBy w' row) (hr : ∀ b, v.ownBlock = some b → row ≠ some b) : GO enc e size w' base v L := by
  refine World.ownsRow.kept h hg ?_
  cases hv : v.ownBlock with
  | none => exact .inl rfl
  | some b => exact .inr (fun e => hr b hv e.symm)
theorem run_zeroH {P : Program} {t : TypeId} {z : Value} (h : (P.info? t).map (·.zero) = some (some z)) (w : World) : (zeroValue t).run P w = .ok z w := by
  cases hi : P.info? t with
  | none => rw [hi] at h; cases h
  | some i =>
    rw [hi] at h
    simp only [Option.map_some, Option.some.injEq] at h
    simp [zeroValue, typeInfo, hi, h]
def setCo4 (E : EnvC) (v : Nat → Int) : EnvC := ⟨E.va, E.vu, E.vv, v, E.fr, E.pt, E.vi⟩
def setFr4 (E : EnvC) (v : Bool) : EnvC := ⟨E.va, E.vu, E.vv, E.co, v, E.pt, E.vi⟩
def setPt4 (E : EnvC) (v : Nat → Int) : EnvC := ⟨E.va, E.vu, E.vv, E.co, E.fr, v, E.vi⟩
end Go.Proofs.YtglfhmlcmffoaaaGreat
