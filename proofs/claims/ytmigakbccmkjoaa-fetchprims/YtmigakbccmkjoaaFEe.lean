/-
  Vertices out of bytes: the walk of gather.
-/
import Derived.Test.YtmigakbccmkjoaaFEd
import Derived.Test.YtmigakbccmkjoaaFEm
import Derived.Test.YtmigakbccmkjoaaOVa
import Derived.Deep.DeepCutAuto
import Derived.Deep.RegionHeld3
namespace Go.Proofs.Ytmigakbccmkjoaa
open Go.RowKit
set_option linter.unusedVariables false
set_option linter.unusedSimpArgs false

theorem Rd.grownV {w w' : World} {rb r : Nat} {sv : Value} {bs : List Int} {p : Nat} {err : Int} (h : Rd w rb sv bs p err) (hg : w.grownBy w' (some r)) (hne : rb ≠ r) (hn : ∀ i n, w.cell? ⟨r, i, none⟩ ≠ some (.int .u8 n)) : Rd w' rb sv bs p err :=
  ⟨by rw [hg.block rb h.lt (by simpa using hne)]; exact h.blk, Row.grown h.row hg hn, h.le, h.len, h.byt⟩
theorem vecF_set (A : Arr) (bs : List Int) (c : Nat) (hc : c < 4) (y : Int) (hy : y = numF A.kind A.nz (rdF A.kind ((bs.drop (c * widI A.kind)).take (widI A.kind)))) :
    (#[.int .i32 (vecF A bs c 0), .int .i32 (vecF A bs c 1), .int .i32 (vecF A bs c 2), .int .i32 (vecF A bs c 3)] : Array Value).setIfInBounds c (.int .i32 y) = #[.int .i32 (vecF A bs (c + 1) 0), .int .i32 (vecF A bs (c + 1) 1), .int .i32 (vecF A bs (c + 1) 2), .int .i32 (vecF A bs (c + 1) 3)] := by
  subst hy
  have key : ∀ j, j ≠ c → vecF A bs (c + 1) j = vecF A bs c j := by
    intro j hj
    unfold vecF
    by_cases h : j < c
    · rw [if_pos h, if_pos (by omega)]
    · rw [if_neg h, if_neg (by omega)]
  have keyc : vecF A bs (c + 1) c = numF A.kind A.nz (rdF A.kind ((bs.drop (c * widI A.kind)).take (widI A.kind))) := by
    unfold vecF
    rw [if_pos (by omega)]
  rcases (by omega : c = 0 ∨ c = 1 ∨ c = 2 ∨ c = 3) with rfl | rfl | rfl | rfl
  · rw [key 1 (by omega), key 2 (by omega), key 3 (by omega), keyc]; rfl
  · rw [key 0 (by omega), key 2 (by omega), key 3 (by omega), keyc]; rfl
  · rw [key 0 (by omega), key 1 (by omega), key 3 (by omega), keyc]; rfl
  · rw [key 0 (by omega), key 1 (by omega), key 2 (by omega), keyc]; rfl
theorem vecF_0 (A : Arr) (bs : List Int) : (#[.int .i32 (vecF A bs 0 0), .int .i32 (vecF A bs 0 1), .int .i32 (vecF A bs 0 2), .int .i32 (vecF A bs 0 3)] : Array Value) = #[.int .i32 0, .int .i32 0, .int .i32 0, .int .i32 65536] := rfl
theorem stretchI_any (v : Value) (xs : List Int) (x y : Int) (w : World) (hr : Row .u8 w v xs) (hB : Byt xs) (hm : xs.length ≤ 140737488355000) (hx : 0 ≤ x ∧ x ≤ 1000000000000) (hy : 0 ≤ y ∧ y ≤ 1000000000000) :
    Calls Try.prog 31 #[v, .int .i64 x, .int .i64 y] w fun e w' => ∃ rb sv, e = .returned (.pointer (some ⟨rb, 0, none⟩)) ∧ w.heap.size ≤ rb ∧ Rd w' rb sv (strF xs x.toNat y.toNat) 0 0 ∧ Ext w w' := by
  obtain ⟨p, rfl⟩ := Int.eq_ofNat_of_zero_le hx.1
  obtain ⟨n, rfl⟩ := Int.eq_ofNat_of_zero_le hy.1
  exact stretch_any v xs p n w hr hB hm (by omega) (by omega)
theorem took_ok {bs : List Int} {c wn : Nat} (h : c * wn + wn ≤ bs.length) : took bs (c * wn) 0 (wn : Int) = ((bs.drop (c * wn)).take wn, (c + 1) * wn, 0) := by
  rw [took_full (by omega) (by omega), Int.toNat_natCast, Nat.succ_mul]
theorem took_no {bs : List Int} {c wn : Nat} (h : ¬ c * wn + wn ≤ bs.length) : took bs (c * wn) 0 (wn : Int) = ([], c * wn, 7) := by
  rw [took_short (by omega) (by omega)]
theorem infoVec4 : (Try.prog.info? 35).map (fun i => (i.zero, i.size, i.bytes)) = some (some (.agg #[.int .i32 0, .int .i32 0, .int .i32 0, .int .i32 0]), 4, 16) := by kernel_rfl
theorem vEnc_one (a : Nat → Int) : ∀ u ∈ vEnc a, u.oneCell' = true := by simp [vEnc, Value.oneCell']

theorem wrapI64 {x : Int} (h0 : -9223372036854775808 ≤ x) (h1 : x ≤ 9223372036854775807) : IntKind.i64.wrap x = x := by
  simp [IntKind.wrap, IntKind.bits, IntKind.signed]
  omega
/-- What lies in memory while vertices are gathered. -/
structure GaI (w W : World) (A : Arr) (f : Nat → Option (Nat → Int)) (k : Nat) (Bn : Nat) (lv : Value) : Prop where
  ext : Ext w W
  arr : Blk W w.heap.size (arC A) 24
  nums : Blk W Bn (nbC A.kind) 64
  own : OV W w.heap.size lv (fstL f k)
  all : ∀ i, i < k → (f i).isSome = true
  lt : w.heap.size < Bn
  own0 : ∀ b, lv.ownBlock = some b → b ≠ w.heap.size ∧ b ≠ Bn

theorem GaI.exts {w W W' : World} {A : Arr} {f : Nat → Option (Nat → Int)} {k Bn : Nat} {lv : Value} (h : GaI w W A f k Bn lv) (hx : Ext W W') : GaI w W' A f k Bn lv :=
  ⟨h.ext.trans hx, h.arr.ext hx, h.nums.ext hx, GO.ext h.own hx, h.all, h.lt, h.own0⟩
theorem GaI.grown {w W W' : World} {A : Arr} {f : Nat → Option (Nat → Int)} {k Bn r : Nat} {lv : Value} (h : GaI w W A f k Bn lv) (hg : W.grownBy W' (some r)) (hr : Bn < r) (ho : ∀ b, lv.ownBlock = some b → b ≠ r) : GaI w W' A f k Bn lv :=
  ⟨below_grown h.ext hg h.ext.size (by have := h.lt; omega), h.arr.grown hg (by have := h.lt; omega), h.nums.grown hg (by omega), GO.keep h.own hg ho, h.all, h.lt, h.own0⟩

set_option maxRecDepth 10000 in
set_option maxHeartbeats 4000000 in
theorem gather_any (v : Value) (xs : List Int) (A : Arr) (first count : Nat) (w : World) (hr : Row .u8 w v xs) (hB : Byt xs) (hm : xs.length ≤ 140737488355000) (hA : arrB A = true) (hf : first ≤ 65535) (hc : count ≤ 65535) :
    Calls Try.prog 23 #[v, .agg (arC A), .int .i64 (first : Int), .int .i64 (count : Int)] w fun e w' => ∃ ao cap L, e = .returned (.slice ao L.length cap) ∧ OV w' w.heap.size (.slice ao L.length cap) L ∧ GatQ (fun i => vtxF xs A (first + i)) count L ∧ Ext w w' := by
  obtain ⟨hkn, hs1, hs4, hst0, hst1, hof0, hof1⟩ := arr_facts hA
  obtain ⟨g, hg, eg, hnx⟩ := nxt_any hkn
  have hw1 := (wid_pos hkn).1
  have hw4 := (wid_pos hkn).2
  have HNX := hide (fun (wx : World) (rb : Nat) (sv : Value) (bs : List Int) (p : Nat) (err : Int) (h : Rd wx rb sv bs p err) => hnx h)
  have HFN := hide (fun n wx => fnumber_any A.kind A.nz n wx hkn)
  have HNM := hide (fun wx => fnum_any A.kind wx)
  have HV := hide (show (nbC A.kind : Array Value) = #[.int .i64 (widI A.kind : Int), .int .i64 (lstI A.kind), .int .i64 (mstI A.kind), .bool (decide (A.kind = 5)), .func (.func g) #[] #[]] by unfold nbC; rw [hg])
  have HR := hide hr
  have HBY := hide hB
  have hvs0 : 0 ≤ vszI A := Int.mul_nonneg (by omega) (by omega)
  have hvs1 : vszI A ≤ 4 * (widI A.kind : Int) := Int.mul_le_mul_of_nonneg_right hs4 (by omega)
  have hvs2 : 1 * (widI A.kind : Int) ≤ vszI A := Int.mul_le_mul_of_nonneg_right hs1 (by omega)
  have hsp : 0 ≤ stpI A ∧ stpI A ≤ 255 := by unfold stpI; split <;> omega
  have HVS := hide (show A.size * (widI A.kind : Int) = vszI A from rfl)
  have HST := hide (fun wx => fstep_any A (vszI A) wx)
  have HSR := hide (fun (x y : Int) (wx : World) (hx : Ext w wx) h1 h2 => stretchI_any v xs x y wx ((unhide HR).ext hx) hB hm h1 h2)
  have HSS := hide (show (if A.stride = 0 then vszI A else A.stride) = stpI A from rfl)
  obtain ⟨f, hfx⟩ : ∃ f, f = fun i => vtxF xs A (first + i) := ⟨_, rfl⟩
  rw [← hfx]
  have HF := hide hfx
  clear hr hB hA hg hnx hfx
  rw [unhide HV] at HNM HFN
  unfold arC
  go_enter Try.func23, Try.ntmps23
  go_wp2_with fail
  go_step3
  go_wp2_with fail
  refine (unhide HNM _).mono ?_
  rintro e w1 ⟨rfl, hx1⟩
  have hBA := (Blk.new w (arC A) 24).ext hx1
  have c0 : ∀ o, (w1.alloc o).cell? ⟨w.heap.size, 0, none⟩ = some (.int .i64 A.size) := fun o => (hBA.alloc o).cell rfl
  have HBA := hide hBA
  have HX1 := hide (((Ext.refl w).alloc (.cells (arC A) 24)).trans hx1)
  have hsz1 := hx1.size
  clear hx1 hBA
  have hm1 : 0 ≤ A.size * (widI A.kind : Int) ∧ A.size * (widI A.kind : Int) ≤ 16 := by rw [unhide HVS]; omega
  go_wp2
  rw [unhide HVS]
  have hN0 : Blk (w1.alloc (.cells #[.int .i64 (widI A.kind : Int), .int .i64 (lstI A.kind), .int .i64 (mstI A.kind), .bool (decide (A.kind = 5)), .func (.func g) #[] #[]] 64)) w1.heap.size (nbC A.kind) 64 := by rw [unhide HV]; exact Blk.new _ _ _
  have hI : GaI w (w1.alloc (.cells #[.int .i64 (widI A.kind : Int), .int .i64 (lstI A.kind), .int .i64 (mstI A.kind), .bool (decide (A.kind = 5)), .func (.func g) #[] #[]] 64)) A f 0 w1.heap.size (.slice none 0 0) :=
    ⟨(unhide HX1).alloc _, (unhide HBA).alloc _, hN0, GO.nil _ _, fun i h => absurd h (Nat.not_lt_zero _), by simp at hsz1; omega, fun b h => by cases h⟩
  obtain ⟨Bn, hBn⟩ : ∃ Bn, Bn = w1.heap.size := ⟨_, rfl⟩
  rw [← hBn] at hI ⊢
  generalize w1.alloc (.cells #[.int .i64 (widI A.kind : Int), .int .i64 (lstI A.kind), .int .i64 (mstI A.kind), .bool (decide (A.kind = 5)), .func (.func g) #[] #[]] 64) = w2 at hI ⊢
  have HI := hide hI
  clear hI hN0 c0 hsz1 hBn HBA HX1 HNM hm1
  go_step3
  go_wp2_with fail
  go_loopw [12, 30] (fun lv iv wr => ∃ (k : Nat) (ao : Option Addr) (cap : Nat), k ≤ count ∧ iv = .int .i64 (k : Int) ∧ lv = .slice ao k cap ∧ GaI w wr A f k Bn lv) (fun _ iv _ => count - (intOf iv).toNat)
  case atStart => exact ⟨0, none, 0, Nat.zero_le _, rfl, rfl, unhide HI⟩
  case round =>
    clear HI
    obtain ⟨k, ao, cap, hk, rfl, rfl, hI⟩ := hrel
    have HI := hide hI
    clear hI
    by_cases hlt : k < count
    · have hlt2 : (k : Int) < (count : Int) := by omega
      have hst2 := hsp
      have hm2 : 0 ≤ ((first : Int) + (k : Int)) * stpI A := Int.mul_nonneg (by omega) hsp.1
      have hm3 : ((first : Int) + (k : Int)) * stpI A ≤ ((first : Int) + (k : Int)) * 255 := Int.mul_le_mul_of_nonneg_left hsp.2 (by omega)
      have hwr0 : IntKind.i64.wrap ((first : Int) + (k : Int)) = (first : Int) + (k : Int) := wrapI64 (by omega) (by omega)
      have hwr1 : IntKind.i64.wrap (((first : Int) + (k : Int)) * stpI A) = ((first : Int) + (k : Int)) * stpI A := wrapI64 (by omega) (by omega)
      have hwr2 : IntKind.i64.wrap (A.off + ((first : Int) + (k : Int)) * stpI A) = A.off + ((first : Int) + (k : Int)) * stpI A := wrapI64 (by omega) (by omega)
      have HCL := hide (fun wx (hx : Ext wr wx) => show wx.cell? ⟨w.heap.size, 0, none⟩ = some (.int .i64 A.size) ∧ wx.cell? ⟨w.heap.size, 1, none⟩ = some (.int .i64 A.kind) ∧ wx.cell? ⟨w.heap.size, 2, none⟩ = some (.bool A.nz) ∧ wx.cell? ⟨w.heap.size, 3, none⟩ = some (.int .i64 A.stride) ∧ wx.cell? ⟨w.heap.size, 4, none⟩ = some (.int .i64 A.off) from ⟨((unhide HI).arr.ext hx).cell rfl, ((unhide HI).arr.ext hx).cell rfl, ((unhide HI).arr.ext hx).cell rfl, ((unhide HI).arr.ext hx).cell rfl, ((unhide HI).arr.ext hx).cell rfl⟩)
      obtain ⟨a0, a1, a2, a3, a4⟩ := unhide HCL wr (Ext.refl _)
      go_upto_region 7 with fail
      go_cut [14] (fun p wc => ∃ rb sv, p = .pointer (some ⟨rb, 0, none⟩) ∧ wr.heap.size ≤ rb ∧ Rd wc rb sv (strF xs (A.off + ((first : Int) + (k : Int)) * stpI A).toNat (vszI A).toNat) 0 0 ∧ Ext wr wc)
      case first =>
        go_region_held3 (fun wx => wx.cell? ⟨w.heap.size, 0, none⟩ = some (.int .i64 A.size) ∧ wx.cell? ⟨w.heap.size, 1, none⟩ = some (.int .i64 A.kind) ∧ wx.cell? ⟨w.heap.size, 2, none⟩ = some (.bool A.nz) ∧ wx.cell? ⟨w.heap.size, 3, none⟩ = some (.int .i64 A.stride) ∧ wx.cell? ⟨w.heap.size, 4, none⟩ = some (.int .i64 A.off))
          (first | with_reducible exact unhide HCL _ ((Ext.refl _).drew) | with_reducible exact unhide HCL _ bx6 | with_reducible exact unhide HCL _ bx)
          (first
            | (go_at_call 32; refine (unhide HST _).mono ?_; rintro e w5 ⟨rfl, hx5⟩; rw [unhide HSS]; have bx := ((Ext.refl wr).drew).trans hx5; clear hx5)
            | (go_at_call 31; refine (unhide HSR _ _ _ ?hp ?hq1 ?hq2).mono ?_; (case hp => exact (unhide HI).ext.trans bx); (case hq1 => omega); (case hq2 => omega); rintro e w6 ⟨rb, sv, rfl, hrb, hrd, hx6⟩; have bx6 := bx.trans hx6; have HRD := hide hrd; have hszb := bx.size; clear hx6 hrd))
        all_goals go_wp2
        all_goals go_meet
        all_goals exact ⟨rb, sv, rfl, by omega, unhide HRD, bx6⟩
      case rest =>
      obtain ⟨rb, sv, rfl, hrb, hrd, hx3⟩ := hcut
      rename_i wc
      have hfk : f k = if (A.off + ((first : Int) + (k : Int)) * stpI A).toNat + (vszI A).toNat ≤ xs.length then some (vecF A (strF xs (A.off + ((first : Int) + (k : Int)) * stpI A).toNat (vszI A).toNat) A.size.toNat) else none := by
        rw [unhide HF]
        show vtxF xs A (first + k) = _
        unfold vtxF vatI
        rw [Int.natCast_add]
      obtain ⟨p, hp⟩ : ∃ p, p = (A.off + ((first : Int) + (k : Int)) * stpI A).toNat := ⟨_, rfl⟩
      rw [← hp] at hfk hrd
      have hbl : (strF xs p (vszI A).toNat).length = min (vszI A).toNat (xs.length - p) := strF_len _ _ _
      obtain ⟨bs, hbs⟩ : ∃ bs, bs = strF xs p (vszI A).toNat := ⟨_, rfl⟩
      rw [← hbs] at hfk hrd hbl
      obtain ⟨sn, hsn⟩ : ∃ sn : Nat, A.size = (sn : Int) := ⟨A.size.toNat, by omega⟩
      have hvn : (vszI A).toNat = sn * widI A.kind := by rw [← unhide HVS, hsn]; exact Int.toNat_natCast (sn * widI A.kind)
      rw [show A.size.toNat = sn by omega] at hfk
      have HY := hide (show sn * widI A.kind ≤ bs.length → f k = some (vecF A bs sn) from fun h => by rw [hfk, if_pos (by rw [← hvn, hbl] at h; omega)])
      have HNO := hide (show ∀ c, c < sn → ¬ c * widI A.kind + widI A.kind ≤ bs.length → f k = none from fun c hc h => by
        rw [hfk, if_neg]
        intro h2
        have h3 : c * widI A.kind + widI A.kind ≤ sn * widI A.kind := by rw [← Nat.succ_mul]; exact Nat.mul_le_mul_right _ hc
        omega)
      have hsn4 : sn ≤ 4 := by omega
      have HI3 := hide ((unhide HI).exts hx3)
      have HOW := hide (show ∀ b, (Value.slice ao k cap).ownBlock = some b → b < wr.heap.size from fun b hb => ((unhide HI).own.lt b hb).2)
      have HRD := hide hrd
      have hrl := hrd.lt
      have hBr : Bn < wr.heap.size := (unhide HI).nums.lt
      have hwc := hx3.size
      have HWX := hide hx3
      have HSN := hide hsn
      clear hfk hp hbl hbs hvn hsn hrd hx3 hm2 hm3 hwr0 hwr1 hwr2 a0 a1 a2 a3 a4 HCL HI hst2
      have b0 : ∀ o, (wc.alloc o).cell? ⟨w.heap.size, 0, none⟩ = some (.int .i64 A.size) := fun o => ((unhide HI3).arr.alloc o).cell rfl
      have hV0 : Blk (wc.alloc (.cells #[.int .i32 0, .int .i32 0, .int .i32 0, .int .i32 65536] 35)) wc.heap.size #[.int .i32 (vecF A bs 0 0), .int .i32 (vecF A bs 0 1), .int .i32 (vecF A bs 0 2), .int .i32 (vecF A bs 0 3)] 35 := by rw [vecF_0]; exact Blk.new _ _ _
      have H4 := hide (And.intro hV0 (And.intro ((unhide HI3).exts ((Ext.refl wc).alloc (.cells #[.int .i32 0, .int .i32 0, .int .i32 0, .int .i32 65536] 35))) ((unhide HRD).below ((Ext.refl wc).alloc (.cells #[.int .i32 0, .int .i32 0, .int .i32 0, .int .i32 65536] 35)))))
      clear hV0 HI3 HRD
      go_wp2_with fail
      clear b0
      go_loopw [49] (fun iv wx => ∃ c : Nat, c ≤ sn ∧ iv = .int .i64 (c : Int) ∧ Blk wx wc.heap.size #[.int .i32 (vecF A bs c 0), .int .i32 (vecF A bs c 1), .int .i32 (vecF A bs c 2), .int .i32 (vecF A bs c 3)] 35 ∧ GaI w wx A f k Bn (.slice ao k cap) ∧ Rd wx rb sv bs (c * widI A.kind) 0) (fun iv _ => sn - (intOf iv).toNat)
      case atStart => exact ⟨0, Nat.zero_le _, rfl, (unhide H4).1, (unhide H4).2.1, by simpa using (unhide H4).2.2⟩
      case round =>
        clear H4
        obtain ⟨c, hcs, rfl, hvb, hI, hrd⟩ := hrel
        have D := hide (And.intro hvb (And.intro hI hrd))
        have hrle := hrd.le
        clear hvb hI hrd
        by_cases hct : c < sn
        · have hct2 : (c : Int) < A.size := by rw [unhide HSN]; omega
          have hc4 : (c : Int) < 4 := by omega
          have n4 : wr.cell? ⟨Bn, 4, none⟩ = some (.func (.func g) #[] #[]) := (unhide D).2.1.nums.cell (by rw [unhide HV]; rfl)
          by_cases hsh : c * widI A.kind + widI A.kind ≤ bs.length
          · have HN := hide (show Calls Try.prog g #[.pointer (some ⟨rb, 0, none⟩)] wr fun e w' => e = .returned (.int .i64 (rdF A.kind ((bs.drop (c * widI A.kind)).take (widI A.kind)))) ∧ Rd w' rb sv bs ((c + 1) * widI A.kind) 0 ∧ wr.grownBy w' (some rb) from by
              have h := unhide HNX wr rb sv bs _ _ (unhide D).2.2
              unfold NxtQ at h
              rw [took_ok hsh] at h
              exact h)
            have HSET := hide (vecF_set A bs c (by omega) _ rfl)
            generalize rdF A.kind ((bs.drop (c * widI A.kind)).take (widI A.kind)) = n at HN HSET ⊢
            go_wp2_with (first
              | (go_at_fn g; refine (unhide HN).mono ?_; rintro e w5 ⟨rfl, hrd5, hg5⟩; have D5 := hide (And.intro ((unhide D).1.grown hg5 (by omega)) (And.intro ((unhide D).2.1.grown hg5 (by omega) (fun b hb => by have := unhide HOW b hb; omega)) hrd5)); have m0 : w5.cell? ⟨Bn, 0, none⟩ = some (.int .i64 (widI A.kind : Int)) := (unhide D5).2.1.nums.cell (by rw [unhide HV]; rfl); have m1 : w5.cell? ⟨Bn, 1, none⟩ = some (.int .i64 (lstI A.kind)) := (unhide D5).2.1.nums.cell (by rw [unhide HV]; rfl); have m2 : w5.cell? ⟨Bn, 2, none⟩ = some (.int .i64 (mstI A.kind)) := (unhide D5).2.1.nums.cell (by rw [unhide HV]; rfl); have m3 : w5.cell? ⟨Bn, 3, none⟩ = some (.bool (decide (A.kind = 5))) := (unhide D5).2.1.nums.cell (by rw [unhide HV]; rfl); have m4 : w5.cell? ⟨Bn, 4, none⟩ = some (.func (.func g) #[] #[]) := (unhide D5).2.1.nums.cell (by rw [unhide HV]; rfl); have a2 : w5.cell? ⟨w.heap.size, 2, none⟩ = some (.bool A.nz) := (unhide D5).2.1.arr.cell rfl; clear D hg5 hrd5 n4 HN)
              | (go_at_call 33; refine (err_any (unhide D5).2.2).mono ?_; rintro e w' ⟨rfl, hw'⟩; obtain rfl := hw'.symm)
              | (go_at_call 26; refine (unhide HFN n _).mono ?_; rintro e w6 ⟨rfl, hx6⟩; have D6 := hide (And.intro ((unhide D5).1.ext hx6) (And.intro ((unhide D5).2.1.exts hx6) ((unhide D5).2.2.below hx6))); have v6 := (unhide D6).1.vec c (by omega); have f6 := (unhide D6).1.free c; clear hx6))
            go_roundw
            case rel =>
              refine ⟨c + 1, by omega, by push_cast; rfl, ?_, ?_, ?_⟩
              · have h := (unhide D6).1.set c (.int .i32 (numF A.kind A.nz n))
                rw [unhide HSET] at h
                exact h
              · exact (unhide D6).2.1.grown (grownBy_set _ _ _ _) (by omega) (fun b hb => by have := unhide HOW b hb; omega)
              · exact (unhide D6).2.2.grownV (grownBy_set _ _ _ _) (by omega) ((unhide D6).1.no (by simp))
            case measure => simp [intOf]; omega
          · have HN := hide (show Calls Try.prog g #[.pointer (some ⟨rb, 0, none⟩)] wr fun e w' => (∃ n, e = .returned (.int .i64 n)) ∧ Rd w' rb sv bs (c * widI A.kind) 7 ∧ wr.grownBy w' (some rb) from by
              have h := unhide HNX wr rb sv bs _ _ (unhide D).2.2
              unfold NxtQ at h
              rw [took_no hsh] at h
              exact h.mono (fun e w' h => ⟨⟨_, h.1⟩, h.2⟩))
            have HF2 := hide (unhide HNO c hct hsh)
            go_wp2_with (first
              | (go_at_fn g; refine (unhide HN).mono ?_; rintro e w5 ⟨⟨n, rfl⟩, hrd5, hg5⟩; have D5 := hide (And.intro ((unhide D).1.grown hg5 (by omega)) (And.intro ((unhide D).2.1.grown hg5 (by omega) (fun b hb => by have := unhide HOW b hb; omega)) hrd5)); clear D hg5 hrd5 n4 HN)
              | (go_at_call 33; refine (err_any (unhide D5).2.2).mono ?_; rintro e w' ⟨rfl, hw'⟩; obtain rfl := hw'.symm))
            rw [Exit.noGoto_ret]
            go_ret
            exact ⟨ao, cap, fstL f k, by rw [fstL_len]; rfl, by rw [fstL_len]; exact (unhide D5).2.1.own, ⟨k, by omega, rfl, (unhide D5).2.1.all, fun _ => unhide HF2⟩, (unhide D5).2.1.ext⟩
        · have hct2 : ¬ (c : Int) < A.size := by rw [unhide HSN]; omega
          obtain rfl : c = sn := by omega
          have HF2 := hide (unhide HY hrle)
          obtain ⟨v0, v1, v2, v3⟩ := (unhide D).1.vec4
          have hE5 : Blk (wr.alloc (.cells #[.int .i32 (vecF A bs c 0), .int .i32 (vecF A bs c 1), .int .i32 (vecF A bs c 2), .int .i32 (vecF A bs c 3)] 35)) wr.heap.size (vEnc (vecF A bs c)).toArray 35 := Blk.new _ _ _
          have H5 := hide (And.intro hE5 ((unhide D).2.1.exts ((Ext.refl wr).alloc (.cells #[.int .i32 (vecF A bs c 0), .int .i32 (vecF A bs c 1), .int .i32 (vecF A bs c 2), .int .i32 (vecF A bs c 3)] 35))))
          clear D hE5
          go_wp2_with (at_builtin; refine wpList_append_G (enc := vEnc) infoVec4 Try.underlying29 rfl (by decide) (by decide) rfl (.tmp 67) (.tmp 69) rfl w.heap.size _ (fstL f k) (vecF A bs c) rfl (unhide H5).2.own _ 1 rfl _ (unhide H5).1 rfl (vEnc_one _) (by rw [fstL_len]; omega) (unhide H5).2.ext.size ?_)
          intro ao2 cap2 N w6 hN hG6 hgr6 hloc
          rw [show fstL f k ++ [vecF A bs c] = fstL f (k + 1) by rw [fstL_succ, unhide HF2]; rfl] at hN
          subst hN
          rw [fstL_len] at hG6 hloc ⊢
          have hwx := (unhide H5).2.ext.size
          have hbx := (unhide H5).2.nums.lt
          have hI6 : GaI w w6 A f (k + 1) Bn (.slice ao2 (k + 1) cap2) :=
            ⟨(unhide H5).2.ext.grown hgr6 hwx (fun q hq => ((unhide H5).2.own.lt q hq).1), (unhide H5).2.arr.grownO hgr6 (fun r hr => fun e => ((unhide H5).2.own0 r hr).1 e.symm), (unhide H5).2.nums.grownO hgr6 (fun r hr => fun e => ((unhide H5).2.own0 r hr).2 e.symm), hG6,
              fun i hi => (by
                by_cases e : i = k
                · rw [e, unhide HF2]; rfl
                · exact (unhide H5).2.all i (by omega)), (unhide H5).2.lt, fun b hb => (by
                rcases hloc b hb with h | h
                · exact (unhide H5).2.own0 b h
                · have := (unhide H5).2.lt
                  have hsz : (wr.alloc (.cells #[.int .i32 (vecF A bs c 0), .int .i32 (vecF A bs c 1), .int .i32 (vecF A bs c 2), .int .i32 (vecF A bs c 3)] 35)).heap.size = wr.heap.size + 1 := by simp
                  rw [hsz] at hbx
                  have h' : wr.heap.size + 1 ≤ b := by simpa using h
                  constructor <;> omega)⟩
          have HI6 := hide hI6
          clear hI6 hG6 hgr6 hloc H5
          go_wp2
          go_roundw
          case rel => exact ⟨k + 1, ao2, cap2, by omega, by push_cast; rfl, rfl, unhide HI6⟩
          case measure => simp [intOf]; omega
    · have hlt2 : ¬ (k : Int) < (count : Int) := by omega
      obtain rfl : k = count := by omega
      go_wp2
      go_ret
      exact ⟨ao, cap, fstL f k, by rw [fstL_len]; rfl, by rw [fstL_len]; exact (unhide HI).own, ⟨k, Nat.le_refl _, rfl, (unhide HI).all, fun h => absurd h (Nat.lt_irrefl _)⟩, (unhide HI).ext⟩
end Go.Proofs.Ytmigakbccmkjoaa
