/-
  Vertices out of bytes: the document's Vertex.
-/
import Derived.Test.YtmigakbccmkjoaaFEj
import Derived.Test.YtmigakbccmkjoaaFEf
import Derived.Deep.RegionHeld3
import Derived.Deep.DeepCutAuto
namespace Go.Proofs.Ytmigakbccmkjoaa
open Go.RowKit
set_option linter.unusedVariables false
set_option linter.unusedSimpArgs false

theorem rd_in {k : Int} (hk : knwB k = true) (l : List Int) (hB : Byt l) (hl : l.length = widI k) : lstI k ≤ rdF k l ∧ rdF k l ≤ mstI k := by
  have h := numOf_le l hB (widI k) (by omega)
  rcases knw_cases hk with rfl | rfl | rfl | rfl | rfl
  · have h2 : 0 ≤ numOf l ∧ numOf l < 256 := h
    show -128 ≤ sgn 128 (numOf l) ∧ sgn 128 (numOf l) ≤ 127
    unfold sgn; split <;> omega
  · have h2 : 0 ≤ numOf l ∧ numOf l < 256 := h
    show 0 ≤ numOf l ∧ numOf l ≤ 255
    omega
  · have h2 : 0 ≤ numOf l ∧ numOf l < 65536 := h
    show -32768 ≤ sgn 32768 (numOf l) ∧ sgn 32768 (numOf l) ≤ 32767
    unfold sgn; split <;> omega
  · have h2 : 0 ≤ numOf l ∧ numOf l < 65536 := h
    show 0 ≤ numOf l ∧ numOf l ≤ 65535
    omega
  · have h2 : 0 ≤ numOf l ∧ numOf l < 4294967296 := h
    show -2147483648 ≤ sgn 2147483648 (numOf l) ∧ sgn 2147483648 (numOf l) ≤ 2147483647
    unfold sgn; split <;> omega

theorem cut_cut (xs : List Int) (p n q m : Nat) (h : q + m ≤ n) : (((xs.drop p).take n).drop q).take m = (xs.drop (p + q)).take m := by
  rw [List.drop_take, List.drop_drop, List.take_take, Nat.min_eq_left (by omega)]

set_option maxRecDepth 10000 in
set_option maxHeartbeats 4000000 in
theorem rvertex_any (v : Value) (xs : List Int) (A : Arr) (i : Nat) (w : World) (hr : Row .u8 w v xs) (hB : Byt xs) (hm : xs.length ≤ 140737488355000) (hA : arrB A = true) (hi : i ≤ 1000000) :
    Calls Try.prog 16 #[v, .agg (arC A), .int .i64 (i : Int)] w fun e w' => e = .returned (.tuple #[.agg #[.int .i32 ((vtxF xs A i).getD nul 0), .int .i32 ((vtxF xs A i).getD nul 1), .int .i32 ((vtxF xs A i).getD nul 2), .int .i32 ((vtxF xs A i).getD nul 3)], .bool (vtxF xs A i).isSome]) ∧ Ext w w' := by
  obtain ⟨hkn, hs1, hs4, hst0, hst1, hof0, hof1⟩ := arr_facts hA
  obtain ⟨hw1, hw4⟩ := wid_pos hkn
  have HW := hide (fun wx => rwidth_any A.kind wx)
  have hvs0 : 0 ≤ vszI A := Int.mul_nonneg (by omega) (by omega)
  have hvs1 : vszI A ≤ 4 * (widI A.kind : Int) := Int.mul_le_mul_of_nonneg_right hs4 (by omega)
  have hvs2 : 1 * (widI A.kind : Int) ≤ vszI A := Int.mul_le_mul_of_nonneg_right hs1 (by omega)
  have HVS := hide (show A.size * (widI A.kind : Int) = vszI A from rfl)
  have hsp : 0 ≤ stpI A ∧ stpI A ≤ 255 := by unfold stpI; split <;> omega
  have hm2 : 0 ≤ (i : Int) * stpI A := Int.mul_nonneg (by omega) hsp.1
  have hm3 : (i : Int) * stpI A ≤ (i : Int) * 255 := Int.mul_le_mul_of_nonneg_left hsp.2 (by omega)
  have HF := hide (show vtxF xs A i = if (A.off + (i : Int) * stpI A).toNat + (vszI A).toNat ≤ xs.length then some (vecF A (strF xs (A.off + (i : Int) * stpI A).toNat (vszI A).toNat) A.size.toNat) else none from rfl)
  have HP0 := hide (show ∀ h : A.stride = 0, stpI A = vszI A from fun h => by unfold stpI; rw [if_pos h])
  have HP1 := hide (show ∀ h : A.stride ≠ 0, stpI A = A.stride from fun h => by unfold stpI; rw [if_neg h])
  obtain ⟨ao, cap, rfl, hao, hlc, hcm⟩ := hr.shape
  have HR := hide hr
  have hA1 : Blk ((w.alloc (.cells (arC A) 24)).alloc (.cells #[.int .i32 0, .int .i32 0, .int .i32 0, .int .i32 0] 35)) w.heap.size (arC A) 24 := (Blk.new _ _ _).alloc _
  have hV1 : Blk ((w.alloc (.cells (arC A) 24)).alloc (.cells #[.int .i32 0, .int .i32 0, .int .i32 0, .int .i32 0] 35)) (w.heap.size + 1) #[.int .i32 (nul 0), .int .i32 (nul 1), .int .i32 (nul 2), .int .i32 (nul 3)] 35 := by
    have := Blk.new (w.alloc (.cells (arC A) 24)) #[.int .i32 0, .int .i32 0, .int .i32 0, .int .i32 0] 35
    rwa [show (w.alloc (.cells (arC A) 24)).heap.size = w.heap.size + 1 by simp] at this
  have hX1 := (Ext.refl w).alloc (.cells (arC A) 24) |>.alloc (.cells #[.int .i32 0, .int .i32 0, .int .i32 0, .int .i32 0] 35)
  have H1 := hide (And.intro hA1 (And.intro hV1 hX1))
  clear hr hao hA1 hV1 hX1 hA
  unfold maxLen at hcm
  have hmw : 0 ≤ A.size * (widI A.kind : Int) ∧ A.size * (widI A.kind : Int) ≤ 16 := by rw [unhide HVS]; omega
  unfold arC
  go_enter Try.func16, Try.ntmps16
  go_upto_if 19 with (go_at_call 20; refine (unhide HW _).mono ?_; rintro e w1 ⟨rfl, hw⟩; obtain rfl := hw.symm)
  obtain ⟨W0, hW0⟩ : ∃ W0, ((w.alloc (.cells (arC A) 24)).alloc (.cells #[.int .i32 0, .int .i32 0, .int .i32 0, .int .i32 0] 35)) = W0 := ⟨_, rfl⟩
  rw [hW0] at H1
  have hW1 : ((w.alloc (.cells #[.int .i64 A.size, .int .i64 A.kind, .bool A.nz, .int .i64 A.stride, .int .i64 A.off] 24)).alloc (.cells #[.int .i32 0, .int .i32 0, .int .i32 0, .int .i32 0] 35)) = W0 := hW0
  rw [hW1]
  clear hW0 hW1
  have HCL := hide (fun (wx : World) (hb : Blk wx w.heap.size (arC A) 24) => show wx.cell? ⟨w.heap.size, 0, none⟩ = some (.int .i64 A.size) ∧ wx.cell? ⟨w.heap.size, 1, none⟩ = some (.int .i64 A.kind) ∧ wx.cell? ⟨w.heap.size, 2, none⟩ = some (.bool A.nz) ∧ wx.cell? ⟨w.heap.size, 3, none⟩ = some (.int .i64 A.stride) ∧ wx.cell? ⟨w.heap.size, 4, none⟩ = some (.int .i64 A.off) from ⟨hb.cell rfl, hb.cell rfl, hb.cell rfl, hb.cell rfl, hb.cell rfl⟩)
  obtain ⟨a0, a1, a2, a3, a4⟩ := unhide HCL W0 (unhide H1).1
  go_cut [9] from 20 to 23 (fun s wc => s = .int .i64 (stpI A) ∧ wc = W0)
  case first =>
    by_cases hs0 : A.stride = 0
    · have d0 : (A.stride == 0) = true := by simpa using hs0
      have E := hide (unhide HP0 hs0)
      clear hs0
      go_wp2
      go_meet
      exact ⟨by rw [unhide E, unhide HVS], rfl⟩
    · have d0 : (A.stride == 0) = false := by simpa using hs0
      have E := hide (unhide HP1 hs0)
      clear hs0
      go_wp2
      go_meet
      exact ⟨by rw [unhide E], rfl⟩
  case rest =>
  obtain ⟨rfl, hwc⟩ := hcut
  obtain rfl := hwc.symm
  clear HP0 HP1 HCL
  obtain ⟨pn, hpn⟩ : ∃ pn : Nat, A.off + (i : Int) * stpI A = (pn : Int) := ⟨(A.off + (i : Int) * stpI A).toNat, by omega⟩
  obtain ⟨sn, hsn⟩ : ∃ sn : Nat, A.size = (sn : Int) := ⟨A.size.toNat, by omega⟩
  have hsn4 : sn ≤ 4 := by omega
  have hvn : (vszI A).toNat = sn * widI A.kind := by rw [← unhide HVS, hsn]; exact Int.toNat_natCast (sn * widI A.kind)
  have hpb : pn ≤ 1000000000 := by omega
  rw [hpn, Int.toNat_natCast, hvn, show A.size.toNat = sn by omega] at HF
  have hmw2 : A.size * (widI A.kind : Int) = ((sn * widI A.kind : Nat) : Int) := by rw [hsn]; rfl
  have HSN := hide hsn
  have HPN := hide hpn
  by_cases hfit : pn + sn * widI A.kind ≤ xs.length
  · have E := hide (show vtxF xs A i = some (vecF A (strF xs pn (sn * widI A.kind)) sn) by rw [unhide HF, if_pos hfit])
    have hf2 : ¬ (xs.length : Int) < (pn : Int) + ((sn * widI A.kind : Nat) : Int) := by omega
    have hf3 : ¬ (xs.length : Int) < A.off + (i : Int) * stpI A + A.size * (widI A.kind : Int) := by rw [hpn, hmw2]; exact hf2
    obtain ⟨bs, hbs⟩ : ∃ bs, bs = strF xs pn (sn * widI A.kind) := ⟨_, rfl⟩
    have HBS := hide hbs
    rw [← hbs] at E
    have hO : Blk (W0.alloc (.cells #[.int .i32 0, .int .i32 0, .int .i32 0, .int .i32 65536] 35)) W0.heap.size #[.int .i32 (vecF A bs 0 0), .int .i32 (vecF A bs 0 1), .int .i32 (vecF A bs 0 2), .int .i32 (vecF A bs 0 3)] 35 := by rw [vecF_0]; exact Blk.new _ _ _
    have H2 := hide (And.intro hO (And.intro ((unhide H1).1.alloc (.cells #[.int .i32 0, .int .i32 0, .int .i32 0, .int .i32 65536] 35)) (And.intro ((unhide H1).2.1.alloc (.cells #[.int .i32 0, .int .i32 0, .int .i32 0, .int .i32 65536] 35)) ((unhide H1).2.2.alloc (.cells #[.int .i32 0, .int .i32 0, .int .i32 0, .int .i32 65536] 35)))))
    have hs1' := (unhide H1).2.1.lt
    have b0 : ∀ o, (W0.alloc o).cell? ⟨w.heap.size, 0, none⟩ = some (.int .i64 A.size) := fun o => ((unhide H1).1.alloc o).cell rfl
    clear hO hbs hf2 H1 hpn hmw2 hsn
    go_wp2_with fail
    clear b0 a0 a1 a2 a3 a4 hf3
    rw [unhide HPN]
    go_loopw [43] (fun iv wx => ∃ c : Nat, c ≤ sn ∧ iv = .int .i64 (c : Int) ∧ Blk wx W0.heap.size #[.int .i32 (vecF A bs c 0), .int .i32 (vecF A bs c 1), .int .i32 (vecF A bs c 2), .int .i32 (vecF A bs c 3)] 35 ∧ Blk wx w.heap.size (arC A) 24 ∧ Blk wx (w.heap.size + 1) #[.int .i32 (nul 0), .int .i32 (nul 1), .int .i32 (nul 2), .int .i32 (nul 3)] 35 ∧ Ext w wx) (fun iv _ => sn - (intOf iv).toNat)
    case atStart => exact ⟨0, Nat.zero_le _, rfl, (unhide H2).1, (unhide H2).2.1, (unhide H2).2.2.1, (unhide H2).2.2.2⟩
    case round =>
      clear H2
      obtain ⟨c, hcs, rfl, hvb, hab, hrb, hX⟩ := hrel
      have D := hide (And.intro hvb (And.intro hab (And.intro hrb hX)))
      clear hvb hab hrb hX
      by_cases hct : c < sn
      · have hct2 : (c : Int) < A.size := by rw [unhide HSN]; omega
        have hc4 : (c : Int) < 4 := by omega
        have hcw : c * widI A.kind + widI A.kind ≤ sn * widI A.kind := by rw [← Nat.succ_mul]; exact Nat.mul_le_mul_right _ hct
        have hcw3 : c * widI A.kind ≤ 3 * widI A.kind := Nat.mul_le_mul_right _ (by omega)
        have hcwI : (c : Int) * (widI A.kind : Int) = ((c * widI A.kind : Nat) : Int) := rfl
        have hwr1 : IntKind.i64.wrap ((c : Int) * (widI A.kind : Int)) = (c : Int) * (widI A.kind : Int) := wrapI64 (by omega) (by omega)
        have hwr2 : IntKind.i64.wrap ((pn : Int) + (c : Int) * (widI A.kind : Int)) = (pn : Int) + (c : Int) * (widI A.kind : Int) := wrapI64 (by omega) (by omega)
        have hn : rdF A.kind ((xs.drop (pn + c * widI A.kind)).take (widI A.kind)) = rdF A.kind ((bs.drop (c * widI A.kind)).take (widI A.kind)) := by
          rw [unhide HBS]
          unfold strF
          rw [cut_cut _ _ _ _ _ hcw]
        have hlen : ((xs.drop (pn + c * widI A.kind)).take (widI A.kind)).length = widI A.kind := by simp; omega
        have hin := rd_in hkn _ (hB.cut (pn + c * widI A.kind) (widI A.kind)) hlen
        have HRD := hide (fun (wx : World) (hx : Ext w wx) => rread_any _ xs A.kind (pn + c * widI A.kind) wx ((unhide HR).ext hx) hB hkn (by omega) hm)
        rw [Int.natCast_add, Int.natCast_mul] at HRD
        have HSET := hide (vecF_set A bs c (by omega) (numF A.kind A.nz (rdF A.kind ((xs.drop (pn + c * widI A.kind)).take (widI A.kind)))) (by rw [hn]))
        generalize rdF A.kind ((xs.drop (pn + c * widI A.kind)).take (widI A.kind)) = n at *
        have e1 : nuE A.kind n = 0 := by unfold nuE; rw [if_pos ⟨hkn, hin⟩]
        have HNU := hide (fun wx => rnumber_any A.kind A.nz n wx)
        rw [show nuF A.kind A.nz n = numF A.kind A.nz n by unfold nuF; rw [if_pos e1], e1] at HNU
        generalize numF A.kind A.nz n = y at *
        have HCL := hide (fun wx (hx : Ext wr wx) => show wx.cell? ⟨w.heap.size, 0, none⟩ = some (.int .i64 A.size) ∧ wx.cell? ⟨w.heap.size, 1, none⟩ = some (.int .i64 A.kind) ∧ wx.cell? ⟨w.heap.size, 2, none⟩ = some (.bool A.nz) from ⟨((unhide D).2.1.ext hx).cell rfl, ((unhide D).2.1.ext hx).cell rfl, ((unhide D).2.1.ext hx).cell rfl⟩)
        obtain ⟨a0, a1, a2⟩ := unhide HCL wr (Ext.refl _)
        clear hn hlen hin e1 hcwI
        have HCS := hide (fun wx (hx : Ext wr wx) (u : Value) => show (wx.setCell ⟨W0.heap.size, c, none⟩ u).cell? ⟨w.heap.size, 0, none⟩ = some (.int .i64 A.size) ∧ (wx.setCell ⟨W0.heap.size, c, none⟩ u).cell? ⟨w.heap.size, 1, none⟩ = some (.int .i64 A.kind) ∧ (wx.setCell ⟨W0.heap.size, c, none⟩ u).cell? ⟨w.heap.size, 2, none⟩ = some (.bool A.nz) from
          ⟨(((unhide D).2.1.ext hx).other c u (by omega)).cell rfl, (((unhide D).2.1.ext hx).other c u (by omega)).cell rfl, (((unhide D).2.1.ext hx).other c u (by omega)).cell rfl⟩)
        have c1 := (unhide D).1.vec c (by omega)
        have f1 := (unhide D).1.free c
        go_upto_region 12 with fail
        go_region_held3 (fun wx => wx.cell? ⟨w.heap.size, 0, none⟩ = some (.int .i64 A.size) ∧ wx.cell? ⟨w.heap.size, 1, none⟩ = some (.int .i64 A.kind) ∧ wx.cell? ⟨w.heap.size, 2, none⟩ = some (.bool A.nz))
          (first | with_reducible exact unhide HCL _ ((Ext.refl _).drew) | with_reducible exact unhide HCL _ bx | with_reducible exact unhide HCS _ bx _)
          (first
            | (go_at_call 25; refine (unhide HRD _ ?hp).mono ?_; (case hp => exact (unhide D).2.2.2.drew); rintro e w5 ⟨rfl, hx5⟩; have bx := ((Ext.refl wr).drew).trans hx5; have D5 := hide (And.intro ((unhide D).1.ext bx) (And.intro ((unhide D).2.1.ext bx) (And.intro ((unhide D).2.2.1.ext bx) ((unhide D).2.2.2.trans bx)))); have g1 := (unhide D5).1.vec c (by omega); have f5 := (unhide D5).1.free c; clear hx5)
            | (go_at_call 18; refine (unhide HNU _).mono ?_; rintro e w6 ⟨rfl, hw6⟩; obtain rfl := hw6.symm))
        go_wp2
        go_roundw
        case rel =>
          refine ⟨c + 1, by omega, by push_cast; rfl, ?_, (unhide D5).2.1.other _ _ (by omega), (unhide D5).2.2.1.other _ _ (by omega), ext_set (unhide D5).2.2.2 (by omega)⟩
          have h := (unhide D5).1.set c (.int .i32 y)
          rw [unhide HSET] at h
          exact h
        case measure => simp [intOf]; omega
      · have hct2 : ¬ (c : Int) < A.size := by rw [unhide HSN]; omega
        obtain rfl : c = sn := by omega
        obtain ⟨q0, q1, q2, q3⟩ := (unhide D).1.vec4
        obtain ⟨v0, v1, v2, v3⟩ := (unhide D).2.2.1.vec4
        have f0 := (unhide D).2.2.1.free 0
        have f1 := (unhide D).2.2.1.free 1
        have f2 := (unhide D).2.2.1.free 2
        have f3 := (unhide D).2.2.1.free 3
        generalize vecF A bs c = y at *
        go_wp2
        have HB4 := hide (And.intro ((unhide D).2.2.1.set4 (.int .i32 (y 0)) (.int .i32 (y 1)) (.int .i32 (y 2)) (.int .i32 (y 3))) (ext_setV (x0 := .int .i32 (y 0)) (x1 := .int .i32 (y 1)) (x2 := .int .i32 (y 2)) (x3 := .int .i32 (y 3)) (unhide D).2.2.2 (show w.heap.size ≤ w.heap.size + 1 by omega)))
        obtain ⟨r0, r1, r2, r3⟩ := Blk.vec4 (a := y) (unhide HB4).1
        refine bodyPost_ret (v := .tuple #[.agg #[.int .i32 (y 0), .int .i32 (y 1), .int .i32 (y 2), .int .i32 (y 3)], .bool true]) (by simp [results, Try.results16, go_sem, r0, r1, r2, r3]) rfl ⟨by rw [unhide E]; rfl, (unhide HB4).2⟩
  · have E := hide (show vtxF xs A i = none by rw [unhide HF, if_neg hfit])
    have hf3 : (xs.length : Int) < A.off + (i : Int) * stpI A + A.size * (widI A.kind : Int) := by rw [hpn, hmw2]; omega
    obtain ⟨v0, v1, v2, v3⟩ := (unhide H1).2.1.vec4
    have f0 := (unhide H1).2.1.free 0
    have f1 := (unhide H1).2.1.free 1
    have f2 := (unhide H1).2.1.free 2
    have f3 := (unhide H1).2.1.free 3
    clear hpn hmw2 hsn
    go_wp2
    have HB4 := hide (And.intro ((unhide H1).2.1.set4 (.int .i32 0) (.int .i32 0) (.int .i32 0) (.int .i32 0)) (ext_setV (x0 := .int .i32 0) (x1 := .int .i32 0) (x2 := .int .i32 0) (x3 := .int .i32 0) (unhide H1).2.2 (show w.heap.size ≤ w.heap.size + 1 by omega)))
    obtain ⟨r0, r1, r2, r3⟩ := Blk.vec4 (a := nul) (unhide HB4).1
    refine bodyPost_ret (v := .tuple #[.agg #[.int .i32 (nul 0), .int .i32 (nul 1), .int .i32 (nul 2), .int .i32 (nul 3)], .bool false]) (by simp [results, Try.results16, go_sem, r0, r1, r2, r3]) rfl ⟨by rw [unhide E]; rfl, (unhide HB4).2⟩
end Go.Proofs.Ytmigakbccmkjoaa
