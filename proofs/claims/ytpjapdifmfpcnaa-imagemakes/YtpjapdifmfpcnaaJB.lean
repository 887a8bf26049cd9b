/-
  Images: the walk of mean.
-/
import Derived.Test.YtpjapdifmfpcnaaJA
import Derived.Laws.BitsAllLaws
import Derived.Shelf.Abstract
import Derived.Laws.EntriesVeiled
namespace Go.Proofs.Ytpjapdifmfpcnaa
open Go.RowKit
set_option linter.unusedVariables false
set_option linter.unusedSimpArgs false

theorem drewN_drewN (w : World) (n m : Nat) : (w.drewN n).drewN m = w.drewN (n + m) := by simp [World.drewN, Nat.add_assoc]
theorem pow8 {k : Nat} (h : k ≤ 8) : (1 : Int) ≤ 2 ^ k ∧ (2 : Int) ^ k ≤ 256 := by
  have b : 2 ^ k ≤ 2 ^ 8 := Nat.pow_le_pow_right (by decide) h
  have e : (2 : Int) ^ k = ((2 ^ k : Nat) : Int) := by simp
  have p := two_pow_pos k
  omega
theorem and_mod {x : Int} {k : Nat} (h0 : 0 ≤ x) (h1 : x < 4294967296) (hk : k ≤ 8) : bits .and .u32 x (2 ^ k - 1) = x % 2 ^ k := by
  obtain ⟨n, rfl⟩ := Int.eq_ofNat_of_zero_le h0
  have p := pow8 hk
  have e : (2 : Int) ^ k - 1 = ((2 ^ k - 1 : Nat) : Int) := by
    have e2 : (2 : Int) ^ k = ((2 ^ k : Nat) : Int) := by simp
    omega
  have e2 : (2 : Int) ^ k = ((2 ^ k : Nat) : Int) := by simp
  rw [e, u32_and_nat _ _ (by omega) (by omega), Nat.and_two_pow_sub_one_eq_mod, e2]
  simp

set_option maxHeartbeats 2000000 in
theorem mean1_any (p k : Nat) (G : List Int) (bc bg : Nat) (ao : Option Addr) (cap : Nat) (w : World) (hc : w.cell? ⟨bc, 0, none⟩ = some (.int .u32 (G.length : Int))) (hg : w.cell? ⟨bg, 0, none⟩ = some (.slice ao G.length cap)) (hr : Row .u32 w (.slice ao G.length cap) G)
    (hG1 : 1 ≤ G.length) (hG4 : G.length ≤ 4) (hb : ∀ g ∈ G, 0 ≤ g ∧ g < 4294967296) (hk1 : 1 ≤ k) (hk8 : k ≤ 8) (hp : p < 32) :
    Calls Try.prog 66 #[.int .i64 (p : Int), .int .i64 (k : Int), .pointer (some ⟨bc, 0, none⟩), .pointer (some ⟨bg, 0, none⟩)] w fun e w' => e = .returned (.int .u32 (chan p k G)) ∧ Ext w w' := by
  have HR := hide hr
  have HB := hide hb
  obtain ⟨pw1, pw2⟩ := pow8 hk8
  clear hr hb
  go_enter Try.func66, Try.ntmps66
  go_wp2
  go_loopw [7, 14] (fun x i wr => ∃ j n : Nat, j ≤ G.length ∧ i = .int .i64 (j : Int) ∧ x = .int .u32 ((G.length : Int) / 2 + chanS p k (G.take j)) ∧ wr = w.drewN n) (fun _ i _ => G.length - (intOf i).toNat)
  case atStart => exact ⟨0, 0, Nat.zero_le _, rfl, by simp [chanS], rfl⟩
  case round =>
    obtain ⟨j, n, hj, rfl, rfl, rfl⟩ := hrel
    obtain ⟨s0, s1⟩ := chanS_bound p k (G.take j)
    have hm : ((G.take j).length : Int) * (2 ^ k - 1) ≤ 4 * 255 := Int.mul_le_mul (by simp; omega) (by omega) (by omega) (by omega)
    have s2 : chanS p k (G.take j) ≤ 1020 := by omega
    by_cases hlt : j < G.length
    · obtain ⟨b, off, rfl, hcc⟩ := (unhide HR).at j hlt
      have ck := hcc j hlt
      have hjn : (j : Int) < (G.length : Int) := by omega
      have hg2 := unhide HB _ (List.getElem_mem hlt)
      obtain ⟨g0, g1⟩ := hg2
      have HS := hide (show chanS p k (G.take (j + 1)) = chanS p k (G.take j) + G[j] / 2 ^ p % 2 ^ k by rw [List.take_succ_eq_append_getElem hlt, chanS_snoc])
      have d0 : 0 ≤ G[j] / 2 ^ p := Int.ediv_nonneg g0 (Int.pow_nonneg (by omega))
      have d1 : G[j] / 2 ^ p < 4294967296 := Int.lt_of_le_of_lt (Int.ediv_le_self _ g0) g1
      have HA := and_mod d0 d1 hk8
      have m0 := Int.emod_nonneg (G[j] / 2 ^ p) (show (2 : Int) ^ k ≠ 0 by omega)
      have m1 := Int.emod_lt_of_pos (G[j] / 2 ^ p) (show (0 : Int) < 2 ^ k by omega)
      have hp32 : (p : Int) < 32 := by omega
      have hk32 : (k : Int) < 32 := by omega
      have w1 : IntKind.u32.wrap ((2 : Int) ^ k) = 2 ^ k := by simp [IntKind.wrap, IntKind.bits, IntKind.signed]; omega
      have w2 : IntKind.u32.wrap ((2 : Int) ^ k - 1) = 2 ^ k - 1 := by simp [IntKind.wrap, IntKind.bits, IntKind.signed]; omega
      have w3 : IntKind.u32.wrap ((G.length : Int) / 2 + chanS p k (G.take j) + G[j] / 2 ^ p % 2 ^ k) = (G.length : Int) / 2 + chanS p k (G.take j) + G[j] / 2 ^ p % 2 ^ k := by simp [IntKind.wrap, IntKind.bits, IntKind.signed]; omega
      generalize G[j] = g at *
      clear hcc hm s1
      go_wp2
      go_quiet (fail)
      go_wp2
      go_roundw
      case rel => exact ⟨j + 1, n + nq, by omega, by go_num, by rw [unhide HS, ← Int.add_assoc], by first | rfl | exact drewN_drewN _ _ _⟩
      case measure => simp [intOf]; omega
    · obtain rfl : j = G.length := by omega
      rw [List.take_length] at *
      have HE := hide (show chan p k G = ((G.length : Int) / 2 + chanS p k G) / (G.length : Int) by unfold chan; rw [Int.add_comm])
      have hnz : ¬ (G.length : Int) = 0 := by omega
      have hnzb : ((G.length : Int) == 0) = false := by rw [beq_eq_false_iff_ne]; omega
      go_wp2
      go_ret
      rw [unhide HE]
      exact ⟨by first | rfl | simp, (Ext.refl w).drewN _⟩

theorem mean1_enters : ∀ args w, (callFunc 66 args).run Try.prog w = .ok (.enter 66 args) w := enters_of Try.func66 (by kernel_rfl) rfl
theorem or_add {x c : Int} {k : Nat} (h0 : 0 ≤ x) (hx : x < 2 ^ k) (hc : 0 ≤ c) (hb : x + c * 2 ^ k < 4294967296) : bits .or .u32 x (c * 2 ^ k % 4294967296) = x + c * 2 ^ k := by
  obtain ⟨X, rfl⟩ := Int.eq_ofNat_of_zero_le h0
  obtain ⟨C, rfl⟩ := Int.eq_ofNat_of_zero_le hc
  have e2 : (2 : Int) ^ k = ((2 ^ k : Nat) : Int) := by simp
  have e3 : (C : Int) * 2 ^ k = ((C * 2 ^ k : Nat) : Int) := by simp
  rw [e3] at hb ⊢
  rw [Int.emod_eq_of_lt (by omega) (by omega)]
  rw [or_nat X C k (by omega) (by omega) (by omega)]
  simp
theorem sum_take (ks : List Nat) (j : Nat) (h : j < ks.length) : (ks.take (j + 1)).sum = (ks.take j).sum + ks[j] := by
  rw [List.take_succ_eq_append_getElem h, List.sum_append]
  simp

set_option maxHeartbeats 2000000 in
theorem mean_any (G : List Int) (ks : List Nat) (ao : Option Addr) (cap : Nat) (kv : Value) (w : World) (hr : Row .u32 w (.slice ao G.length cap) G) (hk : KRow w kv ks)
    (hG1 : 1 ≤ G.length) (hG4 : G.length ≤ 4) (hb : ∀ g ∈ G, 0 ≤ g ∧ g < 4294967296) (hks : ∀ k ∈ ks, 1 ≤ k ∧ k ≤ 8) (hsum : ks.sum ≤ 32) (hkl : ks.length ≤ 4) :
    Calls Try.prog 65 #[.slice ao G.length cap, kv] w fun e w' => e = .returned (.int .u32 (meanN ks 0 G)) ∧ Ext w w' := by
  obtain ⟨bk, rfl, hkc⟩ := hk
  have hX := ((Ext.refl w).alloc (.cells #[.slice ao G.length cap] 87)).alloc (.cells #[.int .u32 (G.length : Int)] 88)
  have hBg : Blk ((w.alloc (.cells #[.slice ao G.length cap] 87)).alloc (.cells #[.int .u32 (G.length : Int)] 88)) w.heap.size #[.slice ao G.length cap] 87 := (Blk.new _ _ _).alloc _
  have hBc : Blk ((w.alloc (.cells #[.slice ao G.length cap] 87)).alloc (.cells #[.int .u32 (G.length : Int)] 88)) (w.heap.size + 1) #[.int .u32 (G.length : Int)] 88 := Blk.at (by simp)
  have hlw : IntKind.u32.wrap (G.length : Int) = (G.length : Int) := by simp [IntKind.wrap, IntKind.bits, IntKind.signed]; omega
  have H1 := hide (And.intro hX (And.intro hBg hBc))
  have HR := hide hr
  have HB := hide hb
  have HK := hide hkc
  have HKS := hide hks
  clear hr hb hkc hks hX hBg hBc
  go_enter Try.func65, Try.ntmps65
  go_wp2_with fail
  generalize (w.alloc (.cells #[.slice ao G.length cap] 87)).alloc (.cells #[.int .u32 (G.length : Int)] 88) = w2 at H1 ⊢
  go_loopw [7, 8, 17] (fun x p i wr => ∃ j : Nat, j ≤ ks.length ∧ i = .int .i64 (j : Int) ∧ p = .int .i64 ((ks.take j).sum : Nat) ∧ x = .int .u32 (meanN (ks.take j) 0 G) ∧ Ext w2 wr) (fun _ _ i _ => ks.length - (intOf i).toNat)
  case atStart => exact ⟨0, Nat.zero_le _, rfl, by simp, by simp [meanN], Ext.refl _⟩
  case round =>
    obtain ⟨j, hj, rfl, rfl, rfl, hX⟩ := hrel
    by_cases hlt : j < ks.length
    · have hXw := (unhide H1).1.trans hX
      have ck : wr.cell? ⟨bk, j, none⟩ = some (.int .i64 (ks[j] : Nat)) := by
        rw [hXw.cell (p := ⟨bk, j, none⟩) (World.block_lt_of_cell? w _ (unhide HK j hlt))]
        exact unhide HK j hlt
      have hjn : (j : Int) < (ks.length : Int) := by omega
      have hkk := unhide HKS _ (List.getElem_mem hlt)
      obtain ⟨k1, k8⟩ := hkk
      have hst := sum_take ks j hlt
      have hle : (ks.take (j + 1)).sum ≤ ks.sum := by
        conv => rhs; rw [← List.take_append_drop (j + 1) ks]
        rw [List.sum_append]
        omega
      have hm := meanN_lt (ks.take j) G (by omega)
      obtain ⟨m0, m1⟩ := hm
      have hm2 := meanN_lt (ks.take (j + 1)) G (by omega)
      have hsn : meanN (ks.take (j + 1)) 0 G = meanN (ks.take j) 0 G + chan (ks.take j).sum ks[j] G * 2 ^ (ks.take j).sum := by
        rw [List.take_succ_eq_append_getElem hlt, meanN_snoc, Nat.zero_add]
      have hcb := chan_bound (ks.take j).sum ks[j] G (by omega)
      have hp32 : (2 : Int) ^ (ks.take (j + 1)).sum ≤ 4294967296 := by
        have b : 2 ^ (ks.take (j + 1)).sum ≤ 2 ^ 32 := Nat.pow_le_pow_right (by decide) (by omega)
        have e : (2 : Int) ^ (ks.take (j + 1)).sum = ((2 ^ (ks.take (j + 1)).sum : Nat) : Int) := by simp
        omega
      have HOR := hide (or_add m0 m1 hcb.1 (by rw [← hsn]; omega))
      have HC := hide (mean1_any (ks.take j).sum ks[j] G (w.heap.size + 1) w.heap.size ao cap wr (((unhide H1).2.2.ext hX).cell (i := 0) rfl) (((unhide H1).2.1.ext hX).cell (i := 0) rfl) ((unhide HR).ext hXw) hG1 hG4 (unhide HB) k1 k8 (by omega))
      have HSN := hide (And.intro hsn hst)
      have hs32 : ((ks.take j).sum : Int) < 32 := by omega
      have hsk : (ks.take j).sum + ks[j] ≤ 32 := by omega
      have HX := hide hX
      generalize chan (ks.take j).sum ks[j] G = cc at *
      generalize ks[j] = k at *
      generalize (ks.take j).sum = p at *
      generalize meanN (ks.take j) 0 G = mm at *
      obtain ⟨cb0, cb1⟩ := hcb
      clear hX hXw hsn hst hle hm2 hp32 m0 m1
      have eg := mean1_enters
      go_wp2_with (first | (go_at_fn 66; refine (unhide HC).mono ?_; rintro e w3 ⟨rfl, hx3⟩; have HX3 := hide hx3; clear hx3))
      go_roundw
      case rel =>
        refine ⟨j + 1, by omega, by go_num, by rw [(unhide HSN).2]; go_num, ?_, (unhide HX).trans (unhide HX3)⟩
        rw [(unhide HSN).1, ← unhide HOR]
      case measure => simp [intOf]; omega
    · obtain rfl : j = ks.length := by omega
      rw [List.take_length]
      have HX := hide ((unhide H1).1.trans hX)
      clear hX
      go_wp2
      go_ret
      exact ⟨rfl, unhide HX⟩
end Go.Proofs.Ytpjapdifmfpcnaa
