/-
  Images: the walks of cell, number, widths, lay and mean.
-/
import Derived.Test.YtpjapdifmfpcnaaIX
import Derived.Test.YtpjapdifmfpcnaaIB
namespace Go.Proofs.Ytpjapdifmfpcnaa
open Go.RowKit
set_option linter.unusedVariables false
set_option linter.unusedSimpArgs false

/-- A part of a row. -/
theorem Row.part {w : World} {ao : Option Addr} {n cap : Nat} {xs : List Int} (h : Row .u8 w (.slice ao n cap) xs) (p m : Nat) (hm : 0 < m) (hp : p + m ≤ xs.length) :
    ∃ b off, ao = some ⟨b, off, none⟩ ∧ Row .u8 w (.slice (some ⟨b, off + p, none⟩) m (cap - p)) ((xs.drop p).take m) := by
  rcases h with ⟨rfl, _⟩ | ⟨hne, b, off, c, hv, hl, hmx, hc⟩
  · simp at hp
    omega
  · cases hv
    have hlen : ((xs.drop p).take m).length = m := by simp; omega
    refine ⟨b, off, rfl, .inr ⟨?_, b, off + p, cap - p, by rw [hlen], by rw [hlen]; omega, by omega, fun i hi => ?_⟩⟩
    · intro e
      rw [e] at hlen
      simp at hlen
      omega
    · rw [hlen] at hi
      have := hc (p + i) (by omega)
      rw [← Nat.add_assoc] at this
      rw [this]
      congr 2
      simp [hi]

set_option maxHeartbeats 1000000 in
theorem cell_any (b off n cap i s : Nat) (w : World) (hs : 1 ≤ s) (hs4 : s ≤ 4) (hi : (i + 1) * s ≤ n) (hc : n ≤ cap) (hm : cap ≤ 9223372036854775807) :
    Calls Try.prog 28 #[.slice (some ⟨b, off, none⟩) n cap, .int .i64 (i : Int), .int .i64 (s : Int)] w fun e w' => e = .returned (.slice (some ⟨b, off + i * s, none⟩) s (cap - i * s)) ∧ w' = w := by
  have e1 : (i + 1) * s = i * s + s := Nat.succ_mul _ _
  have e2 : (i : Int) * (s : Int) = ((i * s : Nat) : Int) := by simp
  have e3 : ((i : Int) + 1) * (s : Int) = (((i + 1) * s : Nat) : Int) := by simp
  have b1 : i ≤ i * s := Nat.le_mul_of_pos_right _ (by omega)
  have b0 : (0 : Int) ≤ (i : Int) * (s : Int) := by omega
  have b2 : (i : Int) * (s : Int) ≤ 9223372036854775807 := by omega
  have b3 : ((i : Int) + 1) * (s : Int) ≤ 9223372036854775807 := by omega
  have b4 : (i : Int) * (s : Int) ≤ ((i : Int) + 1) * (s : Int) := by omega
  have b5 : ((i : Int) + 1) * (s : Int) ≤ (cap : Int) := by omega
  have b6 : (i : Int) + 1 ≤ 9223372036854775807 := by omega
  have b7 : (0 : Int) ≤ ((i : Int) + 1) * (s : Int) := by omega
  have E1 : Hid (((i : Int) * (s : Int)).toNat = i * s) := by show _ = _; omega
  have E2 : Hid ((((i : Int) + 1) * (s : Int)).toNat = i * s + s) := by show _ = _; omega
  have hne : ¬ (cap : Int) = (i : Int) * (s : Int) := by omega
  have hne2 : ¬ cap = i * s := by omega
  clear e1 e2 e3
  go_enter Try.func28, Try.ntmps28
  go_wp2
  go_ret
  refine ⟨?_, rfl⟩
  simp [unhide E1, unhide E2, hne2]
  rw [Nat.succ_mul]
  omega

set_option maxHeartbeats 1000000 in
theorem number_any (ao : Option Addr) (cap : Nat) (xs : List Int) (w : World) (hr : Row .u8 w (.slice ao xs.length cap) xs) (hb : Byt xs) (h4 : xs.length ≤ 4) :
    Calls Try.prog 63 #[.slice ao xs.length cap] w fun e w' => e = .returned (.int .u32 (numOf xs)) ∧ w' = w := by
  have HR := hide hr
  have HB := hide hb
  clear hr hb
  go_enter Try.func63, Try.ntmps63
  go_wp2
  go_loopw [3, 8] (fun x i wr => ∃ k : Nat, k ≤ xs.length ∧ i = .int .i64 (k : Int) ∧ x = .int .u32 (numOf (xs.take k)) ∧ wr = w) (fun _ i _ => xs.length - (intOf i).toNat)
  case atStart => exact ⟨0, Nat.zero_le _, rfl, rfl, rfl⟩
  case round =>
    obtain ⟨k, hk, rfl, rfl, rfl⟩ := hrel
    by_cases hlt : k < xs.length
    · obtain ⟨b, off, rfl, hc⟩ := (unhide HR).at k hlt
      have ck := hc k hlt
      have hkn : (k : Int) < (xs.length : Int) := by omega
      have HS := hide (num_step xs k hlt h4 (unhide HB))
      have hx := (unhide HB) _ (List.getElem_mem hlt)
      obtain ⟨x1, x2⟩ := hx
      generalize xs[k] = x at *
      rw [show x % 4294967296 = x by omega] at HS
      have hk4 : (k : Int) < 4 := by omega
      clear hc
      go_wp2
      go_roundw
      case rel => exact ⟨k + 1, by omega, by go_num, by rw [← unhide HS], by first | rfl | trivial⟩
      case measure => simp [intOf]; omega
    · obtain rfl : k = xs.length := by omega
      rw [List.take_length]
      go_wp2
      go_ret
      exact ⟨rfl, rfl⟩

/-- A slice of ints: the channels of a format. -/
def KRow (w : World) (v : Value) (ks : List Nat) : Prop := ∃ b, v = .slice (some ⟨b, 0, none⟩) ks.length ks.length ∧ ∀ i (h : i < ks.length), w.cell? ⟨b, i, none⟩ = some (.int .i64 (ks[i] : Nat))
theorem KRow.ext {w w' : World} {v : Value} {ks : List Nat} (h : KRow w v ks) (hx : Ext w w') : KRow w' v ks := by
  obtain ⟨b, e, hc⟩ := h
  refine ⟨b, e, fun i hi => ?_⟩
  rw [hx.cell (p := ⟨b, i, none⟩) (World.block_lt_of_cell? w _ (hc i hi))]
  exact hc i hi
theorem krow_lit (w : World) (ks : List Nat) (t : TypeId) (cs : Array Value) (hcs : cs = (ks.map fun k => Value.int .i64 (k : Nat)).toArray) : KRow (w.alloc (.cells cs t)) (.slice (some ⟨w.heap.size, 0, none⟩) ks.length ks.length) ks := by
  subst hcs
  refine ⟨w.heap.size, rfl, fun i hi => ?_⟩
  exact (Blk.new w _ t).cell (by simp [hi])
set_option maxHeartbeats 2000000 in
theorem widths_any (f : Int) (w : World) :
    Calls Try.prog 62 #[.int .i64 f] w fun e w' => ∃ b, e = .returned (.slice (some ⟨b, 0, none⟩) (chs8 f).length (chs8 f).length) ∧ KRow w' (.slice (some ⟨b, 0, none⟩) (chs8 f).length (chs8 f).length) (chs8 f) ∧ Ext w w' := by
  by_cases h1 : f = 1
  · subst h1
    go_enter Try.func62, Try.ntmps62
    go_wp2
    go_ret
    exact ⟨_, rfl, krow_lit w [8, 8, 8, 8] _ _ rfl, (Ext.refl w).alloc _⟩
  have b1 : (f == 1) = false := by simp [h1]
  by_cases h2 : f = 2
  · subst h2
    go_enter Try.func62, Try.ntmps62
    go_wp2
    go_ret
    exact ⟨_, rfl, krow_lit w [5, 6, 5] _ _ rfl, (Ext.refl w).alloc _⟩
  have b2 : (f == 2) = false := by simp [h2]
  by_cases h3 : f = 3
  · subst h3
    go_enter Try.func62, Try.ntmps62
    go_wp2
    go_ret
    exact ⟨_, rfl, krow_lit w [4, 4, 4, 4] _ _ rfl, (Ext.refl w).alloc _⟩
  have b3 : (f == 3) = false := by simp [h3]
  by_cases h4 : f = 4
  · subst h4
    go_enter Try.func62, Try.ntmps62
    go_wp2
    go_ret
    exact ⟨_, rfl, krow_lit w [1, 5, 5, 5] _ _ rfl, (Ext.refl w).alloc _⟩
  have b4 : (f == 4) = false := by simp [h4]
  by_cases h7 : f = 7
  · subst h7
    go_enter Try.func62, Try.ntmps62
    go_wp2
    go_ret
    exact ⟨_, rfl, krow_lit w [8, 8] _ _ rfl, (Ext.refl w).alloc _⟩
  have b7 : (f == 7) = false := by simp [h7]
  have E := hide (show chs8 f = [8] by unfold chs8; rw [if_neg h1, if_neg h2, if_neg h3, if_neg h4, if_neg h7])
  clear h1 h2 h3 h4 h7
  rw [unhide E]
  go_enter Try.func62, Try.ntmps62
  go_wp2
  go_ret
  exact ⟨_, rfl, krow_lit w [8] _ _ rfl, (Ext.refl w).alloc _⟩

set_option maxHeartbeats 2000000 in
/-- 'lay' into a part of a row of the call's own. -/
theorem lay_any {w : World} {base g n c : Nat} {xs : List Int} (ho : Own .u8 w base 5 (.slice (some ⟨g, 0, none⟩) n c) xs) (p s cap2 : Nat) (hs : s ≤ 4) (hp : p + s ≤ xs.length) (x : Int) (h0 : 0 ≤ x) (h1 : x < 4294967296) :
    Calls Try.prog 64 #[.slice (some ⟨g, p, none⟩) s cap2, .int .u32 x] w fun e w' => e = .returned (.tuple #[]) ∧ Own .u8 w' base 5 (.slice (some ⟨g, 0, none⟩) n c) (layB xs p (low x s)) ∧ w.grownBy w' (some g) := by
  have HO := hide ho
  clear ho
  go_enter Try.func64, Try.ntmps64
  go_wp2
  go_loopw [7] (fun i wr => ∃ k : Nat, k ≤ s ∧ i = .int .i64 (k : Int) ∧ Own .u8 wr base 5 (.slice (some ⟨g, 0, none⟩) n c) (layB xs p (low x k)) ∧ w.grownBy wr (some g)) (fun i _ => s - (intOf i).toNat)
  case atStart =>
    refine ⟨0, Nat.zero_le _, rfl, ?_, World.grownBy.refl _ _⟩
    have e : layB xs p (low x 0) = xs := by unfold layB; simp [low]
    rw [e]
    exact unhide HO
  case round =>
    obtain ⟨k, hk, rfl, hown, hg⟩ := hrel
    by_cases hlt : k < s
    · have hlk := low_length x k
      have hlen : (layB xs p (low x k)).length = xs.length := layB_len (by rw [hlk]; omega)
      have ck := hown.cellAt (p + k) (by omega)
      have fk := hown.frozenAt (p + k)
      have hst := hown.stored (p + k) (x / 256 ^ k % 256)
      have e2 : (layB xs p (low x k)).set (p + k) (x / 256 ^ k % 256) = layB xs p (low x (k + 1)) := by
        rw [low_snoc]
        unfold layB
        have ht : (xs.take p).length = p := by simp; omega
        rw [List.append_assoc, List.set_append_right _ _ (by omega), ht, Nat.add_sub_cancel_left, List.set_append_right _ _ (by omega), hlk, Nat.sub_self]
        have hd : xs.drop (p + k) = xs[p + k]'(by omega) :: xs.drop (p + k + 1) := List.drop_eq_getElem_cons (by omega)
        rw [hd, List.set_cons_zero]
        simp [hlk, Nat.add_assoc]
      rw [e2] at hst
      have HN := hide (And.intro hst (hg.trans (grownBy_set wr g (p + k) (.int .u8 (x / 256 ^ k % 256)))))
      have hkn : (k : Int) < (s : Int) := by omega
      have hk8 : (8 : Int) * (k : Int) < 32 := by omega
      have hpow : (2 : Int) ^ (8 * k) = 256 ^ k := by rw [Int.pow_mul]; rfl
      have HP := hide hpow
      have EN : Hid ((x / 2 ^ (8 * k)) % 256 = x / 256 ^ k % 256) := by show _ = _; rw [hpow]
      generalize (layB xs p (low x k))[p + k]'(by omega) = old at ck
      clear hpow hst e2 hown hg hlen hlk
      have d0 := Int.ediv_nonneg h0 (show (0 : Int) ≤ 2 ^ (8 * k) from Int.pow_nonneg (by omega))
      go_wp2
      go_roundw
      case rel => exact ⟨k + 1, by omega, by go_num, by rw [← unhide EN] at HN; exact (unhide HN).1, by rw [← unhide EN] at HN; exact (unhide HN).2⟩
      case measure => simp [intOf]; omega
    · obtain rfl : k = s := by omega
      have HN := hide (And.intro hown hg)
      clear hown hg
      go_wp2
      go_end0
      exact ⟨rfl, (unhide HN).1, (unhide HN).2⟩
end Go.Proofs.Ytpjapdifmfpcnaa
