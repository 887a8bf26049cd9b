/-
  Vectors: places. What is laid at places and taken from them; within, lay.
-/
import Derived.Test.YtlbcflfhbhpicaaVE
namespace Go.Proofs.Ytlbcflfhbhpicaa
open Go.RowKit
set_option linter.unusedVariables false

/-- Places of a vector, and no more of them than it has numbers. -/
def Good (ps : List Int) : Prop := 1 ≤ ps.length ∧ ps.length ≤ 4 ∧ ∀ i (h : i < ps.length), 0 ≤ ps[i] ∧ ps[i] < 4
/-- One stands there twice. -/
def Dup (ps : List Int) : Prop := ∃ i j, ∃ (hi : i < ps.length) (hj : j < ps.length), i < j ∧ ps[i] = ps[j]
/-- The place number i. -/
def pl (ps : List Int) (i : Nat) : Nat := (ps.getD i 0).toNat
theorem Good.at {ps : List Int} (h : Good ps) (i : Nat) (hi : i < ps.length) : ps[i] = (pl ps i : Int) ∧ pl ps i < 4 := by
  have := h.2.2 i hi
  have e : ps.getD i 0 = ps[i] := by simp [hi]
  unfold pl
  rw [e]
  omega
/-- g, with x at q. -/
def upd (g : Nat → Int) (q : Nat) (x : Int) : Nat → Int := fun i => if i = q then x else g i
theorem upd_set (g : Nat → Int) (q : Nat) (x : Int) (hq : q < 4) : (#[.int .i32 (g 0), .int .i32 (g 1), .int .i32 (g 2), .int .i32 (g 3)] : Array Value).setIfInBounds q (.int .i32 x) = #[.int .i32 (upd g q x 0), .int .i32 (upd g q x 1), .int .i32 (upd g q x 2), .int .i32 (upd g q x 3)] := by
  rcases (by omega : q = 0 ∨ q = 1 ∨ q = 2 ∨ q = 3) with rfl | rfl | rfl | rfl <;> simp [upd]
/-- a, with the first k numbers of f at the first k places. -/
def layK (a f : Nat → Int) (ps : List Int) : Nat → Nat → Int
  | 0 => a
  | k + 1 => upd (layK a f ps k) (pl ps k) (f k)
theorem layK_i32 {a f : Nat → Int} (ha : ∀ i, I32 (a i)) (hf : ∀ i, I32 (f i)) (ps : List Int) : ∀ k i, I32 (layK a f ps k i)
  | 0, i => ha i
  | k + 1, i => by
    unfold layK upd
    split
    · exact hf k
    · exact layK_i32 ha hf ps k i
/-- What lies at a place is the number of the last one that says so. -/
theorem layK_last (a f : Nat → Int) (ps : List Int) (i : Nat) : ∀ k, i < k → ∃ j, i ≤ j ∧ j < k ∧ pl ps j = pl ps i ∧ layK a f ps k (pl ps i) = f j ∧ ∀ m, m < k → pl ps m = pl ps i → m ≤ j
  | 0, h => absurd h (Nat.not_lt_zero i)
  | k + 1, h => by
    by_cases e : pl ps k = pl ps i
    · refine ⟨k, by omega, by omega, e, ?_, fun m hm _ => by omega⟩
      unfold layK upd
      rw [if_pos e.symm]
    · have hik : i < k := by
        rcases Nat.lt_or_ge i k with h1 | h1
        · exact h1
        · exact absurd (by rw [show k = i by omega]) e
      obtain ⟨j, h1, h2, h3, h4, h5⟩ := layK_last a f ps i k hik
      refine ⟨j, h1, by omega, h3, ?_, fun m hm hp => ?_⟩
      · unfold layK upd
        rw [if_neg (fun x => e x.symm)]
        exact h4
      · by_cases hmk : m = k
        · subst hmk; exact absurd hp e
        · exact h5 m (by omega) hp
theorem layK_out (a f : Nat → Int) (ps : List Int) (q : Nat) : ∀ k, (∀ j, j < k → pl ps j ≠ q) → layK a f ps k q = a q
  | 0, _ => rfl
  | k + 1, h => by
    unfold layK upd
    rw [if_neg (fun e => h k (by omega) e.symm)]
    exact layK_out a f ps q k (fun j hj => h j (by omega))

theorem Good.pl_inj {ps : List Int} (h : Good ps) {i j : Nat} (hi : i < ps.length) (hj : j < ps.length) : pl ps i = pl ps j ↔ ps[i] = ps[j] := by
  have h1 := (h.at i hi).1
  have h2 := (h.at j hj).1
  rw [h1, h2]
  omega

set_option maxHeartbeats 1000000 in
theorem within_any (ao : Option Addr) (cap : Nat) (ps : List Int) (r : Bool) (w : World) (hrow : Row .i64 w (.slice ao ps.length cap) ps) (hr : r = true ↔ Good ps) :
    Calls Try.prog 45 #[.slice ao ps.length cap] w fun e w' => e = .returned (.bool r) ∧ w' = w := by
  have HR := hide hrow
  have HG := hide hr
  have hcm : ps.length ≤ maxLen := by
    obtain ⟨_, _, h, _, h2, h3⟩ := hrow.shape
    cases h
    omega
  unfold maxLen at hcm
  clear hrow hr
  go_enter Try.func45, Try.ntmps45
  by_cases h1 : ps.length < 1
  · have d1 : decide ((ps.length : Int) < 1) = true := by simp; omega
    have hf : Hid (r = false) := by
      cases r with
      | false => rfl
      | true => have := (unhide HG).1 rfl; unfold Good at this; omega
    go_wp2
    go_ret
    exact ⟨by rw [unhide hf]; rfl, rfl⟩
  · have d1 : decide ((ps.length : Int) < 1) = false := by simp; omega
    by_cases h4 : 4 < ps.length
    · have d4 : decide ((4 : Int) < (ps.length : Int)) = true := by simp; omega
      have hf : Hid (r = false) := by
        cases r with
        | false => rfl
        | true => have := (unhide HG).1 rfl; unfold Good at this; omega
      go_wp2
      go_ret
      exact ⟨by rw [unhide hf]; rfl, rfl⟩
    · have d4 : decide ((4 : Int) < (ps.length : Int)) = false := by simp; omega
      go_wp2
      go_loopw [15] (fun i wr => ∃ k : Nat, k ≤ ps.length ∧ i = .int .i64 k ∧ wr = w ∧ ∀ j (h : j < ps.length), j < k → 0 ≤ ps[j] ∧ ps[j] < 4) (fun i _ => ps.length - (intOf i).toNat)
      case atStart => exact ⟨0, by omega, rfl, rfl, fun _ _ h => absurd h (Nat.not_lt_zero _)⟩
      case round =>
        obtain ⟨k, hk, rfl, rfl, hall⟩ := hrel
        have HA := hide hall
        clear hall
        by_cases hlt : k < ps.length
        · obtain ⟨b, off, rfl, hc⟩ := (unhide HR).at k hlt
          have hck := hc k hlt
          have hg : Hid (r = true → 0 ≤ ps[k] ∧ ps[k] < 4) := fun h => ((unhide HG).1 h).2.2 k hlt
          clear hc
          obtain ⟨p, hp⟩ : ∃ p, Hid (ps[k] = p) := ⟨ps[k], hide rfl⟩
          rw [unhide hp] at hck
          have hg2 : Hid (r = true → 0 ≤ p ∧ p < 4) := by rw [← unhide hp]; exact hg
          by_cases hp0 : p < 0
          · have e0 : decide (p < 0) = true := by simp; omega
            have hf : Hid (r = false) := by
              cases r with
              | false => rfl
              | true => have := (unhide hg2) rfl; omega
            go_wp2
            go_ret
            exact ⟨by rw [unhide hf]; rfl, rfl⟩
          · have e0 : decide (p < 0) = false := by simp; omega
            by_cases hp4 : 4 ≤ p
            · have e4 : decide (4 ≤ p) = true := by simp; omega
              have hf : Hid (r = false) := by
                cases r with
                | false => rfl
                | true => have := (unhide hg2) rfl; omega
              go_wp2
              go_ret
              exact ⟨by rw [unhide hf]; rfl, rfl⟩
            · have e4 : decide (4 ≤ p) = false := by simp; omega
              go_wp2
              go_roundw
              case rel =>
                refine ⟨k + 1, by omega, by go_num, by first | rfl | trivial, fun j h hj => ?_⟩
                by_cases hjk : j = k
                · subst hjk
                  have := unhide hp
                  omega
                · exact unhide HA j h (by omega)
              case measure => simp [intOf]; omega
        · have hf : Hid (r = true) := (unhide HG).2 ⟨by omega, by omega, fun i hi => unhide HA i hi (by omega)⟩
          go_wp2
          go_ret
          exact ⟨by rw [unhide hf]; rfl, rfl⟩

set_option maxHeartbeats 1000000 in
theorem lay_any (a f : Nat → Int) (ao : Option Addr) (cap : Nat) (ps : List Int) (w : World) (hrow : Row .i64 w (.slice ao ps.length cap) ps) (hg : Good ps) :
    Calls Try.prog 48 #[.agg #[.int .i32 (a 0), .int .i32 (a 1), .int .i32 (a 2), .int .i32 (a 3)], .agg #[.int .i32 (f 0), .int .i32 (f 1), .int .i32 (f 2), .int .i32 (f 3)], .slice ao ps.length cap] w fun e w' => e = .returned (.agg #[.int .i32 (layK a f ps ps.length 0), .int .i32 (layK a f ps ps.length 1), .int .i32 (layK a f ps ps.length 2), .int .i32 (layK a f ps ps.length 3)]) ∧ Ext w w' := by
  have HR := hide hrow
  have HG := hide hg
  have hl4 := hg.2.1
  have X0 : Hid (Ext w (((w.alloc (.cells #[.int .i32 (a 0), .int .i32 (a 1), .int .i32 (a 2), .int .i32 (a 3)] 24)).alloc (.cells #[.int .i32 (f 0), .int .i32 (f 1), .int .i32 (f 2), .int .i32 (f 3)] 24)).alloc (.cells #[.int .i32 0, .int .i32 0, .int .i32 0, .int .i32 0] 24))) := (((Ext.refl w).alloc _).alloc _).alloc _
  clear hrow hg
  go_enter Try.func48, Try.ntmps48
  go_wp2
  go_loopw [11] (fun i wr => ∃ k : Nat, k ≤ ps.length ∧ i = .int .i64 k ∧ Blk wr w.heap.size #[.int .i32 (layK a f ps k 0), .int .i32 (layK a f ps k 1), .int .i32 (layK a f ps k 2), .int .i32 (layK a f ps k 3)] 24 ∧ Blk wr (w.heap.size + 1) #[.int .i32 (f 0), .int .i32 (f 1), .int .i32 (f 2), .int .i32 (f 3)] 24 ∧ Blk wr (w.heap.size + 1 + 1) #[.int .i32 (nul 0), .int .i32 (nul 1), .int .i32 (nul 2), .int .i32 (nul 3)] 24 ∧ Ext w wr) (fun i _ => ps.length - (intOf i).toNat)
  case atStart => exact ⟨0, by omega, rfl, ((Blk.at rfl).alloc _).alloc _, (Blk.at (by simp)).alloc _, Blk.at (by simp), unhide X0⟩
  case round =>
    obtain ⟨k, hk, rfl, hb0, hb1, hb2, hx⟩ := hrel
    have D := hide (And.intro hb0 (And.intro hb1 (And.intro hb2 hx)))
    clear hb0 hb1 hb2 hx X0
    by_cases hlt : k < ps.length
    · obtain ⟨b, off, rfl, hc⟩ := ((unhide HR).ext (unhide D).2.2.2).at k hlt
      have hck := hc k hlt
      clear hc
      have hq := (unhide HG).at k hlt
      rw [hq.1] at hck
      have hq4 := hq.2
      clear hq
      obtain ⟨q, hq⟩ : ∃ q, Hid (pl ps k = q) := ⟨pl ps k, hide rfl⟩
      rw [unhide hq] at hck hq4
      have hqi : (q : Int) < 4 := by omega
      have hki : (k : Int) < 4 := by omega
      have c1 := (unhide D).2.1.vec k (by omega)
      have c0 := (unhide D).1.vec q hq4
      have f0 := (unhide D).1.free q
      go_wp2
      go_roundw
      case rel =>
        refine ⟨k + 1, by omega, by go_num, ?_, (unhide D).2.1.other q _ (by omega), (unhide D).2.2.1.other q _ (by omega), ext_set (unhide D).2.2.2 (by omega)⟩
        have := (unhide D).1.set q (.int .i32 (f k))
        rw [upd_set _ _ _ hq4, ← unhide hq] at this
        rw [← unhide hq]
        exact this
      case measure => simp [intOf]; omega
    · obtain rfl : k = ps.length := by omega
      obtain ⟨c0, c1, c2, c3⟩ := (unhide D).1.vec4
      obtain ⟨r0, r1, r2, r3⟩ := (unhide D).2.2.1.vec4
      obtain ⟨f0, f1, f2, f3⟩ := (unhide D).2.2.1.free4
      go_wp2
      obtain ⟨q0, q1, q2, q3⟩ := lay4 (unhide D).2.2.1 (.int .i32 (layK a f ps ps.length 0)) (.int .i32 (layK a f ps ps.length 1)) (.int .i32 (layK a f ps ps.length 2)) (.int .i32 (layK a f ps ps.length 3))
      refine bodyPost_ret (v := .agg #[.int .i32 (layK a f ps ps.length 0), .int .i32 (layK a f ps ps.length 1), .int .i32 (layK a f ps ps.length 2), .int .i32 (layK a f ps ps.length 3)]) (by simp [results, Try.results48, go_sem, q0, q1, q2, q3]) rfl ⟨rfl, ?_⟩
      exact ext_set4 (unhide D).2.2.2 (by omega)

end Go.Proofs.Ytlbcflfhbhpicaa
