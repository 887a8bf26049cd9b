/-
  Vectors: the document's places: Right, Pick, Put.
-/
import Derived.Test.YtlbcflfhbhpicaaVQ
namespace Go.Proofs.Ytlbcflfhbhpicaa
open Go.RowKit
set_option linter.unusedVariables false

set_option maxHeartbeats 2000000 in
theorem refRight_any (ao : Option Addr) (cap : Nat) (ps : List Int) (once r : Bool) (w : World) (hrow : Row .i64 w (.slice ao ps.length cap) ps) (hr : r = true ↔ Good ps ∧ (once = true → ¬ Dup ps)) :
    Calls Try.prog 24 #[.slice ao ps.length cap, .bool once] w fun e w' => e = .returned (.bool r) ∧ Ext w w' := by
  have HR := hide hrow
  have HG := hide hr
  have hcm : ps.length ≤ maxLen := by
    obtain ⟨_, _, h, _, h2, h3⟩ := hrow.shape
    cases h
    omega
  unfold maxLen at hcm
  clear hrow hr
  go_enter Try.func24, Try.ntmps24
  by_cases h1 : ps.length < 1
  · have d1 : decide ((ps.length : Int) < 1) = true := by simp; omega
    have hf : Hid (r = false) := by
      cases r with
      | false => rfl
      | true => have := ((unhide HG).1 rfl).1; unfold Good at this; omega
    go_wp2
    go_ret
    exact ⟨by rw [unhide hf]; rfl, Ext.refl w⟩
  · have d1 : decide ((ps.length : Int) < 1) = false := by simp; omega
    by_cases h4 : 4 < ps.length
    · have d4 : decide ((4 : Int) < (ps.length : Int)) = true := by simp; omega
      have hf : Hid (r = false) := by
        cases r with
        | false => rfl
        | true => have := ((unhide HG).1 rfl).1; unfold Good at this; omega
      go_wp2
      go_ret
      exact ⟨by rw [unhide hf]; rfl, Ext.refl w⟩
    · have d4 : decide ((4 : Int) < (ps.length : Int)) = false := by simp; omega
      go_wp2
      go_loopw [5] (fun i wr => ∃ k : Nat, k ≤ ps.length ∧ i = .int .i64 k ∧ (∃ m, wr = w.drewN m) ∧ (∀ j (h : j < ps.length), j < k → 0 ≤ ps[j] ∧ ps[j] < 4) ∧ (once = true → ∀ i j (hi : i < ps.length) (hj : j < ps.length), i < j → j < k → ps[i] ≠ ps[j])) (fun i _ => ps.length - (intOf i).toNat)
      case atStart => exact ⟨0, by omega, rfl, ⟨0, rfl⟩, fun _ _ h => absurd h (Nat.not_lt_zero _), fun _ _ _ _ _ _ h => absurd h (Nat.not_lt_zero _)⟩
      case round =>
        obtain ⟨k, hk, rfl, ⟨m, rfl⟩, hall, hdis⟩ := hrel
        have HA := hide (And.intro hall hdis)
        clear hall hdis
        by_cases hlt : k < ps.length
        · obtain ⟨b, off, rfl, hc⟩ := (unhide HR).at k hlt
          have hck := hc k hlt
          have HC := hide hc
          have hg : Hid (r = true → 0 ≤ ps[k] ∧ ps[k] < 4) := fun h => ((unhide HG).1 h).1.2.2 k hlt
          clear hc
          obtain ⟨p, hp⟩ : ∃ p, Hid (ps[k] = p) := ⟨ps[k], hide rfl⟩
          rw [unhide hp] at hck
          have hg2 : Hid (r = true → 0 ≤ p ∧ p < 4) := by rw [← unhide hp]; exact hg
          clear hg
          by_cases hp0 : p < 0
          · have e0 : decide (p < 0) = true := by simp; omega
            have hf : Hid (r = false) := by
              cases r with
              | false => rfl
              | true => have := (unhide hg2) rfl; omega
            go_wp2
            go_ret
            exact ⟨by rw [unhide hf]; rfl, (Ext.refl w).drewN m⟩
          · have e0 : decide (p < 0) = false := by simp; omega
            by_cases hp4 : 3 < p
            · have e4 : decide (3 < p) = true := by simp; omega
              have hf : Hid (r = false) := by
                cases r with
                | false => rfl
                | true => have := (unhide hg2) rfl; omega
              go_wp2
              go_ret
              exact ⟨by rw [unhide hf]; rfl, (Ext.refl w).drewN m⟩
            · have e4 : decide (3 < p) = false := by simp; omega
              go_wp2
              go_loopw [6] (fun i wr => ∃ j : Nat, j ≤ k ∧ i = .int .i64 j ∧ (∃ m, wr = w.drewN m) ∧ (once = true → ∀ i (hi : i < ps.length), i < j → ps[i] ≠ p)) (fun i _ => k - (intOf i).toNat)
              case atStart => exact ⟨0, by omega, rfl, ⟨m, rfl⟩, fun _ _ _ h => absurd h (Nat.not_lt_zero _)⟩
              case round =>
                obtain ⟨j, hj, rfl, ⟨m2, rfl⟩, hno⟩ := hrel
                have HN := hide hno
                clear hno
                by_cases hjk : j < k
                · have hjl : j < ps.length := by omega
                  have hcj := unhide HC j hjl
                  obtain ⟨q, hq⟩ : ∃ q, Hid (ps[j] = q) := ⟨ps[j], hide rfl⟩
                  rw [unhide hq] at hcj
                  cases once with
                  | false =>
                    go_wp2
                    go_quiet (fail)
                    go_wp2
                    go_roundw
                    case rel => exact ⟨j + 1, by omega, by go_num, ⟨_, rfl⟩, fun h => by cases h⟩
                    case measure => simp [intOf]; omega
                  | true =>
                    by_cases hqp : q = p
                    · have hf : Hid (r = false) := by
                        cases r with
                        | false => rfl
                        | true =>
                          exact absurd ⟨j, k, hjl, hlt, hjk, by rw [unhide hq, unhide hp, hqp]⟩ (((unhide HG).1 rfl).2 rfl)
                      have eq : (q == p) = true := by simp [hqp]
                      clear hqp
                      go_wp2
                      go_quiet (fail)
                      go_wp2
                      go_ret
                      exact ⟨by rw [unhide hf]; rfl, ((Ext.refl w).drewN _).drewN _⟩
                    · have eq : (q == p) = false := by simp [hqp]
                      have HQ := hide hqp
                      clear hqp
                      go_wp2
                      go_quiet (fail)
                      go_wp2
                      go_roundw
                      case rel =>
                        refine ⟨j + 1, by omega, by go_num, ⟨_, rfl⟩, fun _ i hi hij => ?_⟩
                        by_cases e : i = j
                        · subst e
                          rw [unhide hq]
                          exact unhide HQ
                        · exact unhide HN (by first | rfl | trivial) i hi (by omega)
                      case measure => simp [intOf]; omega
                · obtain rfl : j = k := by omega
                  go_wp2
                  go_roundw
                  case rel =>
                    refine ⟨j + 1, by omega, by go_num, ⟨_, rfl⟩, fun i hi hij => ?_, fun ho i i' hi hi' h12 h2 => ?_⟩
                    · by_cases e : i = j
                      · subst e
                        have := unhide hp
                        omega
                      · exact (unhide HA).1 i hi (by omega)
                    · by_cases e : i' = j
                      · subst e
                        rw [unhide hp]
                        exact unhide HN ho i hi h12
                      · exact (unhide HA).2 ho i i' hi hi' h12 (by omega)
                  case measure => simp [intOf]; omega
        · have hf : Hid (r = true) := (unhide HG).2 ⟨⟨by omega, by omega, fun i hi => (unhide HA).1 i hi (by omega)⟩, fun ho ⟨i, j, hi, hj, hij, he⟩ => (unhide HA).2 ho i j hi hj hij (by omega) he⟩
          go_wp2
          go_ret
          exact ⟨by rw [unhide hf]; rfl, (Ext.refl w).drewN m⟩

set_option maxHeartbeats 1000000 in
theorem refPick_any (a : Nat → Int) (ao : Option Addr) (cap : Nat) (ps : List Int) (w : World) (hrow : Row .i64 w (.slice ao ps.length cap) ps) (hg : Good ps) :
    Calls Try.prog 25 #[.agg #[.int .i32 (a 0), .int .i32 (a 1), .int .i32 (a 2), .int .i32 (a 3)], .slice ao ps.length cap] w fun e w' => e = .returned (.agg #[.int .i32 (cut ps.length (fun i => a (pl ps i)) 0), .int .i32 (cut ps.length (fun i => a (pl ps i)) 1), .int .i32 (cut ps.length (fun i => a (pl ps i)) 2), .int .i32 (cut ps.length (fun i => a (pl ps i)) 3)]) ∧ Ext w w' := by
  have HR := hide hrow
  have HG := hide hg
  have hl4 := hg.2.1
  clear hrow hg
  generalize hf : (fun i => a (pl ps i)) = f at *
  have HE : Hid (∀ i, f i = a (pl ps i)) := fun i => by rw [← hf]
  clear hf
  go_enter Try.func25, Try.ntmps25
  go_wp2
  go_loopw [6] (fun i wr => ∃ k : Nat, k ≤ ps.length ∧ i = .int .i64 k ∧ Blk wr w.heap.size #[.int .i32 (a 0), .int .i32 (a 1), .int .i32 (a 2), .int .i32 (a 3)] 24 ∧ Blk wr (w.heap.size + 1) #[.int .i32 (nul 0), .int .i32 (nul 1), .int .i32 (nul 2), .int .i32 (nul 3)] 24 ∧ Blk wr (w.heap.size + 1 + 1) #[.int .i32 (cut k f 0), .int .i32 (cut k f 1), .int .i32 (cut k f 2), .int .i32 (cut k f 3)] 24 ∧ Ext w wr) (fun i _ => ps.length - (intOf i).toNat)
  case atStart =>
    refine ⟨0, by omega, rfl, ((Blk.at rfl).alloc _).alloc _, (Blk.at (by simp)).alloc _, ?_, (((Ext.refl w).alloc _).alloc _).alloc _⟩
    simp only [cut_zero]
    exact Blk.at (by simp)
  case round =>
    obtain ⟨k, hk, rfl, hba, hb0, hb1, hx⟩ := hrel
    have D := hide (And.intro hba (And.intro hb0 (And.intro hb1 hx)))
    clear hba hb0 hb1 hx
    by_cases hlt : k < ps.length
    · obtain ⟨b, off, rfl, hc⟩ := ((unhide HR).ext (unhide D).2.2.2).at k hlt
      have hck := hc k hlt
      clear hc
      have hq := (unhide HG).at k hlt
      rw [hq.1] at hck
      have hq4 := hq.2
      clear hq
      obtain ⟨q, hq⟩ : ∃ q, Hid (pl ps k = q) := ⟨pl ps k, hide rfl⟩
      rw [unhide hq] at hck hq4
      have hqi : (q : Int) < 4 := by omega
      have hki : (k : Int) < 4 := by omega
      have hk4 : k < 4 := by omega
      have ca := (unhide D).1.vec q hq4
      have c1 := (unhide D).2.2.1.vec k hk4
      have f1 := (unhide D).2.2.1.free k
      go_wp2
      go_roundw
      case rel =>
        refine ⟨k + 1, by omega, by go_num, (unhide D).1.other k _ (by omega), (unhide D).2.1.other k _ (by omega), ?_, ext_set (unhide D).2.2.2 (by omega)⟩
        have := (unhide D).2.2.1.set k (.int .i32 (f k))
        rw [cut_set f k hk4, unhide HE k, unhide hq] at this
        exact this
      case measure => simp [intOf]; omega
    · have hkn : k = ps.length := by omega
      rw [hkn] at D
      obtain ⟨c0, c1, c2, c3⟩ := (unhide D).2.2.1.vec4
      obtain ⟨r0, r1, r2, r3⟩ := (unhide D).2.1.vec4
      obtain ⟨f0, f1, f2, f3⟩ := (unhide D).2.1.free4
      clear hkn
      go_wp2
      obtain ⟨q0, q1, q2, q3⟩ := lay4 (unhide D).2.1 (.int .i32 (cut ps.length f 0)) (.int .i32 (cut ps.length f 1)) (.int .i32 (cut ps.length f 2)) (.int .i32 (cut ps.length f 3))
      refine bodyPost_ret (v := .agg #[.int .i32 (cut ps.length f 0), .int .i32 (cut ps.length f 1), .int .i32 (cut ps.length f 2), .int .i32 (cut ps.length f 3)]) (by simp [results, Try.results25, go_sem, q0, q1, q2, q3]) rfl ⟨rfl, ?_⟩
      exact ext_set4 (unhide D).2.2.2 (by omega)

set_option maxHeartbeats 2000000 in
theorem refPut_any (a f : Nat → Int) (ao : Option Addr) (cap : Nat) (ps : List Int) (w : World) (hrow : Row .i64 w (.slice ao ps.length cap) ps) (hg : Good ps) :
    Calls Try.prog 27 #[.agg #[.int .i32 (a 0), .int .i32 (a 1), .int .i32 (a 2), .int .i32 (a 3)], .agg #[.int .i32 (f 0), .int .i32 (f 1), .int .i32 (f 2), .int .i32 (f 3)], .slice ao ps.length cap] w fun e w' => e = .returned (.agg #[.int .i32 (layK a f ps ps.length 0), .int .i32 (layK a f ps ps.length 1), .int .i32 (layK a f ps ps.length 2), .int .i32 (layK a f ps ps.length 3)]) ∧ Ext w w' := by
  have HR := hide hrow
  have HG := hide hg
  have hl4 := hg.2.1
  have X0 : Hid (Ext w (((w.alloc (.cells #[.int .i32 (a 0), .int .i32 (a 1), .int .i32 (a 2), .int .i32 (a 3)] 24)).alloc (.cells #[.int .i32 (f 0), .int .i32 (f 1), .int .i32 (f 2), .int .i32 (f 3)] 24)).alloc (.cells #[.int .i32 0, .int .i32 0, .int .i32 0, .int .i32 0] 24))) := (((Ext.refl w).alloc _).alloc _).alloc _
  clear hrow hg
  go_enter Try.func27, Try.ntmps27
  go_wp2
  go_loopw [7] (fun i wr => ∃ k : Nat, k ≤ ps.length ∧ i = .int .i64 k ∧ Blk wr w.heap.size #[.int .i32 (layK a f ps k 0), .int .i32 (layK a f ps k 1), .int .i32 (layK a f ps k 2), .int .i32 (layK a f ps k 3)] 24 ∧ Blk wr (w.heap.size + 1) #[.int .i32 (f 0), .int .i32 (f 1), .int .i32 (f 2), .int .i32 (f 3)] 24 ∧ Blk wr (w.heap.size + 1 + 1) #[.int .i32 (nul 0), .int .i32 (nul 1), .int .i32 (nul 2), .int .i32 (nul 3)] 24 ∧ Ext w wr) (fun i _ => ps.length - (intOf i).toNat)
  case atStart => exact ⟨0, by omega, rfl, ((Blk.at rfl).alloc _).alloc _, (Blk.at (by simp)).alloc _, Blk.at (by simp), unhide X0⟩
  case round =>
    obtain ⟨k, hk, rfl, hb0, hb1, hb2, hx⟩ := hrel
    have D := hide (And.intro hb0 (And.intro hb1 (And.intro hb2 hx)))
    clear hb0 hb1 hb2 hx X0
    by_cases hlt : k < ps.length
    · obtain ⟨b, off, rfl, hc0⟩ := (unhide HR).at k hlt
      have hbw : b < w.heap.size := World.block_lt_of_cell? w _ (hc0 k hlt)
      have hck : wr.cell? ⟨b, off + k, none⟩ = some (.int .i64 ps[k]) := by rw [(unhide D).2.2.2.cell (p := ⟨b, off + k, none⟩) hbw]; exact hc0 k hlt
      clear hc0
      have hq := (unhide HG).at k hlt
      rw [hq.1] at hck
      have hq4 := hq.2
      clear hq
      obtain ⟨q, hq⟩ : ∃ q, Hid (pl ps k = q) := ⟨pl ps k, hide rfl⟩
      rw [unhide hq] at hck hq4
      have hqi : (q : Int) < 4 := by omega
      have hki : (k : Int) < 4 := by omega
      have c1 := (unhide D).2.1.vec k (by omega)
      have c0 := (unhide D).1.vec q hq4
      have f0 := (unhide D).1.free q
      have s1 : ∀ v, (wr.setCell ⟨w.heap.size, q, none⟩ v).cell? ⟨w.heap.size + 1, k, none⟩ = some (.int .i32 (f k)) := fun v => ((unhide D).2.1.other q v (by omega)).vec k (by omega)
      have s2 : ∀ v, (wr.setCell ⟨w.heap.size, q, none⟩ v).cell? ⟨b, off + k, none⟩ = some (.int .i64 q) := fun v => by
        rw [World.cell?_of_block (w := wr) (heap_setCell_other wr ⟨w.heap.size, q, none⟩ b v (by simp; omega))]
        exact hck
      go_wp2
      go_region_held3 (fun w' => w'.cell? ⟨b, off + k, none⟩ = some (.int .i64 q) ∧ w'.cell? ⟨w.heap.size + 1, k, none⟩ = some (.int .i32 (f k))) (first | go_keep | exact ⟨s2 _, s1 _⟩) (fail)
      go_wp2
      go_roundw
      case rel =>
        refine ⟨k + 1, by omega, by go_num, ?_, ((unhide D).2.1.other q _ (by omega)).drewN 1, ((unhide D).2.2.1.other q _ (by omega)).drewN 1, (ext_set (unhide D).2.2.2 (by omega)).drew⟩
        have := (unhide D).1.set q (.int .i32 (f k))
        rw [upd_set _ _ _ hq4, ← unhide hq] at this
        rw [← unhide hq]
        exact this
      case measure => simp [intOf]; omega
    · obtain rfl : k = ps.length := by omega
      obtain ⟨c0, c1, c2, c3⟩ := (unhide D).1.vec4
      obtain ⟨r0, r1, r2, r3⟩ := (unhide D).2.2.1.vec4
      obtain ⟨f0, f1, f2, f3⟩ := (unhide D).2.2.1.free4
      go_wp2
      obtain ⟨q0, q1, q2, q3⟩ := lay4 (unhide D).2.2.1 (.int .i32 (layK a f ps ps.length 0)) (.int .i32 (layK a f ps ps.length 1)) (.int .i32 (layK a f ps ps.length 2)) (.int .i32 (layK a f ps ps.length 3))
      refine bodyPost_ret (v := .agg #[.int .i32 (layK a f ps ps.length 0), .int .i32 (layK a f ps ps.length 1), .int .i32 (layK a f ps ps.length 2), .int .i32 (layK a f ps ps.length 3)]) (by simp [results, Try.results27, go_sem, q0, q1, q2, q3]) rfl ⟨rfl, ?_⟩
      exact ext_set4 (unhide D).2.2.2 (by omega)

end Go.Proofs.Ytlbcflfhbhpicaa
