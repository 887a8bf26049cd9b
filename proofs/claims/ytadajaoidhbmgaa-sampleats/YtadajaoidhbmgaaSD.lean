/-
  Colours: the walk of blend.
-/
import Derived.Test.YtadajaoidhbmgaaSC
namespace Go.Proofs.Ytadajaoidhbmgaa
open Go.RowKit
set_option linter.unusedVariables false
set_option linter.unusedSimpArgs false

/-- The four shares. -/
def shr4 (f g : Int) : Nat → Int
  | 0 => (65536 - f) * (65536 - g)
  | 1 => f * (65536 - g)
  | 2 => (65536 - f) * g
  | _ => f * g
/-- The sum, as far as it has come. -/
def psI (A S : Nat → Int) (c : Nat) : Nat → Int
  | 0 => 2147483648
  | j + 1 => psI A S c j + A (j * 4 + c) * S j
def linV (A : Nat → Int) (f g : Int) : Nat → Int := fun k => linI (A k) (A (4 + k)) (A (8 + k)) (A (12 + k)) f g
theorem shr_bd {f g : Int} (hf : 0 ≤ f ∧ f < 65536) (hg : 0 ≤ g ∧ g < 65536) (j : Nat) : 0 ≤ shr4 f g j ∧ shr4 f g j ≤ 4294967296 := by
  obtain ⟨a, b, c, d⟩ := shares hf hg
  have e := sh_sum f g
  rcases j with _ | _ | _ | j
  · show 0 ≤ (65536 - f) * (65536 - g) ∧ (65536 - f) * (65536 - g) ≤ _
    omega
  · show 0 ≤ f * (65536 - g) ∧ f * (65536 - g) ≤ _
    omega
  · show 0 ≤ (65536 - f) * g ∧ (65536 - f) * g ≤ _
    omega
  · show 0 ≤ f * g ∧ f * g ≤ _
    omega
theorem term_bd {a s : Int} (ha : 0 ≤ a ∧ a ≤ 65536) (hs : 0 ≤ s ∧ s ≤ 4294967296) : 0 ≤ a * s ∧ a * s ≤ 281474976710656 := by
  refine ⟨Int.mul_nonneg ha.1 hs.1, ?_⟩
  have := Int.mul_le_mul ha.2 hs.2 hs.1 (by omega)
  omega
theorem ps_bd {A S : Nat → Int} {c : Nat} (hc : c < 4) (hA : ∀ i, i < 16 → 0 ≤ A i ∧ A i ≤ 65536) (hS : ∀ j, 0 ≤ S j ∧ S j ≤ 4294967296) : ∀ j, j ≤ 4 → 0 ≤ psI A S c j ∧ psI A S c j ≤ 2147483648 + j * 281474976710656
  | 0, _ => by simp [psI]
  | j + 1, h => by
    have ih := ps_bd hc hA hS j (by omega)
    have t := term_bd (hA (j * 4 + c) (by omega)) (hS j)
    show 0 ≤ psI A S c j + A (j * 4 + c) * S j ∧ psI A S c j + A (j * 4 + c) * S j ≤ _
    omega
theorem ps_end (A : Nat → Int) (f g : Int) (c : Nat) : psI A (shr4 f g) c 4 / 4294967296 = linV A f g c := by
  unfold linV linI shS
  simp only [psI, shr4]
  congr 1
  simp only [Nat.zero_mul, Nat.zero_add, Nat.one_mul, Nat.reduceMul]
  omega
/-- Sixteen cells. -/
def six4 (A : Nat → Int) : Array Value := #[.int .i32 (A 0), .int .i32 (A 1), .int .i32 (A 2), .int .i32 (A 3), .int .i32 (A 4), .int .i32 (A 5), .int .i32 (A 6), .int .i32 (A 7), .int .i32 (A 8), .int .i32 (A 9), .int .i32 (A 10), .int .i32 (A 11), .int .i32 (A 12), .int .i32 (A 13), .int .i32 (A 14), .int .i32 (A 15)]
theorem Blk.six4 {w : World} {b : Nat} {A : Nat → Int} {t : TypeId} (h : Blk w b (six4 A) t) (k : Nat) (hk : k < 16) : w.cell? ⟨b, k, none⟩ = some (.int .i32 (A k)) := by
  refine h.cell ?_
  rcases (by omega : k = 0 ∨ k = 1 ∨ k = 2 ∨ k = 3 ∨ k = 4 ∨ k = 5 ∨ k = 6 ∨ k = 7 ∨ k = 8 ∨ k = 9 ∨ k = 10 ∨ k = 11 ∨ k = 12 ∨ k = 13 ∨ k = 14 ∨ k = 15) with rfl | rfl | rfl | rfl | rfl | rfl | rfl | rfl | rfl | rfl | rfl | rfl | rfl | rfl | rfl | rfl <;> rfl
def l64 (S : Nat → Int) : Array Value := #[.int .i64 (S 0), .int .i64 (S 1), .int .i64 (S 2), .int .i64 (S 3)]
theorem Blk.l64 {w : World} {b : Nat} {S : Nat → Int} {t : TypeId} (h : Blk w b (l64 S) t) (k : Nat) (hk : k < 4) : w.cell? ⟨b, k, none⟩ = some (.int .i64 (S k)) := by
  refine h.cell ?_
  rcases (by omega : k = 0 ∨ k = 1 ∨ k = 2 ∨ k = 3) with rfl | rfl | rfl | rfl <;> rfl
/-- The colour, as far as it has come. -/
def upTo (V : Nat → Int) (k : Nat) : Nat → Int := fun i => if i < k then V i else 0
theorem upTo_set (V : Nat → Int) (k : Nat) (hk : k < 4) : (#[.int .i32 ((upTo V k) 0), .int .i32 ((upTo V k) 1), .int .i32 ((upTo V k) 2), .int .i32 ((upTo V k) 3)] : Array Value).setIfInBounds k (.int .i32 (V k)) = #[.int .i32 ((upTo V (k + 1)) 0), .int .i32 ((upTo V (k + 1)) 1), .int .i32 ((upTo V (k + 1)) 2), .int .i32 ((upTo V (k + 1)) 3)] := by
  rcases (by omega : k = 0 ∨ k = 1 ∨ k = 2 ∨ k = 3) with rfl | rfl | rfl | rfl <;> rfl
structure BlS (w wr : World) (A : Nat → Int) (S V : Nat → Int) (k : Nat) : Prop where
  four : Blk wr w.heap.size (six4 A) 51
  res : Blk wr (w.heap.size + 1) #[.int .i32 0, .int .i32 0, .int .i32 0, .int .i32 0] 30
  sh : Blk wr (w.heap.size + 2) (l64 S) 64
  col : Blk wr (w.heap.size + 3) #[.int .i32 ((upTo V k) 0), .int .i32 ((upTo V k) 1), .int .i32 ((upTo V k) 2), .int .i32 ((upTo V k) 3)] 30
  ext : Ext w wr
theorem BlS.later {w wr w' : World} {A S V : Nat → Int} {k : Nat} (h : BlS w wr A S V k) (hx : Ext wr w') : BlS w w' A S V k := ⟨h.four.ext hx, h.res.ext hx, h.sh.ext hx, h.col.ext hx, h.ext.trans hx⟩
theorem BlS.put {w wr : World} {A S V : Nat → Int} {k : Nat} (h : BlS w wr A S V k) (hk : k < 4) : BlS w (wr.setCell ⟨w.heap.size + 3, k, none⟩ (.int .i32 (V k))) A S V (k + 1) := by
  refine ⟨h.four.other _ _ (by omega), h.res.other _ _ (by omega), h.sh.other _ _ (by omega), ?_, below_grown h.ext (grownBy_set _ _ _ _) h.ext.size (by omega)⟩
  have := h.col.set k (.int .i32 (V k))
  rw [upTo_set V k hk] at this
  exact this

set_option maxRecDepth 10000 in
set_option maxHeartbeats 4000000 in
theorem blend_any (A : Nat → Int) (f g : Int) (w : World) (hA : ∀ i, i < 16 → 0 ≤ A i ∧ A i ≤ 65536) (hf : 0 ≤ f ∧ f < 65536) (hg : 0 ≤ g ∧ g < 65536) :
    Calls Try.prog 20 #[.agg (six4 A), .int .i64 f, .int .i64 g] w fun e w' => e = .returned (.agg #[.int .i32 ((linV A f g) 0), .int .i32 ((linV A f g) 1), .int .i32 ((linV A f g) 2), .int .i32 ((linV A f g) 3)]) ∧ Ext w w' := by
  obtain ⟨a1, a2, a3, a4⟩ := shares hf hg
  have e9 := sh_sum f g
  have b1 := shr_bd hf hg 0
  have b2 := shr_bd hf hg 1
  have b3 := shr_bd hf hg 2
  have b4 := shr_bd hf hg 3
  simp only [shr4] at b1 b2 b3 b4
  have HS : Hid (∀ j, 0 ≤ shr4 f g j ∧ shr4 f g j ≤ 4294967296) := shr_bd hf hg
  have HA := hide hA
  have HE : Hid (∀ c, psI A (shr4 f g) c 4 / 4294967296 = linV A f g c) := ps_end A f g
  have H0 : Hid (BlS w ((((w.alloc (.cells #[.int .i32 (A 0), .int .i32 (A 1), .int .i32 (A 2), .int .i32 (A 3), .int .i32 (A 4), .int .i32 (A 5), .int .i32 (A 6), .int .i32 (A 7), .int .i32 (A 8), .int .i32 (A 9), .int .i32 (A 10), .int .i32 (A 11), .int .i32 (A 12), .int .i32 (A 13), .int .i32 (A 14), .int .i32 (A 15)] 51)).alloc (.cells #[.int .i32 0, .int .i32 0, .int .i32 0, .int .i32 0] 30)).alloc (.cells #[.int .i64 ((65536 - f) * (65536 - g)), .int .i64 (f * (65536 - g)), .int .i64 ((65536 - f) * g), .int .i64 (f * g)] 64)).alloc (.cells #[.int .i32 0, .int .i32 0, .int .i32 0, .int .i32 0] 30)) A (shr4 f g) (linV A f g) 0) :=
    ⟨(((Blk.new w #[.int .i32 (A 0), .int .i32 (A 1), .int .i32 (A 2), .int .i32 (A 3), .int .i32 (A 4), .int .i32 (A 5), .int .i32 (A 6), .int .i32 (A 7), .int .i32 (A 8), .int .i32 (A 9), .int .i32 (A 10), .int .i32 (A 11), .int .i32 (A 12), .int .i32 (A 13), .int .i32 (A 14), .int .i32 (A 15)] 51).alloc _).alloc _).alloc _, (Blk.alloc (Blk.at (by simp)) _).alloc _, Blk.alloc (Blk.at (cs := #[.int .i64 ((65536 - f) * (65536 - g)), .int .i64 (f * (65536 - g)), .int .i64 ((65536 - f) * g), .int .i64 (f * g)]) (by simp)) _, Blk.at (by simp), (((Ext.refl w).alloc _).alloc _).alloc _ |>.alloc _⟩
  obtain ⟨f1, f2⟩ := hf
  obtain ⟨g1, g2⟩ := hg
  clear hA
  unfold six4
  go_enter Try.func20, Try.ntmps20
  go_upto_region 3 with fail
  generalize (((w.alloc (.cells #[.int .i32 (A 0), .int .i32 (A 1), .int .i32 (A 2), .int .i32 (A 3), .int .i32 (A 4), .int .i32 (A 5), .int .i32 (A 6), .int .i32 (A 7), .int .i32 (A 8), .int .i32 (A 9), .int .i32 (A 10), .int .i32 (A 11), .int .i32 (A 12), .int .i32 (A 13), .int .i32 (A 14), .int .i32 (A 15)] 51)).alloc (.cells #[.int .i32 0, .int .i32 0, .int .i32 0, .int .i32 0] 30)).alloc (.cells #[.int .i64 ((65536 - f) * (65536 - g)), .int .i64 (f * (65536 - g)), .int .i64 ((65536 - f) * g), .int .i64 (f * g)] 64)).alloc (.cells #[.int .i32 0, .int .i32 0, .int .i32 0, .int .i32 0] 30) = w1 at H0 ⊢
  clear a1 a2 a3 a4 e9 b1 b2 b3 b4 f1 f2 g1 g2
  generalize shr4 f g = S at *
  obtain ⟨V, hV⟩ : ∃ V, V = linV A f g := ⟨_, rfl⟩
  have HVE := hide hV
  rw [← hV] at HE H0
  clear hV
  go_wp2_with fail
  go_loopw [29] (fun iv wr => ∃ k : Nat, k ≤ 4 ∧ iv = .int .i64 (k : Int) ∧ BlS w wr A S V k) (fun iv _ => 4 - (intOf iv).toNat)
  case atStart => exact ⟨0, by omega, rfl, unhide H0⟩
  case round =>
    clear H0
    obtain ⟨k, hk, rfl, hI⟩ := hrel
    have HI := hide hI
    clear hI
    by_cases hlt : k < 4
    · have hkn : (k : Int) < 4 := by omega
      go_wp2_with fail
      go_loopw [10, 32] (fun sv jv wx => ∃ j : Nat, j ≤ 4 ∧ jv = .int .i64 (j : Int) ∧ sv = .int .i64 (psI A S k j) ∧ Ext wr wx) (fun _ jv _ => 4 - (intOf jv).toNat)
      case atStart => exact ⟨0, by omega, rfl, rfl, Ext.refl _⟩
      case round =>
        obtain ⟨j, hj, rfl, rfl, hx⟩ := hrel
        have HX := hide hx
        clear hx
        by_cases hjl : j < 4
        · have hjn : (j : Int) < 4 := by omega
          have hI := (unhide HI).later (unhide HX)
          have c0 := hI.four.six4 (j * 4 + k) (by omega)
          have c1 := hI.sh.l64 j hjl
          have p1 := ps_bd hlt (unhide HA) (unhide HS) j (by omega)
          have p2 := term_bd (unhide HA (j * 4 + k) (by omega)) (unhide HS j)
          have p3 := unhide HA (j * 4 + k) (by omega)
          have p4 := unhide HS j
          have HP := hide (show psI A S k (j + 1) = psI A S k j + A (j * 4 + k) * S j from rfl)
          generalize psI A S k j = P at *
          generalize A (j * 4 + k) = a at *
          generalize S j = sj at *
          have g1 : IntKind.i64.wrap (a * sj) = a * sj := by simp [IntKind.wrap, IntKind.bits, IntKind.signed]; omega
          have g2 : IntKind.i64.wrap (P + a * sj) = P + a * sj := by simp [IntKind.wrap, IntKind.bits, IntKind.signed]; omega
          have g3 : IntKind.i64.wrap a = a := by simp [IntKind.wrap, IntKind.bits, IntKind.signed]; omega
          clear hI
          go_upto_region 10 with fail
          go_quiet (fail)
          go_wp2
          go_roundw
          case rel => exact ⟨j + 1, by omega, by go_num, by rw [unhide HP], (unhide HX).trans ((Ext.refl _).drewN _)⟩
          case measure => simp [intOf]; omega
        · have hjn : ¬ (j : Int) < 4 := by omega
          obtain rfl : j = 4 := by omega
          have hI := (unhide HI).later (unhide HX)
          have p1 := ps_bd hlt (unhide HA) (unhide HS) 4 (by omega)
          have HV : Hid (rawI (psI A S k 4 / 4294967296) = V k) := by
            show _ = _
            rw [← unhide HE k]
            exact rawI_id ⟨by omega, by omega⟩
          have H9 := hide (hI.put hlt)
          have c0 := hI.col.free k
          have c1 := hI.col.vec k hlt
          generalize psI A S k 4 = P at *
          clear hI
          go_wp2_with fail
          refine (raw_any _ _).mono ?_
          rintro e w5 ⟨rfl, rfl⟩
          rw [unhide HV]
          go_wp2
          go_roundw
          case rel => exact ⟨k + 1, by omega, by go_num, unhide H9⟩
          case measure => simp [intOf]; omega
    · have hkn : ¬ (k : Int) < 4 := by omega
      obtain rfl : k = 4 := by omega
      have hI := unhide HI
      obtain ⟨v0, v1, v2, v3⟩ := hI.col.vecs
      simp only [upTo] at v0 v1 v2 v3
      rw [if_pos (by omega)] at v0 v1 v2 v3
      obtain ⟨r0, r1, r2, r3⟩ := hI.res.four
      obtain ⟨f0, f1, f2, f3, _⟩ := hI.res.frees
      have hR2 := hI.res.put4 (.int .i32 (V 0)) (.int .i32 (V 1)) (.int .i32 (V 2)) (.int .i32 (V 3))
      have hX := ext_put4 (b := w.heap.size + 1) (a0 := .int .i32 (V 0)) (a1 := .int .i32 (V 1)) (a2 := .int .i32 (V 2)) (a3 := .int .i32 (V 3)) hI.ext (by omega)
      have H9 := hide (And.intro hR2 hX)
      clear hI hR2 hX
      go_wp2
      obtain ⟨t0, t1, t2, t3⟩ := (unhide H9).1.four
      refine bodyPost_ret (v := .agg #[.int .i32 (V 0), .int .i32 (V 1), .int .i32 (V 2), .int .i32 (V 3)]) (by simp [results, Try.results20, go_sem, t0, t1, t2, t3]) rfl ⟨by rw [unhide HVE], (unhide H9).2⟩
end Go.Proofs.Ytadajaoidhbmgaa
