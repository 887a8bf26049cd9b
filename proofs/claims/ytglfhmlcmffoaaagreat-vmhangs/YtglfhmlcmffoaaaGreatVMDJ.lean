/- Several texts in one. -/
import Derived.Test.YtglfhmlcmffoaaaGreatVMBJ
import Derived.Test.YtglfhmlcmffoaaaGreatCB
import Derived.Deep.Cut
import Derived.Test.YtglfhmlcmffoaaaGreatLemJ
import Derived.BigQuiet
import Derived.Deep.MidRow
import Derived.Deep.WholeRow
import Derived.Great.BuildSlice
import Derived.Laws.CopyOwn
/-
  The machine of registers: what a function does (done), Do. Written by mkvmd.py.
-/
namespace Go.Proofs.YtglfhmlcmffoaaaGreat
open Go.RowKit
set_option linter.unusedVariables false
set_option linter.unusedSimpArgs false

set_option maxRecDepth 10000 in
set_option maxHeartbeats 2000000 in
theorem eqX_any (ao ap : Option Addr) (cap cbp : Nat) (xs ys : List Int) (w : World) (hr : Row .i32 w (.slice ao xs.length cap) xs) (hs : Row .i32 w (.slice ap ys.length cbp) ys) :
    Calls Tryz.prog 66 #[.slice ao xs.length cap, .slice ap ys.length cbp] w fun e w' => e = .returned (.bool (decide (xs = ys))) ∧ Ext w w' := by
  have hcp : xs.length ≤ cap ∧ cap ≤ 9223372036854775807 ∧ ys.length ≤ cbp ∧ cbp ≤ 9223372036854775807 := by
    obtain ⟨_, _, e9, _, h9, h10⟩ := hr.shape
    cases e9
    obtain ⟨_, _, e9, _, h11, h12⟩ := hs.shape
    cases e9
    unfold maxLen at h10 h12
    exact ⟨h9, by omega, h11, by omega⟩
  obtain ⟨hc1, hc2, hc3, hc4⟩ := hcp
  have HR := hide hr
  have HS := hide hs
  clear hr hs
  by_cases el : xs.length = ys.length
  case neg =>
    have E := hide (decide_eq_false (fun c : xs = ys => el (by rw [c])))
    have d0 : ((xs.length : Int) != (ys.length : Int)) = true := by simp; omega
    clear el
    go_enter Tryz.func66, Tryz.ntmps66
    go_wp2
    go_ret
    rw [unhide E]
    exact ⟨rfl, Ext.refl _⟩
  case pos =>
  have HL := hide el
  rw [← el] at HS hc3 ⊢
  clear el
  go_enter Tryz.func66, Tryz.ntmps66
  go_wp2
  go_loopw [13] (fun iv wr => ∃ k n : Nat, k ≤ xs.length ∧ iv = .int .i64 (k : Int) ∧ wr = w.drewN n ∧ xs.take k = ys.take k) (fun iv _ => xs.length - (intOf iv).toNat)
  case atStart => exact ⟨0, 0, Nat.zero_le _, rfl, rfl, by simp⟩
  case round =>
    obtain ⟨k, n, hk, rfl, rfl, htk⟩ := hrel
    have HT := hide htk
    by_cases hlt : k < xs.length
    · have hkn : (k : Int) < (xs.length : Int) := by omega
      have hkM : k < ys.length := by rw [← unhide HL]; exact hlt
      obtain ⟨b, off, ea, hc⟩ := (unhide HR).at k hlt
      obtain ⟨b', off', ea', hc'⟩ := (unhide HS).at k hkM
      subst ea
      subst ea'
      have c0 := hc k hlt
      have c0' := hc' k (by first | exact hkM | exact hlt)
      have HNE : Hid (xs[k] ≠ ys[k] → decide (xs = ys) = false) := fun hne => decide_eq_false fun c => hne (by subst c; rfl)
      have HEQ : Hid (xs[k] = ys[k] → xs.take (k + 1) = ys.take (k + 1)) := fun heq => by
        rw [List.take_succ_eq_append_getElem hlt, List.take_succ_eq_append_getElem hkM, unhide HT, heq]
      generalize xs[k] = x at *
      generalize ys[k] = y at *
      clear hc hc' htk
      by_cases d : x = y
      case neg =>
        have E := hide (unhide HNE d)
        have d0 : (x != y) = true := by simp [d]
        clear HNE HEQ d
        go_upto_region 6 with fail
        go_quiet (fail)
        go_wp2
        go_ret
        rw [unhide E]
        exact ⟨rfl, ((Ext.refl w).drewN n).drewN _⟩
      case pos =>
        have E := hide (unhide HEQ d)
        subst d
        clear HNE HEQ
        go_upto_region 6 with fail
        go_quiet (fail)
        go_wp2
        go_roundw
        case rel => exact ⟨k + 1, n + nq, by omega, by go_num, by first | rfl | exact drewN_drewN _ _ _, unhide E⟩
        case measure => simp [intOf]; omega
    · obtain rfl : k = xs.length := by omega
      have E := hide (decide_eq_true (show xs = ys by
        have h1 := unhide HT
        rw [List.take_of_length_le (by omega), List.take_of_length_le (by rw [unhide HL]; omega)] at h1
        exact h1))
      clear htk HT
      go_wp2
      go_ret
      rw [unhide E]
      exact ⟨rfl, (Ext.refl w).drewN n⟩

def l4 (a : Nat → Int) : List Int := [a 0, a 1, a 2, a 3]
/-- Are the first n numbers the same? -/
def sameN (n : Int) (a b : Nat → Int) : Bool := decide ((l4 a).take n.toNat = (l4 b).take n.toNat)
theorem row4 {w : World} {b m : Nat} {a : Nat → Int} {t : TypeId} (h : Blk w b #[.int .i32 (a 0), .int .i32 (a 1), .int .i32 (a 2), .int .i32 (a 3)] t) (h1 : 1 ≤ m) (h4 : m ≤ 4) : Row .i32 w (.slice (some ⟨b, 0, none⟩) ((l4 a).take m).length 4) ((l4 a).take m) := by
  have hl : ((l4 a).take m).length = m := by simp [l4]; omega
  refine .inr ⟨fun e => by rw [e] at hl; simp at hl; omega, b, 0, 4, rfl, by omega, by unfold maxLen; decide, fun i hi => ?_⟩
  rw [hl] at hi
  rw [Nat.zero_add, h.vec i (by omega)]
  have : ((l4 a).take m).getD i 0 = a i := by
    rw [List.getD_eq_getElem?_getD, List.getElem?_take_of_lt hi]
    rcases (by omega : i = 0 ∨ i = 1 ∨ i = 2 ∨ i = 3) with rfl | rfl | rfl | rfl <;> rfl
  rw [this]
theorem len4 (a : Nat → Int) (m : Nat) (h4 : m ≤ 4) : ((l4 a).take m).length = m := by simp [l4]; omega
/-- slices.Equal of the first m numbers of two vectors. -/
theorem equal4_any (m : Nat) (a b : Nat → Int) (ba bb : Nat) (t : TypeId) (w : World) (h1 : 1 ≤ m) (h4 : m ≤ 4) (ha : Blk w ba #[.int .i32 (a 0), .int .i32 (a 1), .int .i32 (a 2), .int .i32 (a 3)] t) (hb : Blk w bb #[.int .i32 (b 0), .int .i32 (b 1), .int .i32 (b 2), .int .i32 (b 3)] t) :
    Calls Tryz.prog 66 #[.slice (some ⟨ba, 0, none⟩) m 4, .slice (some ⟨bb, 0, none⟩) m 4] w fun e w' => e = .returned (.bool (sameN m a b)) ∧ Ext w w' := by
  have := eqX_any (some ⟨ba, 0, none⟩) (some ⟨bb, 0, none⟩) 4 4 ((l4 a).take m) ((l4 b).take m) w (row4 ha h1 h4) (row4 hb h1 h4)
  rw [len4 a m h4, len4 b m h4] at this
  exact this

/-- What a function does (of which there is one). -/
def doI (fn base n : Int) (a b c : Nat → Int) : Nat → Int :=
  if fn = 29 then truI (decide (a 0 < b 0)) else if fn = 30 then truI (decide (b 0 < a 0)) else if fn = 31 then truI (decide (a 0 ≤ b 0)) else if fn = 32 then truI (decide (b 0 ≤ a 0))
  else if fn = 33 then truI (sameN n a b) else if fn = 34 then truI (!sameN n a b) else if fn = 35 then truI (a 0 == 0)
  else if base = 2 then oiI fn n a b else ofI fn n a b c

set_option maxRecDepth 10000 in
set_option maxHeartbeats 8000000 in
theorem done_any (fn base n : Int) (a b c : Nat → Int) (w : World) (h1 : 1 ≤ n) (h4 : n ≤ 4) (Ia : ∀ i, I32 (a i)) (Ib : ∀ i, I32 (b i)) (Ic : ∀ i, I32 (c i)) :
    Calls Tryz.prog 39 #[.int .i64 fn, .int .i64 base, .int .i64 n, .agg #[.int .i32 (a 0), .int .i32 (a 1), .int .i32 (a 2), .int .i32 (a 3)], .agg #[.int .i32 (b 0), .int .i32 (b 1), .int .i32 (b 2), .int .i32 (b 3)], .agg #[.int .i32 (c 0), .int .i32 (c 1), .int .i32 (c 2), .int .i32 (c 3)]] w fun e w' => e = .returned (.agg #[.int .i32 (doI fn base n a b c 0), .int .i32 (doI fn base n a b c 1), .int .i32 (doI fn base n a b c 2), .int .i32 (doI fn base n a b c 3)]) ∧ Ext w w' := by
  have HI := hide (And.intro Ia (And.intro Ib Ic))
  clear Ia Ib Ic
  obtain ⟨m, rfl⟩ : ∃ m : Nat, n = (m : Int) := ⟨n.toNat, by omega⟩
  have HM := hide (show 1 ≤ m ∧ m ≤ 4 from ⟨by omega, by omega⟩)
  have hm0 : (0 : Int) ≤ (m : Int) := by omega
  have HB := hide (show Blk ((((w.alloc (.cells #[.int .i32 (a 0), .int .i32 (a 1), .int .i32 (a 2), .int .i32 (a 3)] 28)).alloc (.cells #[.int .i32 (b 0), .int .i32 (b 1), .int .i32 (b 2), .int .i32 (b 3)] 28)).alloc (.cells #[.int .i32 (c 0), .int .i32 (c 1), .int .i32 (c 2), .int .i32 (c 3)] 28)).alloc (.cells #[.int .i32 (nul 0), .int .i32 (nul 1), .int .i32 (nul 2), .int .i32 (nul 3)] 28)) (w.heap.size + 1 + 1 + 1) #[.int .i32 (nul 0), .int .i32 (nul 1), .int .i32 (nul 2), .int .i32 (nul 3)] 28 ∧ Ext w ((((w.alloc (.cells #[.int .i32 (a 0), .int .i32 (a 1), .int .i32 (a 2), .int .i32 (a 3)] 28)).alloc (.cells #[.int .i32 (b 0), .int .i32 (b 1), .int .i32 (b 2), .int .i32 (b 3)] 28)).alloc (.cells #[.int .i32 (c 0), .int .i32 (c 1), .int .i32 (c 2), .int .i32 (c 3)] 28)).alloc (.cells #[.int .i32 (nul 0), .int .i32 (nul 1), .int .i32 (nul 2), .int .i32 (nul 3)] 28)) from ⟨Blk.at (by simp), (((((Ext.refl w).alloc _).alloc _).alloc _).alloc _)⟩)
  have HAB := hide (show Blk ((((w.alloc (.cells #[.int .i32 (a 0), .int .i32 (a 1), .int .i32 (a 2), .int .i32 (a 3)] 28)).alloc (.cells #[.int .i32 (b 0), .int .i32 (b 1), .int .i32 (b 2), .int .i32 (b 3)] 28)).alloc (.cells #[.int .i32 (c 0), .int .i32 (c 1), .int .i32 (c 2), .int .i32 (c 3)] 28)).alloc (.cells #[.int .i32 (nul 0), .int .i32 (nul 1), .int .i32 (nul 2), .int .i32 (nul 3)] 28)) (w.heap.size) #[.int .i32 (a 0), .int .i32 (a 1), .int .i32 (a 2), .int .i32 (a 3)] 28 ∧ Blk ((((w.alloc (.cells #[.int .i32 (a 0), .int .i32 (a 1), .int .i32 (a 2), .int .i32 (a 3)] 28)).alloc (.cells #[.int .i32 (b 0), .int .i32 (b 1), .int .i32 (b 2), .int .i32 (b 3)] 28)).alloc (.cells #[.int .i32 (c 0), .int .i32 (c 1), .int .i32 (c 2), .int .i32 (c 3)] 28)).alloc (.cells #[.int .i32 (nul 0), .int .i32 (nul 1), .int .i32 (nul 2), .int .i32 (nul 3)] 28)) (w.heap.size + 1) #[.int .i32 (b 0), .int .i32 (b 1), .int .i32 (b 2), .int .i32 (b 3)] 28 from ⟨(((Blk.new w _ _).alloc _).alloc _).alloc _, ((Blk.at (by simp)).alloc _).alloc _⟩)
  by_cases e29 : fn = 29
  case pos =>
    subst e29
    have E : Hid (doI 29 base (m : Int) a b c = (truI (decide (a 0 < b 0)))) := rfl
    go_enter Tryz.func39, Tryz.ntmps39
    go_wp2_with (go_at_call 65; refine (truth_any (decide (a 0 < b 0)) _).mono ?_; rintro e w1 ⟨rfl, hx⟩; have R := hide (And.intro ((unhide HB).1.ext hx) ((unhide HB).2.trans hx)); clear hx HB; obtain ⟨r0, r1, r2, r3⟩ := (unhide R).1.vec4; obtain ⟨f0, f1, f2, f3⟩ := (unhide R).1.free4)
    obtain ⟨q0, q1, q2, q3⟩ := lay4 (unhide R).1 (.int .i32 ((truI (decide (a 0 < b 0))) 0)) (.int .i32 ((truI (decide (a 0 < b 0))) 1)) (.int .i32 ((truI (decide (a 0 < b 0))) 2)) (.int .i32 ((truI (decide (a 0 < b 0))) 3))
    refine bodyPost_ret (v := .agg #[.int .i32 ((truI (decide (a 0 < b 0))) 0), .int .i32 ((truI (decide (a 0 < b 0))) 1), .int .i32 ((truI (decide (a 0 < b 0))) 2), .int .i32 ((truI (decide (a 0 < b 0))) 3)]) (by simp [results, Tryz.results39, go_sem, q0, q1, q2, q3]) rfl ⟨by rw [unhide E], ext_set4 (unhide R).2 (by omega)⟩
  case neg =>
  have d29 : (fn == 29) = false := by simp [e29]
  by_cases e30 : fn = 30
  case pos =>
    subst e30
    have E : Hid (doI 30 base (m : Int) a b c = (truI (decide (b 0 < a 0)))) := rfl
    go_enter Tryz.func39, Tryz.ntmps39
    go_wp2_with (go_at_call 65; refine (truth_any (decide (b 0 < a 0)) _).mono ?_; rintro e w1 ⟨rfl, hx⟩; have R := hide (And.intro ((unhide HB).1.ext hx) ((unhide HB).2.trans hx)); clear hx HB; obtain ⟨r0, r1, r2, r3⟩ := (unhide R).1.vec4; obtain ⟨f0, f1, f2, f3⟩ := (unhide R).1.free4)
    obtain ⟨q0, q1, q2, q3⟩ := lay4 (unhide R).1 (.int .i32 ((truI (decide (b 0 < a 0))) 0)) (.int .i32 ((truI (decide (b 0 < a 0))) 1)) (.int .i32 ((truI (decide (b 0 < a 0))) 2)) (.int .i32 ((truI (decide (b 0 < a 0))) 3))
    refine bodyPost_ret (v := .agg #[.int .i32 ((truI (decide (b 0 < a 0))) 0), .int .i32 ((truI (decide (b 0 < a 0))) 1), .int .i32 ((truI (decide (b 0 < a 0))) 2), .int .i32 ((truI (decide (b 0 < a 0))) 3)]) (by simp [results, Tryz.results39, go_sem, q0, q1, q2, q3]) rfl ⟨by rw [unhide E], ext_set4 (unhide R).2 (by omega)⟩
  case neg =>
  have d30 : (fn == 30) = false := by simp [e30]
  by_cases e31 : fn = 31
  case pos =>
    subst e31
    have E : Hid (doI 31 base (m : Int) a b c = (truI (decide (a 0 ≤ b 0)))) := rfl
    go_enter Tryz.func39, Tryz.ntmps39
    go_wp2_with (go_at_call 65; refine (truth_any (decide (a 0 ≤ b 0)) _).mono ?_; rintro e w1 ⟨rfl, hx⟩; have R := hide (And.intro ((unhide HB).1.ext hx) ((unhide HB).2.trans hx)); clear hx HB; obtain ⟨r0, r1, r2, r3⟩ := (unhide R).1.vec4; obtain ⟨f0, f1, f2, f3⟩ := (unhide R).1.free4)
    obtain ⟨q0, q1, q2, q3⟩ := lay4 (unhide R).1 (.int .i32 ((truI (decide (a 0 ≤ b 0))) 0)) (.int .i32 ((truI (decide (a 0 ≤ b 0))) 1)) (.int .i32 ((truI (decide (a 0 ≤ b 0))) 2)) (.int .i32 ((truI (decide (a 0 ≤ b 0))) 3))
    refine bodyPost_ret (v := .agg #[.int .i32 ((truI (decide (a 0 ≤ b 0))) 0), .int .i32 ((truI (decide (a 0 ≤ b 0))) 1), .int .i32 ((truI (decide (a 0 ≤ b 0))) 2), .int .i32 ((truI (decide (a 0 ≤ b 0))) 3)]) (by simp [results, Tryz.results39, go_sem, q0, q1, q2, q3]) rfl ⟨by rw [unhide E], ext_set4 (unhide R).2 (by omega)⟩
  case neg =>
  have d31 : (fn == 31) = false := by simp [e31]
  by_cases e32 : fn = 32
  case pos =>
    subst e32
    have E : Hid (doI 32 base (m : Int) a b c = (truI (decide (b 0 ≤ a 0)))) := rfl
    go_enter Tryz.func39, Tryz.ntmps39
    go_wp2_with (go_at_call 65; refine (truth_any (decide (b 0 ≤ a 0)) _).mono ?_; rintro e w1 ⟨rfl, hx⟩; have R := hide (And.intro ((unhide HB).1.ext hx) ((unhide HB).2.trans hx)); clear hx HB; obtain ⟨r0, r1, r2, r3⟩ := (unhide R).1.vec4; obtain ⟨f0, f1, f2, f3⟩ := (unhide R).1.free4)
    obtain ⟨q0, q1, q2, q3⟩ := lay4 (unhide R).1 (.int .i32 ((truI (decide (b 0 ≤ a 0))) 0)) (.int .i32 ((truI (decide (b 0 ≤ a 0))) 1)) (.int .i32 ((truI (decide (b 0 ≤ a 0))) 2)) (.int .i32 ((truI (decide (b 0 ≤ a 0))) 3))
    refine bodyPost_ret (v := .agg #[.int .i32 ((truI (decide (b 0 ≤ a 0))) 0), .int .i32 ((truI (decide (b 0 ≤ a 0))) 1), .int .i32 ((truI (decide (b 0 ≤ a 0))) 2), .int .i32 ((truI (decide (b 0 ≤ a 0))) 3)]) (by simp [results, Tryz.results39, go_sem, q0, q1, q2, q3]) rfl ⟨by rw [unhide E], ext_set4 (unhide R).2 (by omega)⟩
  case neg =>
  have d32 : (fn == 32) = false := by simp [e32]
  by_cases e33 : fn = 33
  case pos =>
    subst e33
    have E : Hid (doI 33 base (m : Int) a b c = (truI (sameN (m : Int) a b))) := rfl
    have HE := hide (fun wx (hx : Ext ((((w.alloc (.cells #[.int .i32 (a 0), .int .i32 (a 1), .int .i32 (a 2), .int .i32 (a 3)] 28)).alloc (.cells #[.int .i32 (b 0), .int .i32 (b 1), .int .i32 (b 2), .int .i32 (b 3)] 28)).alloc (.cells #[.int .i32 (c 0), .int .i32 (c 1), .int .i32 (c 2), .int .i32 (c 3)] 28)).alloc (.cells #[.int .i32 (nul 0), .int .i32 (nul 1), .int .i32 (nul 2), .int .i32 (nul 3)] 28)) wx) => equal4_any m a b _ _ 28 wx (unhide HM).1 (unhide HM).2 ((unhide HAB).1.ext hx) ((unhide HAB).2.ext hx))
    generalize sameN (m : Int) a b = sm at *
    go_enter Tryz.func39, Tryz.ntmps39
    go_wp2
    go_region_with (first
      | (go_at_call 66; refine (unhide HE _ ((Ext.refl _).drew)).mono ?_; rintro e w5 ⟨rfl, hx5⟩; have X5 := hide (((Ext.refl _).drew).trans hx5); clear hx5)
      | (go_at_call 65; refine (truth_any _ _).mono ?_; rintro e w1 ⟨rfl, hx6⟩; have hx := (unhide X5).trans hx6; have R := hide (And.intro ((unhide HB).1.ext hx) ((unhide HB).2.trans hx)); clear hx hx6 HB; obtain ⟨r0, r1, r2, r3⟩ := (unhide R).1.vec4; obtain ⟨f0, f1, f2, f3⟩ := (unhide R).1.free4))
    all_goals
      go_wp2
      obtain ⟨q0, q1, q2, q3⟩ := lay4 (unhide R).1 (.int .i32 ((truI sm) 0)) (.int .i32 ((truI sm) 1)) (.int .i32 ((truI sm) 2)) (.int .i32 ((truI sm) 3))
      refine bodyPost_ret (v := .agg #[.int .i32 ((truI sm) 0), .int .i32 ((truI sm) 1), .int .i32 ((truI sm) 2), .int .i32 ((truI sm) 3)]) (by simp [results, Tryz.results39, go_sem, q0, q1, q2, q3]) rfl ⟨by rw [unhide E], ext_set4 (unhide R).2 (by omega)⟩
  case neg =>
  have d33 : (fn == 33) = false := by simp [e33]
  by_cases e34 : fn = 34
  case pos =>
    subst e34
    have E : Hid (doI 34 base (m : Int) a b c = (truI (!sameN (m : Int) a b))) := rfl
    have HE := hide (fun wx (hx : Ext ((((w.alloc (.cells #[.int .i32 (a 0), .int .i32 (a 1), .int .i32 (a 2), .int .i32 (a 3)] 28)).alloc (.cells #[.int .i32 (b 0), .int .i32 (b 1), .int .i32 (b 2), .int .i32 (b 3)] 28)).alloc (.cells #[.int .i32 (c 0), .int .i32 (c 1), .int .i32 (c 2), .int .i32 (c 3)] 28)).alloc (.cells #[.int .i32 (nul 0), .int .i32 (nul 1), .int .i32 (nul 2), .int .i32 (nul 3)] 28)) wx) => equal4_any m a b _ _ 28 wx (unhide HM).1 (unhide HM).2 ((unhide HAB).1.ext hx) ((unhide HAB).2.ext hx))
    generalize sameN (m : Int) a b = sm at *
    go_enter Tryz.func39, Tryz.ntmps39
    go_wp2
    go_region_with (first
      | (go_at_call 66; refine (unhide HE _ ((Ext.refl _).drew)).mono ?_; rintro e w5 ⟨rfl, hx5⟩; have X5 := hide (((Ext.refl _).drew).trans hx5); clear hx5)
      | (go_at_call 65; refine (truth_any _ _).mono ?_; rintro e w1 ⟨rfl, hx6⟩; have hx := (unhide X5).trans hx6; have R := hide (And.intro ((unhide HB).1.ext hx) ((unhide HB).2.trans hx)); clear hx hx6 HB; obtain ⟨r0, r1, r2, r3⟩ := (unhide R).1.vec4; obtain ⟨f0, f1, f2, f3⟩ := (unhide R).1.free4))
    all_goals
      go_wp2
      obtain ⟨q0, q1, q2, q3⟩ := lay4 (unhide R).1 (.int .i32 ((truI (!sm)) 0)) (.int .i32 ((truI (!sm)) 1)) (.int .i32 ((truI (!sm)) 2)) (.int .i32 ((truI (!sm)) 3))
      refine bodyPost_ret (v := .agg #[.int .i32 ((truI (!sm)) 0), .int .i32 ((truI (!sm)) 1), .int .i32 ((truI (!sm)) 2), .int .i32 ((truI (!sm)) 3)]) (by simp [results, Tryz.results39, go_sem, q0, q1, q2, q3]) rfl ⟨by rw [unhide E], ext_set4 (unhide R).2 (by omega)⟩
  case neg =>
  have d34 : (fn == 34) = false := by simp [e34]
  by_cases e35 : fn = 35
  case pos =>
    subst e35
    have E : Hid (doI 35 base (m : Int) a b c = (truI (a 0 == 0))) := rfl
    go_enter Tryz.func39, Tryz.ntmps39
    go_wp2_with (go_at_call 65; refine (truth_any (a 0 == 0) _).mono ?_; rintro e w1 ⟨rfl, hx⟩; have R := hide (And.intro ((unhide HB).1.ext hx) ((unhide HB).2.trans hx)); clear hx HB; obtain ⟨r0, r1, r2, r3⟩ := (unhide R).1.vec4; obtain ⟨f0, f1, f2, f3⟩ := (unhide R).1.free4)
    obtain ⟨q0, q1, q2, q3⟩ := lay4 (unhide R).1 (.int .i32 ((truI (a 0 == 0)) 0)) (.int .i32 ((truI (a 0 == 0)) 1)) (.int .i32 ((truI (a 0 == 0)) 2)) (.int .i32 ((truI (a 0 == 0)) 3))
    refine bodyPost_ret (v := .agg #[.int .i32 ((truI (a 0 == 0)) 0), .int .i32 ((truI (a 0 == 0)) 1), .int .i32 ((truI (a 0 == 0)) 2), .int .i32 ((truI (a 0 == 0)) 3)]) (by simp [results, Tryz.results39, go_sem, q0, q1, q2, q3]) rfl ⟨by rw [unhide E], ext_set4 (unhide R).2 (by omega)⟩
  case neg =>
  have d35 : (fn == 35) = false := by simp [e35]
  by_cases e2 : base = 2
  case pos =>
    subst e2
    have E : Hid (doI fn 2 (m : Int) a b c = oiI fn (m : Int) a b) := by unfold doI; rw [if_neg e29, if_neg e30, if_neg e31, if_neg e32, if_neg e33, if_neg e34, if_neg e35, if_pos rfl]; trivial
    clear e29 e30 e31 e32 e33 e34 e35
    go_enter Tryz.func39, Tryz.ntmps39
    go_wp2_with (go_at_call 67; refine (ofInts_any fn (m : Int) a b _ h1 h4 (unhide HI).1 (unhide HI).2.1).mono ?_; rintro e w1 ⟨rfl, hx⟩; have R := hide (And.intro ((unhide HB).1.ext hx) ((unhide HB).2.trans hx)); clear hx HB; obtain ⟨r0, r1, r2, r3⟩ := (unhide R).1.vec4; obtain ⟨f0, f1, f2, f3⟩ := (unhide R).1.free4)
    obtain ⟨q0, q1, q2, q3⟩ := lay4 (unhide R).1 (.int .i32 ((oiI fn (m : Int) a b) 0)) (.int .i32 ((oiI fn (m : Int) a b) 1)) (.int .i32 ((oiI fn (m : Int) a b) 2)) (.int .i32 ((oiI fn (m : Int) a b) 3))
    refine bodyPost_ret (v := .agg #[.int .i32 ((oiI fn (m : Int) a b) 0), .int .i32 ((oiI fn (m : Int) a b) 1), .int .i32 ((oiI fn (m : Int) a b) 2), .int .i32 ((oiI fn (m : Int) a b) 3)]) (by simp [results, Tryz.results39, go_sem, q0, q1, q2, q3]) rfl ⟨by rw [unhide E], ext_set4 (unhide R).2 (by omega)⟩
  case neg =>
  have E : Hid (doI fn base (m : Int) a b c = ofI fn (m : Int) a b c) := by unfold doI; rw [if_neg e29, if_neg e30, if_neg e31, if_neg e32, if_neg e33, if_neg e34, if_neg e35, if_neg e2]; trivial
  have d2 : (base == 2) = false := by simp [e2]
  clear e2 e29 e30 e31 e32 e33 e34 e35
  go_enter Tryz.func39, Tryz.ntmps39
  go_wp2_with (go_at_call 68; refine (ofFloats_any fn (m : Int) a b c _ h1 h4 (unhide HI).1 (unhide HI).2.1 (unhide HI).2.2).mono ?_; rintro e w1 ⟨rfl, hx⟩; have R := hide (And.intro ((unhide HB).1.ext hx) ((unhide HB).2.trans hx)); clear hx HB; obtain ⟨r0, r1, r2, r3⟩ := (unhide R).1.vec4; obtain ⟨f0, f1, f2, f3⟩ := (unhide R).1.free4)
  obtain ⟨q0, q1, q2, q3⟩ := lay4 (unhide R).1 (.int .i32 ((ofI fn (m : Int) a b c) 0)) (.int .i32 ((ofI fn (m : Int) a b c) 1)) (.int .i32 ((ofI fn (m : Int) a b c) 2)) (.int .i32 ((ofI fn (m : Int) a b c) 3))
  refine bodyPost_ret (v := .agg #[.int .i32 ((ofI fn (m : Int) a b c) 0), .int .i32 ((ofI fn (m : Int) a b c) 1), .int .i32 ((ofI fn (m : Int) a b c) 2), .int .i32 ((ofI fn (m : Int) a b c) 3)]) (by simp [results, Tryz.results39, go_sem, q0, q1, q2, q3]) rfl ⟨by rw [unhide E], ext_set4 (unhide R).2 (by omega)⟩

theorem cnt4_any (n : Int) (w : World) : Calls Tryz.prog 38 #[.int .i64 n] w fun e w' => e = .returned (.bool (cntB n)) ∧ w' = w := by
  by_cases h1 : 1 ≤ n
  · by_cases h4 : n ≤ 4
    · have E : Hid (cntB n = true) := by unfold cntB; rw [decide_eq_true h1, decide_eq_true h4]; trivial
      go_enter Tryz.func38, Tryz.ntmps38
      go_wp2
      go_ret
      exact ⟨by rw [unhide E] <;> rfl, rfl⟩
    · have E : Hid (cntB n = false) := by unfold cntB; rw [decide_eq_false h4, Bool.and_false]; trivial
      go_enter Tryz.func38, Tryz.ntmps38
      go_wp2
      go_ret
      exact ⟨by rw [unhide E] <;> rfl, rfl⟩
  · have E : Hid (cntB n = false) := by unfold cntB; rw [decide_eq_false h1]; trivial
    go_enter Tryz.func38, Tryz.ntmps38
    go_wp2
    go_ret
    exact ⟨by rw [unhide E] <;> rfl, rfl⟩
end Go.Proofs.YtglfhmlcmffoaaaGreat

/-
  The machine of registers: conversions (conversion, converted, Convert) and Do. What the dump lacks is left out.
-/
namespace Go.Proofs.YtglfhmlcmffoaaaGreat
open Go.RowKit
set_option linter.unusedVariables false
set_option linter.unusedSimpArgs false

/-- A number of one base as one of another. -/
def cvI (f t : Int) (x : Int) : Int :=
  if f = t ∨ (f = 3 ∧ t = 2) then x else if t = 3 then (if x = 0 then 0 else 1) else if t = 2 then w32 (x.tdiv 65536) else if f = 2 then rawI (65536 * x) else if x = 0 then 0 else 65536
theorem cvI_i32 (f t : Int) {x : Int} (h : I32 x) : I32 (cvI f t x) := by
  unfold cvI
  split; exact h
  split; (unfold I32; split <;> omega)
  split; exact w32_i32 _
  split; exact rawI_i32 _
  unfold I32; split <;> omega
/-- The function that converts. -/
def cvF (f t : Int) : FuncId :=
  if f = t ∨ (f = 3 ∧ t = 2) then 157 else if t = 3 then 158 else if t = 2 then 159 else if f = 2 then 160 else 162

theorem cv1_any (x : Int) (w : World) : Calls Tryz.prog 157 #[.int .i32 x] w fun e w' => e = .returned (.int .i32 x) ∧ Ext w w' := by
  go_enter Tryz.func157, Tryz.ntmps157
  go_wp2
  go_ret
  exact ⟨rfl, Ext.refl _⟩
theorem index0 (p : Nat → Int) (w : World) : (Instr.index 28 (.agg #[.int .i32 (p 0), .int .i32 (p 1), .int .i32 (p 2), .int .i32 (p 3)]) (.int .i64 0)).run Tryz.prog w = .ok (.int .i32 (p 0)) w := index4 p 0 (by omega) w
set_option maxRecDepth 10000 in
theorem cv2_any (x : Int) (w : World) : Calls Tryz.prog 158 #[.int .i32 x] w fun e w' => e = .returned (.int .i32 (if x = 0 then 0 else 1)) ∧ Ext w w' := by
  have HE : Hid ((if x = 0 then (0 : Int) else 1) = truI (x != 0) 0) := by
    by_cases h : x = 0 <;> simp [Hid, truI, h]
  generalize (if x = 0 then (0 : Int) else 1) = y at *
  go_enter Tryz.func158, Tryz.ntmps158
  go_wp2_with (go_at_call 65; refine (truth_any _ _).mono ?_; rintro e w1 ⟨rfl, hx⟩; have X := hide hx; clear hx; have hi := index0 (truI (x != 0)) w1)
  go_ret
  rw [unhide HE]
  exact ⟨rfl, unhide X⟩
theorem cv3_any (x : Int) (w : World) : Calls Tryz.prog 159 #[.int .i32 x] w fun e w' => e = .returned (.int .i32 (w32 (x.tdiv 65536))) ∧ Ext w w' := by
  go_enter Tryz.func159, Tryz.ntmps159
  go_wp2
  go_ret
  exact ⟨by first | rfl | simp [w32], Ext.refl _⟩
theorem cv4_any (x : Int) (w : World) (h : I32 x) : Calls Tryz.prog 160 #[.int .i32 x] w fun e w' => e = .returned (.int .i32 (rawI (65536 * x))) ∧ Ext w w' := by
  have h1 : -9223372036854775808 ≤ x := by unfold I32 at h; omega
  have h2 : x ≤ 9223372036854775807 := by unfold I32 at h; omega
  clear h
  go_enter Tryz.func160, Tryz.ntmps160
  go_wp2_with (go_at_call 161; refine (of_any x _).mono ?_; rintro e w1 ⟨rfl, rfl⟩)
  go_ret
  exact ⟨rfl, Ext.refl _⟩
set_option maxRecDepth 10000 in
theorem cv5_any (x : Int) (w : World) : Calls Tryz.prog 162 #[.int .i32 x] w fun e w' => e = .returned (.int .i32 (if x = 0 then 0 else 65536)) ∧ Ext w w' := by
  have HE : Hid ((if x = 0 then (0 : Int) else 65536) = rawI (65536 * truI (x != 0) 0)) := by
    by_cases h : x = 0 <;> simp [Hid, truI, h, rawI, clampI] <;> decide
  have hb : (0 : Int) ≤ truI (x != 0) 0 ∧ truI (x != 0) 0 ≤ 1 := by
    cases (x != 0) <;> simp [truI]
  generalize (if x = 0 then (0 : Int) else 65536) = y at *
  go_enter Tryz.func162, Tryz.ntmps162
  go_wp2_with (first
    | (go_at_call 65; refine (truth_any _ _).mono ?_; rintro e w1 ⟨rfl, hx⟩; have X := hide hx; clear hx; have hi := index0 (truI (x != 0)) w1)
    | (go_at_call 161; refine (of_any (truI (x != 0) 0) _).mono ?_; rintro e w2 ⟨rfl, rfl⟩))
  go_ret
  rw [unhide HE]
  exact ⟨rfl, unhide X⟩
theorem cvF_enters (f t : Int) : ∀ args w, (callFunc (cvF f t) args).run Tryz.prog w = .ok (.enter (cvF f t) args) w := by
  unfold cvF
  split
  · exact enters_of Tryz.func157 (by kernel_rfl) rfl
  split
  · exact enters_of Tryz.func158 (by kernel_rfl) rfl
  split
  · exact enters_of Tryz.func159 (by kernel_rfl) rfl
  split
  · exact enters_of Tryz.func160 (by kernel_rfl) rfl
  · exact enters_of Tryz.func162 (by kernel_rfl) rfl
theorem cvF_does (f t : Int) (x : Int) (w : World) (h : I32 x) : Calls Tryz.prog (cvF f t) #[.int .i32 x] w fun e w' => e = .returned (.int .i32 (cvI f t x)) ∧ Ext w w' := by
  unfold cvF cvI
  by_cases h1 : f = t ∨ (f = 3 ∧ t = 2)
  · rw [if_pos h1, if_pos h1]; exact cv1_any x w
  rw [if_neg h1, if_neg h1]
  by_cases h2 : t = 3
  · rw [if_pos h2, if_pos h2]; exact cv2_any x w
  rw [if_neg h2, if_neg h2]
  by_cases h3 : t = 2
  · rw [if_pos h3, if_pos h3]; exact cv3_any x w
  rw [if_neg h3, if_neg h3]
  by_cases h4 : f = 2
  · rw [if_pos h4, if_pos h4]; exact cv4_any x w h
  rw [if_neg h4, if_neg h4]
  exact cv5_any x w

set_option maxHeartbeats 1000000 in
theorem conversion_any (f t : Int) (w : World) : Calls Tryz.prog 118 #[.int .i64 f, .int .i64 t] w fun e w' => e = .returned (.func (.func (cvF f t)) #[] #[]) ∧ w' = w := by
  have E := hide (show cvF f t = if f = t ∨ (f = 3 ∧ t = 2) then 157 else if t = 3 then 158 else if t = 2 then 159 else if f = 2 then 160 else 162 from rfl)
  by_cases h1 : f = t
  · have E2 : Hid (cvF f t = 157) := by rw [Hid, unhide E, if_pos (.inl h1)]
    clear E
    subst h1
    go_enter Tryz.func118, Tryz.ntmps118
    go_wp2
    go_ret
    exact ⟨by rw [unhide E2] <;> rfl, rfl⟩
  have d1 : (f == t) = false := by simp [h1]
  by_cases h2 : t = 3
  · have E2 : Hid (cvF f t = 158) := by rw [Hid, unhide E, if_neg (by omega), if_pos h2]
    clear E
    subst h2
    have d2 : (f == 3) = false := by simp [h1]
    go_enter Tryz.func118, Tryz.ntmps118
    go_wp2
    go_ret
    exact ⟨by rw [unhide E2] <;> rfl, rfl⟩
  have d2 : (t == 3) = false := by simp [h2]
  by_cases h3 : t = 2
  · by_cases h4 : f = 3
    · have E2 : Hid (cvF f t = 157) := by rw [Hid, unhide E, if_pos (.inr ⟨h4, h3⟩)]
      clear E
      subst h3 h4
      go_enter Tryz.func118, Tryz.ntmps118
      go_wp2
      go_ret
      exact ⟨by rw [unhide E2] <;> rfl, rfl⟩
    · have E2 : Hid (cvF f t = 159) := by rw [Hid, unhide E, if_neg (by omega), if_neg h2, if_pos h3]
      clear E
      subst h3
      have d4 : (f == 3) = false := by simp [h4]
      go_enter Tryz.func118, Tryz.ntmps118
      go_wp2
      go_ret
      exact ⟨by rw [unhide E2] <;> rfl, rfl⟩
  have d3 : (t == 2) = false := by simp [h3]
  by_cases h4 : f = 2
  · have E2 : Hid (cvF f t = 160) := by rw [Hid, unhide E, if_neg (by omega), if_neg h2, if_neg h3, if_pos h4]
    clear E
    subst h4
    go_enter Tryz.func118, Tryz.ntmps118
    go_wp2
    go_ret
    exact ⟨by rw [unhide E2] <;> rfl, rfl⟩
  have d4 : (f == 2) = false := by simp [h4]
  have E2 : Hid (cvF f t = 162) := by rw [Hid, unhide E, if_neg (by omega), if_neg h2, if_neg h3, if_neg h4]
  clear E
  by_cases h5 : f = 3
  · subst h5
    go_enter Tryz.func118, Tryz.ntmps118
    go_wp2
    go_ret
    exact ⟨by rw [unhide E2] <;> rfl, rfl⟩
  · have d5 : (f == 3) = false := by simp [h5]
    go_enter Tryz.func118, Tryz.ntmps118
    go_wp2
    go_ret
    exact ⟨by rw [unhide E2] <;> rfl, rfl⟩

set_option maxRecDepth 10000 in
set_option maxHeartbeats 2000000 in
theorem converted_any (f t n : Int) (a : Nat → Int) (w : World) (h1 : 1 ≤ n) (h4 : n ≤ 4) (Ia : ∀ i, I32 (a i)) :
    Calls Tryz.prog 72 #[.int .i64 f, .int .i64 t, .int .i64 n, .agg #[.int .i32 (a 0), .int .i32 (a 1), .int .i32 (a 2), .int .i32 (a 3)]] w fun e w' => e = .returned (.agg #[.int .i32 (cut n (fun i => cvI f t (a i)) 0), .int .i32 (cut n (fun i => cvI f t (a i)) 1), .int .i32 (cut n (fun i => cvI f t (a i)) 2), .int .i32 (cut n (fun i => cvI f t (a i)) 3)]) ∧ Ext w w' := by
  have HI := hide Ia
  clear Ia
  have HB := hide (show Blk ((w.alloc (.cells #[.int .i32 (a 0), .int .i32 (a 1), .int .i32 (a 2), .int .i32 (a 3)] 28)).alloc (.cells #[.int .i32 (nul 0), .int .i32 (nul 1), .int .i32 (nul 2), .int .i32 (nul 3)] 28)) (w.heap.size + 1) #[.int .i32 (nul 0), .int .i32 (nul 1), .int .i32 (nul 2), .int .i32 (nul 3)] 28 ∧ Ext w ((w.alloc (.cells #[.int .i32 (a 0), .int .i32 (a 1), .int .i32 (a 2), .int .i32 (a 3)] 28)).alloc (.cells #[.int .i32 (nul 0), .int .i32 (nul 1), .int .i32 (nul 2), .int .i32 (nul 3)] 28)) from ⟨Blk.at (by simp), ((Ext.refl w).alloc _).alloc _⟩)
  go_enter Tryz.func72, Tryz.ntmps72
  go_wp2
  go_region_with (first
    | (go_at_call 118; refine (conversion_any f t _).mono ?_; rintro e w5 ⟨rfl, rfl⟩)
    | (go_at_call 104; refine (byOne_any n (cvF f t) (cvI f t) a _ h1 h4 (cvF_enters f t) (fun x W hx => cvF_does f t x W hx) (unhide HI)).mono ?_; rintro e w1 ⟨rfl, hx⟩; have R := hide (And.intro ((unhide HB).1.ext (((Ext.refl _).drew).trans hx)) ((unhide HB).2.trans (((Ext.refl _).drew).trans hx))); clear hx HB; obtain ⟨r0, r1, r2, r3⟩ := (unhide R).1.vec4; obtain ⟨f0, f1, f2, f3⟩ := (unhide R).1.free4))
  all_goals
    go_wp2
    obtain ⟨q0, q1, q2, q3⟩ := lay4 (unhide R).1 (.int .i32 (cut n (fun i => cvI f t (a i)) 0)) (.int .i32 (cut n (fun i => cvI f t (a i)) 1)) (.int .i32 (cut n (fun i => cvI f t (a i)) 2)) (.int .i32 (cut n (fun i => cvI f t (a i)) 3))
    refine bodyPost_ret (v := .agg #[.int .i32 (cut n (fun i => cvI f t (a i)) 0), .int .i32 (cut n (fun i => cvI f t (a i)) 1), .int .i32 (cut n (fun i => cvI f t (a i)) 2), .int .i32 (cut n (fun i => cvI f t (a i)) 3)]) (by simp [results, Tryz.results72, go_sem, q0, q1, q2, q3]) rfl ⟨rfl, ext_set4 (unhide R).2 (by omega)⟩

/-- What Convert answers: the numbers, and the error. -/
def cnvI (f t n : Int) (a : Nat → Int) : Nat → Int := if baseB f && (baseB t && cntB n) then cut n (fun i => cvI f t (a i)) else nul
def cnvE (f t n : Int) : Int := if baseB f && (baseB t && cntB n) then 0 else 2
theorem cntB_in {n : Int} (h : cntB n = true) : 1 ≤ n ∧ n ≤ 4 := by
  unfold cntB at h
  simp at h
  omega

/-- What Do answers. -/
def doV (fn base n : Int) (a b c : Nat → Int) : Nat → Int := if argsP fn base = 0 ∨ cntB n = false then nul else doI fn base n a b c
def doE (fn base n : Int) : Int := if argsP fn base = 0 ∨ cntB n = false then 2 else 0
set_option maxRecDepth 10000 in
set_option maxHeartbeats 2000000 in
theorem do_any (fn base n : Int) (a b c : Nat → Int) (w : World) (Ia : ∀ i, I32 (a i)) (Ib : ∀ i, I32 (b i)) (Ic : ∀ i, I32 (c i)) :
    Calls Tryz.prog 24 #[.int .i64 fn, .int .i64 base, .int .i64 n, .agg #[.int .i32 (a 0), .int .i32 (a 1), .int .i32 (a 2), .int .i32 (a 3)], .agg #[.int .i32 (b 0), .int .i32 (b 1), .int .i32 (b 2), .int .i32 (b 3)], .agg #[.int .i32 (c 0), .int .i32 (c 1), .int .i32 (c 2), .int .i32 (c 3)]] w fun e w' => e = .returned (.tuple #[.agg #[.int .i32 (doV fn base n a b c 0), .int .i32 (doV fn base n a b c 1), .int .i32 (doV fn base n a b c 2), .int .i32 (doV fn base n a b c 3)], .int .i64 (doE fn base n)]) ∧ Ext w w' := by
  have HB := hide (show Blk ((((w.alloc (.cells #[.int .i32 (a 0), .int .i32 (a 1), .int .i32 (a 2), .int .i32 (a 3)] 28)).alloc (.cells #[.int .i32 (b 0), .int .i32 (b 1), .int .i32 (b 2), .int .i32 (b 3)] 28)).alloc (.cells #[.int .i32 (c 0), .int .i32 (c 1), .int .i32 (c 2), .int .i32 (c 3)] 28)).alloc (.cells #[.int .i32 (nul 0), .int .i32 (nul 1), .int .i32 (nul 2), .int .i32 (nul 3)] 28)) (w.heap.size + 1 + 1 + 1) #[.int .i32 (nul 0), .int .i32 (nul 1), .int .i32 (nul 2), .int .i32 (nul 3)] 28 ∧ Ext w ((((w.alloc (.cells #[.int .i32 (a 0), .int .i32 (a 1), .int .i32 (a 2), .int .i32 (a 3)] 28)).alloc (.cells #[.int .i32 (b 0), .int .i32 (b 1), .int .i32 (b 2), .int .i32 (b 3)] 28)).alloc (.cells #[.int .i32 (c 0), .int .i32 (c 1), .int .i32 (c 2), .int .i32 (c 3)] 28)).alloc (.cells #[.int .i32 (nul 0), .int .i32 (nul 1), .int .i32 (nul 2), .int .i32 (nul 3)] 28)) from ⟨Blk.at (by simp), ((((Ext.refl w).alloc _).alloc _).alloc _).alloc _⟩)
  have HI := hide (And.intro Ia (And.intro Ib Ic))
  have E := hide (show doV fn base n a b c = (if argsP fn base = 0 ∨ cntB n = false then nul else doI fn base n a b c) from rfl)
  have E2 := hide (show doE fn base n = (if argsP fn base = 0 ∨ cntB n = false then 2 else 0) from rfl)
  have H1 := hide (fun wx => args_any fn base wx)
  have H3 := hide (fun wx => cnt4_any n wx)
  have HC := hide (fun (h : cntB n = true) wx => done_any fn base n a b c wx (cntB_in h).1 (cntB_in h).2 (unhide HI).1 (unhide HI).2.1 (unhide HI).2.2)
  clear Ia Ib Ic HI
  generalize doV fn base n a b c = y at *
  generalize doE fn base n = z at *
  generalize doI fn base n a b c = u at *
  generalize argsP fn base = k at *
  generalize cntB n = b3 at *
  by_cases hk : k = 0
  · subst hk
    go_enter Tryz.func24, Tryz.ntmps24
    go_wp2_with (first | (go_at_call 37; with_reducible refine (unhide H1 _).mono ?_; rintro e w1 ⟨rfl, rfl⟩))
    refine bodyPost_ret (v := .tuple #[.agg #[.int .i32 (nul 0), .int .i32 (nul 1), .int .i32 (nul 2), .int .i32 (nul 3)], .int .i64 2]) (by simp [results, Tryz.results24, go_sem, nul]) rfl ⟨by rw [unhide E, unhide E2]; rfl, ?_⟩
    exact (unhide HB).2
  have hk0 : ((k : Int) == 0) = false := by simp [hk]
  cases b3
  case false =>
    go_enter Tryz.func24, Tryz.ntmps24
    go_wp2_with (first | (go_at_call 37; with_reducible refine (unhide H1 _).mono ?_; rintro e w1 ⟨rfl, rfl⟩) | (go_at_call 38; with_reducible refine (unhide H3 _).mono ?_; rintro e w1 ⟨rfl, rfl⟩))
    refine bodyPost_ret (v := .tuple #[.agg #[.int .i32 (nul 0), .int .i32 (nul 1), .int .i32 (nul 2), .int .i32 (nul 3)], .int .i64 2]) (by simp [results, Tryz.results24, go_sem, nul]) rfl ⟨by rw [unhide E, unhide E2, if_pos (by simp), if_pos (by simp)], ?_⟩
    exact (unhide HB).2
  case true =>
    have HC9 := hide (unhide HC rfl)
    clear HC
    have E9 : Hid (y = u) := by rw [Hid, unhide E, if_neg (by simp [hk])]
    have E8 : Hid (z = 0) := by rw [Hid, unhide E2, if_neg (by simp [hk])]
    clear hk E E2
    go_enter Tryz.func24, Tryz.ntmps24
    go_wp2_with (first | (go_at_call 37; with_reducible refine (unhide H1 _).mono ?_; rintro e w1 ⟨rfl, rfl⟩) | (go_at_call 38; with_reducible refine (unhide H3 _).mono ?_; rintro e w1 ⟨rfl, rfl⟩) | (go_at_call 39; refine (unhide HC9 _).mono ?_; rintro e w1 ⟨rfl, hx⟩; have R := hide (And.intro ((unhide HB).1.ext hx) ((unhide HB).2.trans hx)); clear hx HB; obtain ⟨r0, r1, r2, r3⟩ := (unhide R).1.vec4; obtain ⟨f0, f1, f2, f3⟩ := (unhide R).1.free4))
    obtain ⟨q0, q1, q2, q3⟩ := lay4 (unhide R).1 (.int .i32 (u 0)) (.int .i32 (u 1)) (.int .i32 (u 2)) (.int .i32 (u 3))
    refine bodyPost_ret (v := .tuple #[.agg #[.int .i32 (u 0), .int .i32 (u 1), .int .i32 (u 2), .int .i32 (u 3)], .int .i64 0]) (by simp [results, Tryz.results24, go_sem, q0, q1, q2, q3]) rfl ⟨by rw [unhide E9, unhide E8], ext_set4 (unhide R).2 (by omega)⟩
end Go.Proofs.YtglfhmlcmffoaaaGreat

/-
  Plain facts on bytes as numbers. Nothing here speaks of the program.
-/
namespace Go.Proofs.YtglfhmlcmffoaaaGreat
open Go.RowKit

/-- The number of bytes, the lowest first. -/
def numOf : List Int → Int
  | [] => 0
  | x :: r => x + 256 * numOf r

theorem numOf_snoc (l : List Int) (c : Int) : numOf (l ++ [c]) = numOf l + 256 ^ l.length * c := by
  induction l with
  | nil => simp [numOf]
  | cons x r ih =>
    simp only [List.cons_append, numOf, ih, List.length_cons, Int.pow_succ]
    rw [Int.mul_add, Int.mul_comm (256 ^ r.length) 256, Int.mul_assoc, Int.add_assoc]

theorem numOf_bound (l : List Int) (h : Byt l) : 0 ≤ numOf l ∧ numOf l < 256 ^ l.length := by
  induction l with
  | nil => simp [numOf]
  | cons x r ih =>
    have h1 := ih (fun y hy => h y (by simp [hy]))
    have h2 := h x (by simp)
    simp only [numOf, List.length_cons, Int.pow_succ]
    omega

theorem or_nat (x c k : Nat) (hx : x < 2 ^ k) (hc : c * 2 ^ k < 4294967296) (hx2 : x < 4294967296) : bits .or .u32 (x : Int) ((c * 2 ^ k : Nat) : Int) = ((x + c * 2 ^ k : Nat) : Int) := by
  rw [u32_or_nat x (c * 2 ^ k) hx2 hc]
  congr 1
  rw [Nat.or_comm, Nat.mul_comm, ← Nat.two_pow_add_eq_or_of_lt hx, Nat.add_comm]

theorem or_step (x c : Int) (k : Nat) (hk : k < 4) (h0 : 0 ≤ x) (hx : x < 256 ^ k) (hc0 : 0 ≤ c) (hc : c ≤ 255) :
    bits .or .u32 x (c % 4294967296 * 2 ^ (8 * k) % 4294967296) = x + 256 ^ k * c := by
  obtain ⟨X, rfl⟩ := Int.eq_ofNat_of_zero_le h0
  obtain ⟨C, rfl⟩ := Int.eq_ofNat_of_zero_le hc0
  have key : ∀ j : Nat, (X : Int) < 2 ^ j → 2 ^ j ≤ 16777216 → bits .or .u32 (X : Int) ((C : Int) % 4294967296 * 2 ^ j % 4294967296) = (X : Int) + 2 ^ j * (C : Int) := by
    intro j hj h16
    have hj' : X < 2 ^ j := by
      have : ((2 ^ j : Nat) : Int) = (2 : Int) ^ j := by simp
      omega
    have hC : C * 2 ^ j ≤ 255 * 2 ^ j := Nat.mul_le_mul_right _ (by omega)
    have e : ((C : Int) % 4294967296 * 2 ^ j % 4294967296) = ((C * 2 ^ j : Nat) : Int) := by
      have e1 : (C : Int) % 4294967296 = (C : Int) := Int.emod_eq_of_lt (by omega) (by omega)
      rw [e1]
      have e2 : (C : Int) * 2 ^ j = ((C * 2 ^ j : Nat) : Int) := by simp
      rw [e2, Int.emod_eq_of_lt (by omega) (by omega)]
    rw [e, or_nat X C j hj' (by omega) (by omega)]
    simp [Int.mul_comm]
  have e256 : (256 : Int) ^ k = 2 ^ (8 * k) := by rw [Int.pow_mul]; rfl
  rw [e256]
  refine key (8 * k) (by rw [← e256]; exact hx) ?_
  have : 2 ^ (8 * k) ≤ 2 ^ 24 := Nat.pow_le_pow_right (by decide) (by omega)
  simpa using this

theorem take_snoc (l : List Int) (k : Nat) (h : k < l.length) : l.take (k + 1) = l.take k ++ [l[k]] := List.take_succ_eq_append_getElem h

theorem num_step (cs : List Int) (k : Nat) (hlt : k < cs.length) (h4 : cs.length ≤ 4) (hB : Byt cs) :
    bits .or .u32 (numOf (cs.take k)) (cs[k] % 4294967296 * 2 ^ (8 * k) % 4294967296) = numOf (cs.take (k + 1)) := by
  have hb := numOf_bound (cs.take k) (fun x hx => hB x (List.mem_of_mem_take hx))
  have hl : (cs.take k).length = k := by simp; omega
  rw [hl] at hb
  have hc := hB cs[k] (List.getElem_mem hlt)
  rw [or_step _ _ k (by omega) hb.1 hb.2 hc.1 hc.2, take_snoc cs k hlt, numOf_snoc, hl]

/-- The signed number, half of whose range is h. -/
def sgn (h x : Int) : Int := if x < h then x else x - 2 * h

theorem sgn8 {x : Int} (h0 : 0 ≤ x) (h1 : x < 256) : IntKind.i8.wrap x = sgn 128 x := by
  simp only [IntKind.wrap, IntKind.bits, IntKind.signed, sgn, show ((2 : Int) ^ 8) = 256 from rfl, show ((2 : Int) ^ (8 - 1)) = 128 from rfl, Bool.true_and, decide_eq_true_eq, Int.emod_eq_of_lt h0 h1]
  split <;> split <;> omega
theorem sgn16 {x : Int} (h0 : 0 ≤ x) (h1 : x < 65536) : IntKind.i16.wrap x = sgn 32768 x := by
  simp only [IntKind.wrap, IntKind.bits, IntKind.signed, sgn, show ((2 : Int) ^ 16) = 65536 from rfl, show ((2 : Int) ^ (16 - 1)) = 32768 from rfl, Bool.true_and, decide_eq_true_eq, Int.emod_eq_of_lt h0 h1]
  split <;> split <;> omega
theorem sgn32 {x : Int} (h0 : 0 ≤ x) (h1 : x < 4294967296) : wrap32 x = sgn 2147483648 x := by unfold wrap32 sgn; split <;> omega
theorem ret_int {k : IntKind} {a b : Int} (h : a = b) : Ending.returned (.int k a) = .returned (.int k b) := by rw [h]
theorem numOf_le (l : List Int) (h : Byt l) (n : Nat) (hn : l.length ≤ n) : 0 ≤ numOf l ∧ numOf l < 256 ^ n := by
  have h1 := numOf_bound l h
  refine ⟨h1.1, Int.lt_of_lt_of_le h1.2 ?_⟩
  have h2 : 256 ^ l.length ≤ 256 ^ n := Nat.pow_le_pow_right (by decide) hn
  have h3 := Int.ofNat_le.2 h2
  simpa using h3

/-- A number's bytes, so many, the lowest first. -/
def low (x : Int) : Nat → List Int
  | 0 => []
  | n + 1 => x % 256 :: low (x / 256) n

theorem low_length (x : Int) (n : Nat) : (low x n).length = n := by
  induction n generalizing x with
  | zero => rfl
  | succ n ih => simp [low, ih]
theorem low_byt (x : Int) (n : Nat) : Byt (low x n) := by
  induction n generalizing x with
  | zero => intro y hy; cases hy
  | succ n ih =>
    intro y hy
    rcases List.mem_cons.1 hy with rfl | hy
    · omega
    · exact ih _ y hy
theorem low_snoc (x : Int) (n : Nat) : low x (n + 1) = low x n ++ [x / 256 ^ n % 256] := by
  induction n generalizing x with
  | zero => simp [low]
  | succ n ih =>
    rw [low, ih, low, List.cons_append, Int.pow_succ, Int.mul_comm (256 ^ n) 256, ← Int.ediv_ediv_of_nonneg (by omega)]

theorem set_mid (l : List Int) (m : Nat) (c : Int) (hm : 0 < m) : (l ++ List.replicate m 0).set l.length c = l ++ [c] ++ List.replicate (m - 1) 0 := by
  obtain ⟨j, rfl⟩ : ∃ j, m = j + 1 := ⟨m - 1, by omega⟩
  rw [List.set_append_right _ _ (Nat.le_refl _), Nat.sub_self, List.replicate_succ, List.set_cons_zero, Nat.add_sub_cancel, List.append_assoc]
  rfl
theorem low_mod16 (x : Int) : low (x % 65536) 2 = low x 2 := by
  simp only [low, List.cons.injEq, and_true]
  omega
end Go.Proofs.YtglfhmlcmffoaaaGreat

/-
  Pixels: the bits of a number, the number of bits (numbers alone), and the walks of the program's full, isWidth, bitsOf, numberOf, Bits, Number, and of the document's power, Bits, Number. What the dump lacks is left out.
-/
namespace Go.Proofs.YtglfhmlcmffoaaaGreat
open Go.RowKit

/-- All of k bits set. -/
def fullI (k : Nat) : Int := 2 ^ k - 1
/-- The bits of the number of raw x, k of them. -/
def bitsI (x : Int) (k : Nat) : Int := (clampI x 0 65536 * fullI k + 32768) / 65536
/-- The number of the bits x. -/
def numI (x : Int) (k : Nat) : Int := (x * 65536 + fullI k / 2) / fullI k

theorem full_pos {k : Nat} (h1 : 1 ≤ k) (h2 : k ≤ 16) : 1 ≤ fullI k ∧ fullI k ≤ 65535 := by
  unfold fullI
  have a : 2 ^ 1 ≤ 2 ^ k := Nat.pow_le_pow_right (by decide) h1
  have b : 2 ^ k ≤ 2 ^ 16 := Nat.pow_le_pow_right (by decide) h2
  have e : (2 : Int) ^ k = ((2 ^ k : Nat) : Int) := by simp
  omega
theorem full_nonneg {k : Nat} (h2 : k ≤ 16) : 0 ≤ fullI k ∧ fullI k ≤ 65535 := by
  by_cases h : 1 ≤ k
  · have := full_pos h h2; omega
  · obtain rfl : k = 0 := by omega
    decide

theorem clamp_mul {x m : Int} (h0 : 0 ≤ m) : 0 ≤ clampI x 0 65536 * m ∧ clampI x 0 65536 * m ≤ 65536 * m := by
  have a : 0 ≤ clampI x 0 65536 := by unfold clampI; omega
  have b : clampI x 0 65536 ≤ 65536 := by unfold clampI; omega
  exact ⟨Int.mul_nonneg a h0, Int.mul_le_mul_of_nonneg_right b h0⟩

theorem bits_bound {k : Nat} (x : Int) (h2 : k ≤ 16) : 0 ≤ bitsI x k ∧ bitsI x k ≤ fullI k := by
  have h := full_nonneg h2
  have c := clamp_mul (x := x) h.1
  unfold bitsI
  omega

theorem num_bound {x : Int} {k : Nat} (h1 : 1 ≤ k) (h2 : k ≤ 16) (h0 : 0 ≤ x) (hx : x ≤ fullI k) : 0 ≤ numI x k ∧ numI x k ≤ 65536 := by
  have h := full_pos h1 h2
  unfold numI
  generalize fullI k = m at *
  refine ⟨Int.ediv_nonneg (by omega) (by omega), ?_⟩
  have : (x * 65536 + m / 2) / m < 65537 := Int.ediv_lt_of_lt_mul (by omega) (by omega)
  omega

/-- The bits of the number of bits are these. -/
theorem bits_num {x : Int} {k : Nat} (h1 : 1 ≤ k) (h2 : k ≤ 16) (h0 : 0 ≤ x) (hx : x ≤ fullI k) : bitsI (numI x k) k = x := by
  have h := full_pos h1 h2
  have b := num_bound h1 h2 h0 hx
  have e : clampI (numI x k) 0 65536 = numI x k := by unfold clampI; omega
  unfold bitsI
  rw [e]
  unfold numI at *
  generalize fullI k = m at *
  have d1 := Int.mul_ediv_add_emod (x * 65536 + m / 2) m
  have d2 := Int.emod_nonneg (x * 65536 + m / 2) (show m ≠ 0 by omega)
  have d3 := Int.emod_lt_of_pos (x * 65536 + m / 2) (show 0 < m by omega)
  rw [Int.mul_comm] at d1
  generalize (x * 65536 + m / 2) / m * m = q at *
  omega

theorem bits_rise {x y : Int} {k : Nat} (h2 : k ≤ 16) (h : x ≤ y) : bitsI x k ≤ bitsI y k := by
  have m := full_nonneg h2
  unfold bitsI
  have c : clampI x 0 65536 ≤ clampI y 0 65536 := by unfold clampI; omega
  have := Int.mul_le_mul_of_nonneg_right c m.1
  omega
theorem bits_zero (k : Nat) : bitsI 0 k = 0 := by
  have e : clampI 0 0 65536 = 0 := by decide
  unfold bitsI
  rw [e]
  omega
theorem bits_one (k : Nat) : bitsI 65536 k = fullI k := by
  have e : clampI 65536 0 65536 = 65536 := by decide
  unfold bitsI
  rw [e]
  omega

theorem pow_mod (k : Nat) (h : k ≤ 16) : (2 : Int) ^ k % 4294967296 = 2 ^ k := by
  have b : 2 ^ k ≤ 2 ^ 16 := Nat.pow_le_pow_right (by decide) h
  have e : (2 : Int) ^ k = ((2 ^ k : Nat) : Int) := by simp
  have p : 0 < 2 ^ k := Nat.pow_pos (by decide)
  omega

theorem full_any (k : Nat) (w : World) (h : k ≤ 16) :
    Calls Tryz.prog 223 #[.int .i64 (k : Int)] w fun e w' => e = .returned (.int .u32 (fullI k)) ∧ w' = w := by
  have hm := pow_mod k h
  have hb := full_nonneg h
  unfold fullI at *
  go_enter Tryz.func223, Tryz.ntmps223
  go_wp2
  go_ret
  refine ⟨?_, rfl⟩
  simp

theorem numberOf_any (x : Int) (k : Nat) (w : World) (h1 : 1 ≤ k) (h2 : k ≤ 16) (h0 : 0 ≤ x) (hx : x ≤ fullI k) :
    Calls Tryz.prog 222 #[.int .u32 x, .int .i64 (k : Int)] w fun e w' => e = .returned (.int .i32 (numI x k)) ∧ w' = w := by
  have hm := full_pos h1 h2
  have hb := num_bound h1 h2 h0 hx
  have hr : Hid (rawI (numI x k) = numI x k) := rawI_id (by unfold I32; omega)
  have HN : Hid (numI x k = (x * 65536 + fullI k / 2) / fullI k) := rfl
  go_enter Tryz.func222, Tryz.ntmps222
  go_wp2_with fail
  refine (full_any k _ h2).mono ?_
  rintro e w1 ⟨rfl, rfl⟩
  generalize fullI k = m at *
  obtain ⟨r, hrr⟩ : ∃ r, r = numI x k := ⟨_, rfl⟩
  have HR := hide hrr
  rw [← hrr] at  hb HN hr
  clear hrr
  have hd : (m != 0) = true := by simp; omega
  have hd0 : (m == 0) = false := by simp; omega
  have hw : Hid (wrap64 ((x * 65536 + m / 2) / m) = r) := by
    rw [← unhide HN]
    unfold wrap64
    show _ = _
    omega
  go_wp2_with fail
  rw [unhide hw]
  refine (raw_any r _).mono ?_
  rintro e w1 ⟨rfl, rfl⟩
  rw [unhide hr]
  go_wp2
  go_ret
  exact ⟨ret_int (unhide HR), rfl⟩

theorem full_succ (k : Nat) : fullI (k + 1) + 1 = (fullI k + 1) * 2 := by
  unfold fullI
  rw [Int.pow_succ]
  omega

/-- How many bytes a pixel of format f has. -/
def sizI (f : Int) : Int := if f = 1 then 4 else if f = 5 ∨ f = 6 then 1 else if 2 ≤ f ∧ f ≤ 7 then 2 else 0

end Go.Proofs.YtglfhmlcmffoaaaGreat

/-
  Pixels: the layouts of the seven formats, and the walks of formats, find, and of Size.
-/
namespace Go.Proofs.YtglfhmlcmffoaaaGreat
open Go.RowKit

/-- The sixteen numbers of a format's channels: bits, below, first, last of each. -/
def tbl : Nat → List Nat
  | 1 => [8, 0, 0, 0, 8, 8, 1, 1, 8, 16, 2, 2, 8, 24, 3, 3]
  | 2 => [5, 11, 0, 0, 6, 5, 1, 1, 5, 0, 2, 2]
  | 3 => [4, 12, 0, 0, 4, 8, 1, 1, 4, 4, 2, 2, 4, 0, 3, 3]
  | 4 => [5, 11, 0, 0, 5, 6, 1, 1, 5, 1, 2, 2, 1, 0, 3, 3]
  | 5 => [8, 0, 0, 2]
  | 6 => [8, 0, 3, 3]
  | 7 => [8, 0, 0, 2, 8, 8, 3, 3]
  | _ => []
def chs (f i : Nat) : Nat := (tbl f).getD i 0
/-- How many bytes. -/
def siz : Nat → Nat
  | 1 => 4
  | 2 => 2
  | 3 => 2
  | 4 => 2
  | 5 => 1
  | 6 => 1
  | 7 => 2
  | _ => 0
/-- Has alpha no bits? -/
def opq : Nat → Bool
  | 2 => true
  | 5 => true
  | _ => false
/-- A layout's cells. -/
def layA (F S : Nat) (O : Bool) (L : Nat → Nat) : Array Value := #[.int .i64 ((F : Nat) : Int), .int .i64 ((S : Nat) : Int), .bool O, .int .i64 ((L 0 : Nat) : Int), .int .i64 ((L 1 : Nat) : Int), .int .i64 ((L 2 : Nat) : Int), .int .i64 ((L 3 : Nat) : Int), .int .i64 ((L 4 : Nat) : Int), .int .i64 ((L 5 : Nat) : Int), .int .i64 ((L 6 : Nat) : Int), .int .i64 ((L 7 : Nat) : Int), .int .i64 ((L 8 : Nat) : Int), .int .i64 ((L 9 : Nat) : Int), .int .i64 ((L 10 : Nat) : Int), .int .i64 ((L 11 : Nat) : Int), .int .i64 ((L 12 : Nat) : Int), .int .i64 ((L 13 : Nat) : Int), .int .i64 ((L 14 : Nat) : Int), .int .i64 ((L 15 : Nat) : Int)]
def layF (f : Nat) : Array Value := layA f (siz f) (opq f) (chs f)
/-- The cells of all formats. -/
def fmts : Array Value := ((layF 1).toList ++ (layF 2).toList ++ (layF 3).toList ++ (layF 4).toList ++ (layF 5).toList ++ (layF 6).toList ++ (layF 7).toList).toArray

theorem layF_size (f : Nat) : (layF f).size = 19 := rfl
theorem layF_one (f : Nat) : (layF f).all (·.oneCell') = true := by simp [layF, layA, Value.oneCell']

theorem fmts_cut (k : Nat) (hk : k < 7) : (fmts.toList.drop (19 * k)).take 19 = (layF (k + 1)).toList := by
  rcases (by omega : k = 0 ∨ k = 1 ∨ k = 2 ∨ k = 3 ∨ k = 4 ∨ k = 5 ∨ k = 6) with rfl | rfl | rfl | rfl | rfl | rfl | rfl <;> rfl

theorem range_fmts {w : World} {b k : Nat} {t : TypeId} (h : Blk w b fmts t) (hk : k < 7) : w.rangeAt b (k * 19) (layF (k + 1)).toList := by
  intro j v hv
  rw [← fmts_cut k hk, Nat.mul_comm 19 k] at hv
  refine h.cell ?_
  have hj : j < 19 := by
    have := (List.getElem?_eq_some_iff.1 hv).1
    simp at this
    omega
  rw [List.getElem?_take_of_lt hj, List.getElem?_drop] at hv
  simpa using hv

theorem info60 : (Tryz.prog.info? 180).map (fun i => (i.zero, i.size)) = some (some (.agg (layF 0)), 19) := by kernel_rfl

set_option maxHeartbeats 1000000 in
theorem formats_any (w : World) :
    Calls Tryz.prog 213 #[] w fun e w' => e = .returned (.slice (some ⟨w.heap.size, 0, none⟩) 7 7) ∧ w' = w.alloc (.cells fmts 180) := by
  obtain ⟨i60, hi60, hzz⟩ : ∃ i, Tryz.prog.info? 180 = some i ∧ (i.zero, i.size) = (some (.agg (layF 0)), 19) := by
    have h := info60
    cases hq : Tryz.prog.info? 180 with
    | none => rw [hq] at h; cases h
    | some i => rw [hq] at h; exact ⟨i, rfl, by simpa using h⟩
  obtain ⟨hz60, hs60⟩ := Prod.mk.inj hzz
  clear hzz
  go_enter Tryz.func213, Tryz.ntmps213
  go_wp2_with (refine wpList_buildTo rfl 177 _ rfl (some 1) rfl #[.int .i64 8, .int .i64 0, .int .i64 0, .int .i64 0] (by kernel_rfl) ?_; refine wpList_buildTo rfl 177 _ rfl (some 2) rfl #[.int .i64 8, .int .i64 8, .int .i64 1, .int .i64 1] (by kernel_rfl) ?_; refine wpList_buildTo rfl 177 _ rfl (some 3) rfl #[.int .i64 8, .int .i64 16, .int .i64 2, .int .i64 2] (by kernel_rfl) ?_; refine wpList_buildTo rfl 177 _ rfl (some 4) rfl #[.int .i64 8, .int .i64 24, .int .i64 3, .int .i64 3] (by kernel_rfl) ?_; refine wpList_buildTo rfl 178 _ rfl (some 5) rfl #[.int .i64 8, .int .i64 0, .int .i64 0, .int .i64 0, .int .i64 8, .int .i64 8, .int .i64 1, .int .i64 1, .int .i64 8, .int .i64 16, .int .i64 2, .int .i64 2, .int .i64 8, .int .i64 24, .int .i64 3, .int .i64 3] (by kernel_rfl) ?_; refine wpList_buildTo rfl 180 _ rfl (some 6) rfl (layF 1) (by kernel_rfl) ?_; refine wpList_buildTo rfl 177 _ rfl (some 7) rfl #[.int .i64 5, .int .i64 11, .int .i64 0, .int .i64 0] (by kernel_rfl) ?_; refine wpList_buildTo rfl 177 _ rfl (some 8) rfl #[.int .i64 6, .int .i64 5, .int .i64 1, .int .i64 1] (by kernel_rfl) ?_; refine wpList_buildTo rfl 177 _ rfl (some 9) rfl #[.int .i64 5, .int .i64 0, .int .i64 2, .int .i64 2] (by kernel_rfl) ?_; refine wpList_buildTo rfl 178 _ rfl (some 10) rfl #[.int .i64 5, .int .i64 11, .int .i64 0, .int .i64 0, .int .i64 6, .int .i64 5, .int .i64 1, .int .i64 1, .int .i64 5, .int .i64 0, .int .i64 2, .int .i64 2, .int .i64 0, .int .i64 0, .int .i64 0, .int .i64 0] (by kernel_rfl) ?_; refine wpList_buildTo rfl 180 _ rfl (some 11) rfl (layF 2) (by kernel_rfl) ?_; refine wpList_buildTo rfl 177 _ rfl (some 12) rfl #[.int .i64 4, .int .i64 12, .int .i64 0, .int .i64 0] (by kernel_rfl) ?_; refine wpList_buildTo rfl 177 _ rfl (some 13) rfl #[.int .i64 4, .int .i64 8, .int .i64 1, .int .i64 1] (by kernel_rfl) ?_; refine wpList_buildTo rfl 177 _ rfl (some 14) rfl #[.int .i64 4, .int .i64 4, .int .i64 2, .int .i64 2] (by kernel_rfl) ?_; refine wpList_buildTo rfl 177 _ rfl (some 15) rfl #[.int .i64 4, .int .i64 0, .int .i64 3, .int .i64 3] (by kernel_rfl) ?_; refine wpList_buildTo rfl 178 _ rfl (some 16) rfl #[.int .i64 4, .int .i64 12, .int .i64 0, .int .i64 0, .int .i64 4, .int .i64 8, .int .i64 1, .int .i64 1, .int .i64 4, .int .i64 4, .int .i64 2, .int .i64 2, .int .i64 4, .int .i64 0, .int .i64 3, .int .i64 3] (by kernel_rfl) ?_; refine wpList_buildTo rfl 180 _ rfl (some 17) rfl (layF 3) (by kernel_rfl) ?_; refine wpList_buildTo rfl 177 _ rfl (some 18) rfl #[.int .i64 5, .int .i64 11, .int .i64 0, .int .i64 0] (by kernel_rfl) ?_; refine wpList_buildTo rfl 177 _ rfl (some 19) rfl #[.int .i64 5, .int .i64 6, .int .i64 1, .int .i64 1] (by kernel_rfl) ?_; refine wpList_buildTo rfl 177 _ rfl (some 20) rfl #[.int .i64 5, .int .i64 1, .int .i64 2, .int .i64 2] (by kernel_rfl) ?_; refine wpList_buildTo rfl 177 _ rfl (some 21) rfl #[.int .i64 1, .int .i64 0, .int .i64 3, .int .i64 3] (by kernel_rfl) ?_; refine wpList_buildTo rfl 178 _ rfl (some 22) rfl #[.int .i64 5, .int .i64 11, .int .i64 0, .int .i64 0, .int .i64 5, .int .i64 6, .int .i64 1, .int .i64 1, .int .i64 5, .int .i64 1, .int .i64 2, .int .i64 2, .int .i64 1, .int .i64 0, .int .i64 3, .int .i64 3] (by kernel_rfl) ?_; refine wpList_buildTo rfl 180 _ rfl (some 23) rfl (layF 4) (by kernel_rfl) ?_; refine wpList_buildTo rfl 177 _ rfl (some 24) rfl #[.int .i64 8, .int .i64 0, .int .i64 0, .int .i64 2] (by kernel_rfl) ?_; refine wpList_buildTo rfl 178 _ rfl (some 25) rfl #[.int .i64 8, .int .i64 0, .int .i64 0, .int .i64 2, .int .i64 0, .int .i64 0, .int .i64 0, .int .i64 0, .int .i64 0, .int .i64 0, .int .i64 0, .int .i64 0, .int .i64 0, .int .i64 0, .int .i64 0, .int .i64 0] (by kernel_rfl) ?_; refine wpList_buildTo rfl 180 _ rfl (some 26) rfl (layF 5) (by kernel_rfl) ?_; refine wpList_buildTo rfl 177 _ rfl (some 27) rfl #[.int .i64 8, .int .i64 0, .int .i64 3, .int .i64 3] (by kernel_rfl) ?_; refine wpList_buildTo rfl 178 _ rfl (some 28) rfl #[.int .i64 8, .int .i64 0, .int .i64 3, .int .i64 3, .int .i64 0, .int .i64 0, .int .i64 0, .int .i64 0, .int .i64 0, .int .i64 0, .int .i64 0, .int .i64 0, .int .i64 0, .int .i64 0, .int .i64 0, .int .i64 0] (by kernel_rfl) ?_; refine wpList_buildTo rfl 180 _ rfl (some 29) rfl (layF 6) (by kernel_rfl) ?_; refine wpList_buildTo rfl 177 _ rfl (some 30) rfl #[.int .i64 8, .int .i64 0, .int .i64 0, .int .i64 2] (by kernel_rfl) ?_; refine wpList_buildTo rfl 177 _ rfl (some 31) rfl #[.int .i64 8, .int .i64 8, .int .i64 3, .int .i64 3] (by kernel_rfl) ?_; refine wpList_buildTo rfl 178 _ rfl (some 32) rfl #[.int .i64 8, .int .i64 0, .int .i64 0, .int .i64 2, .int .i64 8, .int .i64 8, .int .i64 3, .int .i64 3, .int .i64 0, .int .i64 0, .int .i64 0, .int .i64 0, .int .i64 0, .int .i64 0, .int .i64 0, .int .i64 0] (by kernel_rfl) ?_; refine wpList_buildTo rfl 180 _ rfl (some 33) rfl (layF 7) (by kernel_rfl) ?_; refine Go.wpList_buildSlice rfl 190 180 7 _ rfl fmts i60 (.agg (layF 0)) Tryz.underlying190 hi60 hz60 (by rw [hs60]; decide) (by rw [hs60]; decide) (by rw [hs60]; kernel_rfl) ?_)
  go_ret
  exact ⟨rfl, rfl⟩

end Go.Proofs.YtglfhmlcmffoaaaGreat

/-
  Pixels: the walks of find and of Size.
-/
namespace Go.Proofs.YtglfhmlcmffoaaaGreat
set_option maxRecDepth 100000
open Go.RowKit

theorem size60 : (Tryz.prog.info? 180).map (·.size) = some 19 := by kernel_rfl
theorem Blk.row {w : World} {b : Nat} {cs cs' : Array Value} {t : TypeId} (h : Blk w b cs t) : Blk (w.setRow b cs') b cs' t := setRow_heap w b cs cs' t (0, 0) h
theorem Blk.rowOther {w : World} {b r : Nat} {cs cs' : Array Value} {t : TypeId} (h : Blk w b cs t) (hne : b ≠ r) : Blk (w.setRow r cs') b cs t := (setRow_other w r b cs' hne).trans h
theorem ext_row {w w1 : World} {b : Nat} {cs : Array Value} (h : Ext w w1) (hb : w.heap.size ≤ b) : Ext w (w1.setRow b cs) := below_setRow h hb cs

section
variable {P : Program} {w : World} {ops : Array Oper} {rest : List Oper} {o : Oper} {a : Act} {Q : Exit → Act → World → Prop}
/-- A whole value laid into the block that was made last. -/
theorem wpList_store_last (hgd : o.guard = none) (ty : TypeId) (x y : Operand) (ho : o.op = .store ty x y) (old : Array Value) (hx : a.eval x = .pointer (some ⟨w.heap.size, 0, none⟩)) (cells : Array Value) (hy : a.eval y = .agg cells)
    (n : Nat) (hi : (P.info? ty).map (·.size) = some n) (hn : cells.size = n) (hold : old.size = n) (h1 : cells.all (·.oneCell') = true) (h : wpList P ops Q rest (a.put o.dst undef) (w.alloc (.cells cells ty))) :
    wpList P ops Q (o :: rest) a (w.alloc (.cells old ty)) := by
  refine wpList_store_row hgd ty x y ho w.heap.size cells hx hy ty old (heap_alloc_last w _) (by rw [hi, hn]) (by omega) h1 ?_
  rw [World.setRow_alloc_new]
  exact h
theorem results_cell_tmp {fn : Func} {p q : Tmp} {ty : TypeId} (h : fn.results = #[.cell p ty, .tmp q]) (tmps : Array Value) (w : World) (g : Nat) (t : TypeId) (cs : Array Value) (d : TypeDesc)
    (hp : tmps.getD p undef = .pointer (some ⟨g, 0, none⟩)) (v : Value) (hv : tmps.getD q undef = v) (hg : Blk w g cs t)
    (hu : P.underlying ty = some d) (hd : (match d with | .struct _ | .array _ _ => true | _ => false) = true) (hi : (P.info? ty).map (·.size) = some cs.size) :
    (results fn tmps).run P w = .ok (.tuple #[.agg cs, v]) w := by
  have hp' : tmps[p]?.getD undef = .pointer (some ⟨g, 0, none⟩) := by simpa using hp
  have hv' : tmps[q]?.getD undef = v := by simpa using hv
  simp [results, h, hp', hv', asAddr, run_loadVar_row w g t ty cs (0, 0) d hg hu hd hi]
end

set_option maxHeartbeats 1000000 in
theorem find_any (f : Nat) (w : World) (h1 : 1 ≤ f) (h7 : f ≤ 7) :
    Calls Tryz.prog 191 #[.int .i64 (f : Int)] w fun e w' => e = .returned (.tuple #[.agg (layF f), .int .i64 0]) ∧ Ext w w' := by
  go_enter Tryz.func191, Tryz.ntmps191
  go_wp2_with fail
  refine (formats_any _).mono ?_
  rintro e w1 ⟨rfl, rfl⟩
  go_wp2
  go_loopw [8] (fun i wr => ∃ k : Nat, k < f ∧ i = .int .i64 k ∧ Blk wr w.heap.size (layF 0) 180 ∧ Blk wr (w.heap.size + 1) fmts 180 ∧ Ext w wr) (fun i _ => 7 - (intOf i).toNat)
  case atStart => exact ⟨0, by omega, rfl, (Blk.at rfl).alloc _, Blk.at (by simp), ((Ext.refl w).alloc _).alloc _⟩
  case round =>
    obtain ⟨k, hk, rfl, hb0, hb1, hx⟩ := hrel
    have D := hide (And.intro hb0 (And.intro hb1 hx))
    clear hb0 hb1 hx
    have hk7 : (k : Int) < 7 := by omega
    have c0 : (wr.alloc (.cells (layF (k + 1)) 180)).cell? ⟨wr.heap.size, 0, none⟩ = some (.int .i64 ((k : Int) + 1)) := (Blk.at rfl).cell rfl
    by_cases hf : k + 1 = f
    · have hd : ((k : Int) + 1 == (f : Int)) = true := by simp; omega
      have HF := hide hf
      clear hf
      go_wp2_with (first
        | (refine wpList_load_mid rfl 180 (.tmp 10) rfl (w.heap.size + 1) (k * 19) rfl (layF (k + 1)).toList _ (range_fmts (unhide D).2.1 (by omega)) Tryz.underlying180 rfl size60 ?_; rw [Array.toArray_toList])
        | refine wpList_store_last rfl 180 (.tmp 5) (.tmp 11) rfl _ rfl (layF (k + 1)) rfl 19 size60 (layF_size _) rfl (layF_one _) ?_
        | refine wpList_load_row rfl 180 (.tmp 5) rfl wr.heap.size rfl 180 (layF (k + 1)) (0, 0) _ (heap_alloc_last wr _) Tryz.underlying180 rfl size60 ?_
        | refine wpList_store_row rfl 180 (.tmp 2) (.tmp 16) rfl w.heap.size (layF (k + 1)) rfl rfl 180 (layF 0) ((unhide D).1.alloc _) size60 rfl (layF_one _) ?_)
      have hf := unhide HF
      subst hf
      refine bodyPost_ret (v := .tuple #[.agg (layF (k + 1)), .int .i64 0]) (results_cell_tmp Tryz.results191 _ _ w.heap.size 180 _ _ rfl _ rfl (((unhide D).1.alloc _).row) Tryz.underlying180 rfl size60) rfl ⟨rfl, ?_⟩
      exact ext_row ((unhide D).2.2.alloc _) (Nat.le_refl _)
    · have hd : ((k : Int) + 1 == (f : Int)) = false := by simp; omega
      have HF := hide hf
      clear hf
      go_wp2_with (first
        | (refine wpList_load_mid rfl 180 (.tmp 10) rfl (w.heap.size + 1) (k * 19) rfl (layF (k + 1)).toList _ (range_fmts (unhide D).2.1 (by omega)) Tryz.underlying180 rfl size60 ?_; rw [Array.toArray_toList])
        | refine wpList_store_last rfl 180 (.tmp 5) (.tmp 11) rfl _ rfl (layF (k + 1)) rfl 19 size60 (layF_size _) rfl (layF_one _) ?_)
      go_roundw
      case rel => exact ⟨k + 1, by have := unhide HF; omega, by go_num, (unhide D).1.alloc _, (unhide D).2.1.alloc _, (unhide D).2.2.alloc _⟩
      case measure => simp [intOf]; omega

set_option maxHeartbeats 1000000 in
theorem find_bad (f : Int) (w : World) (h : f < 1 ∨ 7 < f) :
    Calls Tryz.prog 191 #[.int .i64 f] w fun e w' => e = .returned (.tuple #[.agg (layF 0), .int .i64 2]) ∧ Ext w w' := by
  go_enter Tryz.func191, Tryz.ntmps191
  go_wp2_with fail
  refine (formats_any _).mono ?_
  rintro e w1 ⟨rfl, rfl⟩
  go_wp2
  go_loopw [8] (fun i wr => ∃ k : Nat, k ≤ 7 ∧ i = .int .i64 k ∧ Blk wr w.heap.size (layF 0) 180 ∧ Blk wr (w.heap.size + 1) fmts 180 ∧ Ext w wr) (fun i _ => 7 - (intOf i).toNat)
  case atStart => exact ⟨0, by omega, rfl, (Blk.at rfl).alloc _, Blk.at (by simp), ((Ext.refl w).alloc _).alloc _⟩
  case round =>
    obtain ⟨k, hk, rfl, hb0, hb1, hx⟩ := hrel
    have D := hide (And.intro hb0 (And.intro hb1 hx))
    clear hb0 hb1 hx
    have c0 : (wr.alloc (.cells (layF (k + 1)) 180)).cell? ⟨wr.heap.size, 0, none⟩ = some (.int .i64 ((k : Int) + 1)) := (Blk.at rfl).cell rfl
    by_cases hk7 : (k : Int) < 7
    · have hd : ((k : Int) + 1 == f) = false := by simp; omega
      go_wp2_with (first
        | (refine wpList_load_mid rfl 180 (.tmp 10) rfl (w.heap.size + 1) (k * 19) rfl (layF (k + 1)).toList _ (range_fmts (unhide D).2.1 (by omega)) Tryz.underlying180 rfl size60 ?_; rw [Array.toArray_toList])
        | refine wpList_store_last rfl 180 (.tmp 5) (.tmp 11) rfl _ rfl (layF (k + 1)) rfl 19 size60 (layF_size _) rfl (layF_one _) ?_)
      go_roundw
      case rel => exact ⟨k + 1, by omega, by go_num, (unhide D).1.alloc _, (unhide D).2.1.alloc _, (unhide D).2.2.alloc _⟩
      case measure => simp [intOf]; omega
    · go_wp2_with (first
        | refine wpList_buildTo rfl 180 _ rfl (some 18) rfl (layF 0) (by kernel_rfl) ?_
        | refine wpList_store_row rfl 180 (.tmp 2) (.tmp 18) rfl w.heap.size (layF 0) rfl rfl 180 (layF 0) (unhide D).1 size60 rfl (layF_one _) ?_)
      refine bodyPost_ret (v := .tuple #[.agg (layF 0), .int .i64 2]) (results_cell_tmp Tryz.results191 _ _ w.heap.size 180 _ _ rfl _ rfl (unhide D).1.row Tryz.underlying180 rfl size60) rfl ⟨rfl, ?_⟩
      exact ext_row (unhide D).2.2 (Nat.le_refl _)

theorem siz_eq (f : Nat) : (siz f : Int) = sizI f := by
  match f with
  | 0 => rfl
  | 1 => rfl
  | 2 => rfl
  | 3 => rfl
  | 4 => rfl
  | 5 => rfl
  | 6 => rfl
  | 7 => rfl
  | n + 8 =>
    have : siz (n + 8) = 0 := rfl
    rw [this]
    unfold sizI
    rw [if_neg (by omega), if_neg (by omega), if_neg (by omega)]
    rfl
theorem siz_off {f : Int} (h : f < 1 ∨ 7 < f) : sizI f = 0 := by
  unfold sizI
  rw [if_neg (by omega), if_neg (by omega), if_neg (by omega)]

theorem size_any (f : Int) (w : World) :
    Calls Tryz.prog 163 #[.int .i64 f] w fun e w' => e = .returned (.int .i64 (sizI f)) ∧ Ext w w' := by
  by_cases h : f < 1 ∨ 7 < f
  · have hs := siz_off h
    rw [hs]
    go_enter Tryz.func163, Tryz.ntmps163
    go_wp2_with fail
    refine (find_bad f _ h).mono ?_
    rintro e w1 ⟨rfl, hx⟩
    have X := hide hx
    clear hx
    have c1 : (w1.alloc (.cells (layF 0) 180)).cell? ⟨w1.heap.size, 1, none⟩ = some (.int .i64 0) := (Blk.at rfl).cell rfl
    go_wp2_with (refine wpList_store_last rfl 180 (.tmp 3) (.tmp 8) rfl _ rfl (layF 0) rfl 19 size60 (layF_size _) rfl (layF_one _) ?_)
    go_ret
    exact ⟨rfl, (unhide X).alloc _⟩
  · obtain ⟨n, rfl⟩ := Int.eq_ofNat_of_zero_le (show 0 ≤ f by omega)
    have HS := hide (siz_eq n)
    go_enter Tryz.func163, Tryz.ntmps163
    go_wp2_with fail
    refine (find_any n _ (by omega) (by omega)).mono ?_
    rintro e w1 ⟨rfl, hx⟩
    have X := hide hx
    clear hx
    have c1 : (w1.alloc (.cells (layF n) 180)).cell? ⟨w1.heap.size, 1, none⟩ = some (.int .i64 (siz n : Int)) := (Blk.at rfl).cell rfl
    go_wp2_with (refine wpList_store_last rfl 180 (.tmp 3) (.tmp 8) rfl _ rfl (layF n) rfl 19 size60 (layF_size _) rfl (layF_one _) ?_)
    go_ret
    exact ⟨by rw [← unhide HS]; rfl, (unhide X).alloc _⟩
end Go.Proofs.YtglfhmlcmffoaaaGreat
