/-
  Vertices out of bytes: the walk of stretch.
-/
import Derived.Test.YtmigakbccmkjoaaFEc
namespace Go.Proofs.Ytmigakbccmkjoaa
open Go.RowKit
set_option linter.unusedVariables false
set_option linter.unusedSimpArgs false

theorem strF_byt {b : List Int} (h : Byt b) (p n : Nat) : Byt (strF b p n) := h.cut p n
theorem strF_len (b : List Int) (p n : Nat) : (strF b p n).length = min n (b.length - p) := by simp [strF]
set_option maxHeartbeats 1000000 in
theorem stretch_any (v : Value) (xs : List Int) (p n : Nat) (w : World) (hr : Row .u8 w v xs) (hB : Byt xs) (hm : xs.length ≤ 140737488355000) (hp : p ≤ 1000000000000) (hn : n ≤ 1000000000000) :
    Calls Try.prog 31 #[v, .int .i64 (p : Int), .int .i64 (n : Int)] w fun e w' => ∃ rb sv, e = .returned (.pointer (some ⟨rb, 0, none⟩)) ∧ w.heap.size ≤ rb ∧ Rd w' rb sv (strF xs p n) 0 0 ∧ Ext w w' := by
  have key : ∀ f m : Nat, f + m ≤ xs.length → (xs.drop f).take m = strF xs p n → ∀ v', Row .u8 w v' ((xs.drop f).take m) →
      Calls Try.prog 57 #[v'] w fun e w' => ∃ rb sv, e = .returned (.pointer (some ⟨rb, 0, none⟩)) ∧ w.heap.size ≤ rb ∧ Rd w' rb sv (strF xs p n) 0 0 ∧ Ext w w' := by
    intro f m hfm he v' hv'
    rw [he] at hv'
    exact read_any v' _ w hv' (by rw [strF_len]; omega) (strF_byt hB p n)
  have HK := hide key
  have hsh := hr.shape
  obtain ⟨ao, cap, rfl, hao, hlc, hcm⟩ := hsh
  have HR := hide hr
  have HA := hide hao
  have HX := hide hm
  clear hr hao key hB
  unfold maxLen at hcm
  have key2 : ∀ f m : Nat, f + m ≤ xs.length → (∀ ao', (cap = f → ao' = ao) → (cap ≠ f → ao' = ao.map (fun x => x.add f)) → Row .u8 w (.slice ao' m (cap - f)) ((xs.drop f).take m)) := by
    intro f m hfm ao' e1 e2
    by_cases hc : cap = f
    · obtain rfl := e1 hc
      have hm0 : m = 0 := by omega
      subst hm0
      exact .inl ⟨by simp, _, _, rfl, fun _ => by omega, by unfold maxLen; omega⟩
    · obtain rfl := e2 hc
      refine Row.cut (unhide HR) f m hfm _ (fun b off e _ => by subst e; simp [Addr.add_lit]) (fun e => ?_)
      cases ao with
      | none => have := (unhide HA rfl).2; omega
      | some a => cases e
  have HC := hide key2
  clear key2
  by_cases h1 : p ≤ xs.length
  · by_cases h2 : p + n ≤ xs.length
    · have HE := hide (unhide HK p n h2 rfl)
      have h1' : (p : Int) ≤ (xs.length : Int) := by omega
      have h2' : (p : Int) + (n : Int) ≤ (xs.length : Int) := by omega
      go_enter Try.func31, Try.ntmps31
      go_wp2_with (go_at_call 9999)
      · have hq : cap = p := by assumption
        have hv := unhide HC p n (by omega) ao (fun _ => rfl) (fun h => absurd hq h)
        rw [show cap - p = 0 by omega] at hv
        refine (unhide HE _ hv).mono ?_
        rintro e w1 ⟨rb, sv, rfl, h3⟩
        have H3 := hide h3
        clear h3
        go_wp2
        go_ret
        exact ⟨_, _, rfl, unhide H3⟩
      · have hq : ¬ cap = p := by assumption
        refine (unhide HE _ (unhide HC p n (by omega) _ (fun h => absurd h hq) (fun _ => rfl))).mono ?_
        rintro e w1 ⟨rb, sv, rfl, h3⟩
        have H3 := hide h3
        clear h3
        go_wp2
        go_ret
        exact ⟨_, _, rfl, unhide H3⟩
    · have hm2 : (xs.drop p).take (xs.length - p) = strF xs p n := by
        unfold strF
        rw [List.take_of_length_le (by simp), List.take_of_length_le (by simp; omega)]
      have HE := hide (unhide HK p (xs.length - p) (by omega) hm2)
      have h1' : (p : Int) ≤ (xs.length : Int) := by omega
      have h2' : ¬ (p : Int) + (n : Int) ≤ (xs.length : Int) := by omega
      have hsub : ((xs.length : Int) - (p : Int)).toNat = xs.length - p := by omega
      go_enter Try.func31, Try.ntmps31
      go_wp2_with (go_at_call 9999)
      · have hq : cap = p := by assumption
        have hv := unhide HC p (xs.length - p) (by omega) ao (fun _ => rfl) (fun h => absurd hq h)
        rw [show cap - p = 0 by omega] at hv
        refine (unhide HE _ hv).mono ?_
        rintro e w1 ⟨rb, sv, rfl, h3⟩
        have H3 := hide h3
        clear h3
        go_wp2
        go_ret
        exact ⟨_, _, rfl, unhide H3⟩
      · have hq : ¬ cap = p := by assumption
        refine (unhide HE _ (unhide HC p (xs.length - p) (by omega) _ (fun h => absurd h hq) (fun _ => rfl))).mono ?_
        rintro e w1 ⟨rb, sv, rfl, h3⟩
        have H3 := hide h3
        clear h3
        go_wp2
        go_ret
        exact ⟨_, _, rfl, unhide H3⟩
  · have hm2 : (xs.drop xs.length).take 0 = strF xs p n := by
      unfold strF
      rw [List.drop_of_length_le (show xs.length ≤ p by omega)]
      simp
    have HE := hide (unhide HK xs.length 0 (by omega) hm2)
    have h1' : ¬ (p : Int) ≤ (xs.length : Int) := by omega
    have h2' : ¬ (p : Int) + (n : Int) ≤ (xs.length : Int) := by omega
    go_enter Try.func31, Try.ntmps31
    go_wp2_with (go_at_call 9999)
    · have hq : cap = xs.length := by assumption
      have hv := unhide HC xs.length 0 (by omega) ao (fun _ => rfl) (fun h => absurd hq h)
      rw [show cap - xs.length = 0 by omega] at hv
      refine (unhide HE _ hv).mono ?_
      rintro e w1 ⟨rb, sv, rfl, h3⟩
      have H3 := hide h3
      clear h3
      go_wp2
      go_ret
      exact ⟨_, _, rfl, unhide H3⟩
    · have hq : ¬ cap = xs.length := by assumption
      refine (unhide HE _ (unhide HC xs.length 0 (by omega) _ (fun h => absurd h hq) (fun _ => rfl))).mono ?_
      rintro e w1 ⟨rb, sv, rfl, h3⟩
      have H3 := hide h3
      clear h3
      go_wp2
      go_ret
      exact ⟨_, _, rfl, unhide H3⟩
end Go.Proofs.Ytmigakbccmkjoaa
