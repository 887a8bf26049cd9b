/-
  The walks of octet's smallest functions: Err, Left, take at a Reader that is not there; Clone; Read. What the dump lacks is left out.
-/
import Derived.Test.YtmigakbccmkjoaaProg
import Derived.Test.YtmigakbccmkjoaaLem
namespace Go.Proofs.Ytmigakbccmkjoaa
open Go.RowKit

set_option maxHeartbeats 400000 in
theorem err_nil (w : World) : Calls Try.prog 33 #[.pointer none] w fun e w' => e = .returned (.int .i64 1) ∧ w' = w := by
  go_enter Try.func33, Try.ntmps33
  go_wp2
  go_ret
  exact ⟨rfl, rfl⟩

set_option maxHeartbeats 400000 in
theorem left_nil (w : World) : Calls Try.prog 66 #[.pointer none] w fun e w' => e = .returned (.int .i64 0) ∧ w' = w := by
  go_enter Try.func66, Try.ntmps66
  go_wp2
  go_ret
  exact ⟨rfl, rfl⟩

set_option maxHeartbeats 400000 in
theorem take_nil (n : Int) (w : World) : Calls Try.prog 65 #[.pointer none, .int .i64 n] w fun e w' => e = .returned (.slice none 0 0) ∧ w' = w := by
  go_enter Try.func65, Try.ntmps65
  go_wp2
  go_ret
  exact ⟨rfl, rfl⟩

theorem info5 : (Try.prog.info? 5).map (fun i => (i.zero, i.size, i.bytes)) = some (some (.int .u8 0), 1, 1) := by kernel_rfl


set_option maxHeartbeats 400000 in
theorem clone_any (v : Value) (xs : List Int) (w : World) (hr : Row .u8 w v xs) (hm : xs.length ≤ 140737488355328) :
    Calls Try.prog 64 #[v] w fun e w' => ∃ ao cap, e = .returned (.slice ao xs.length cap) ∧ Own .u8 w' w.heap.size 5 (.slice ao xs.length cap) xs ∧ Below w.heap.size w w' := by
  obtain ⟨i0, hi, hz0, hz1, hz2⟩ := info_parts info5
  obtain ⟨ao, cap, rfl, h0, hl, hcm⟩ := hr.shape
  have hnil := fun wx => Lib.run_eql_slice_nil (P := Try.prog) wx 22 5 ao xs.length cap 0 0 Try.underlying22
  cases ao with
  | none =>
    obtain ⟨rfl, rfl⟩ := h0 rfl
    simp only [List.length_nil] at hnil ⊢
    go_enter Try.func64, Try.ntmps64
    go_wp2
    go_ret
    exact ⟨none, 0, rfl, Own.nil _ _ _ _, Below.refl _ _⟩
  | some ad =>
    have HR := hide hr
    clear h0 hr
    go_enter Try.func64, Try.ntmps64
    go_wp2_with (at_builtin; refine wpList_append_Own rfl (.tmp 5) (.tmp 6) 22 rfl w.heap.size 5 i0 .u8 1 Try.underlying22 hi hz0 hz1 hz2 _ [] rfl (Own.made w (Nat.le_refl _)) _ xs rfl ((unhide HR).below ((Below.refl _ _).alloc (Nat.le_refl _) _)) ?c1 ?c2 ?c3 ?_)
    case c1 => unfold maxLen; simp; omega
    case c2 => simp; omega
    case c3 => simp
    intro v' w' hown hgrow
    obtain ⟨ao', cap', rfl⟩ := hown.shape
    go_wp2
    go_ret
    refine ⟨_, _, rfl, hown, ?_⟩
    exact ((Below.refl _ _).alloc (Nat.le_refl _) _).grown hgrow (by simp) (by simp [Value.ownBlock])
end Go.Proofs.Ytmigakbccmkjoaa
