/-
  Buffers: the walk of List: the numbers of all buffers, rising.
-/
import Derived.Test.YtagbenjaidikmaaBF
import Derived.Test.YtagbenjaidikmaaShelf
import Derived.Shelf.AbstractIn
namespace Go.Proofs.Ytagbenjaidikmaa
open Go.RowKit Go.Maps Go.Sort Go.Shelf

/-- slices.Sort's two contracts at this dump. -/
theorem sortsA (m : Nat) : AnyZI.SortsIn Try.prog Try.sortedA_ren Fence.wide m :=
  ⟨fun blk off cap ss W hH hblk hsz => callsIn_wide.2 (AnyM.slices_Sort_int Try.sortA blk off cap ss W hH hblk hsz),
   fun p cap W => callsIn_wide.2 (AnyM.slices_Sort_int_none Try.sortA p cap W)⟩

theorem keys_dat (K : List Ent) : intKeys (dat K) = K.map (·.1) := by
  unfold dat intKeys
  simp only
  rw [List.map_map]
  rfl
theorem sorted_keys {K : List Ent} (hr : Rise K) {ss : List Int} (h : ss.Perm (K.map (·.1))) : ss.mergeSort (fun x y => decide (x ≤ y)) = K.map (·.1) := by
  have h1 : (ss.mergeSort (fun x y => decide (x ≤ y))).Perm (K.map (·.1)) := (List.mergeSort_perm _ _).trans h
  have h2 : (ss.mergeSort (fun x y => decide (x ≤ y))).Pairwise (fun x y => decide (x ≤ y) = true) := List.pairwise_mergeSort (fun a b c => by simp; omega) (fun a b => by simp; omega) _
  have h3 : (K.map (·.1)).Pairwise (fun x y => decide (x ≤ y) = true) := by
    rw [List.pairwise_map]
    exact List.Pairwise.imp (fun h => by simp; omega) hr
  exact h1.eq_of_pairwise (fun a b _ _ h4 h5 => by simp at h4 h5; omega) h2 h3

set_option maxHeartbeats 1000000 in
theorem list_any {w : World} {base S G M : Nat} {all tk : Int} {K : List Ent} (h : Sto w base S G M all tk K) (hK : K.length ≤ 1000000) :
    Calls Try.prog 23 #[.pointer (some ⟨S, 0, none⟩)] w fun e w' => ∃ ao cap, e = .returned (.slice ao K.length cap) ∧ Row .i64 w' (.slice ao K.length cap) (K.map (·.1)) ∧ Ext w w' := by
  refine (callsIn_wide (n := 6)).1 ?_
  have hown := h.mp
  have hbl := hown.lt
  have hmax : Maps.size (dat K) ≤ maxLen := by rw [dat_size]; unfold maxLen; omega
  have hbytes : Maps.size (dat K) * 8 ≤ 140737488355328 := by rw [dat_size]; omega
  have hseq : SeqGives Fence.wide 2 Try.prog 39 #[.pointer (some ⟨w.heap.size, 0, none⟩)] encZ (fun ss => ss.Perm (intKeys (dat K))) (Maps.size (dat K)) (w.alloc (.cells #[.map (some M)] 61)) :=
    AnyZI.keys_gives (ρ := Try.keysA_ren) { Try.keysA with } Fence.wide _ trivial rfl (by omega) w.heap.size M K.length (dat K) _ (by simp) (by simp) (by
      obtain ⟨es, clock, hb, Ft, hs, hD⟩ := hown
      exact ⟨es, clock, (Below.heap_alloc _ _ M hbl).trans hb, Ft, hs, hD⟩)
  have cK : ∀ mb W, CallsIn Fence.wide 5 Try.prog 35 #[.map mb] W fun e w' => e = .returned (.func (.func 39) #[] #[.pointer (some ⟨W.heap.size, 0, none⟩)]) ∧ w' = W.alloc (.cells #[.map mb] 61) := fun mb W => AnyZI.keys_in Try.keysA Fence.wide 5 trivial rfl mb W
  have cS := AnyZI.sorted_in Try.sortedA Fence.wide 5 trivial trivial trivial trivial rfl (by omega) (sortsA _) (enters_of Try.func38 (by kernel_rfl) rfl) 39 #[.pointer (some ⟨w.heap.size, 0, none⟩)] trivial (enters_of Try.func39 (by kernel_rfl) rfl) _ _ hmax hbytes _ hseq
  change CallsIn _ _ Try.prog 34 _ _ _ at cS
  have hfK : Fence.wide.fn 35 := trivial
  have hfS : Fence.wide.fn 34 := trivial
  have c1 := h.c1
  have HR := hide h.rise
  clear h hown hseq hmax hbytes
  refine callsIn_of_wp Try.func23 rfl trivial ?_ rfl
  simp only [Try.ntmps23, List.size_toArray, List.length_cons, List.length_nil, Nat.reduceAdd, Nat.reduceSub, Array.replicate_succ, Array.replicate_zero, List.push_toArray, List.append_toArray, List.nil_append, List.cons_append]
  gi_wp2_with (first
    | (gi_at_call 35; refine (cK _ _).mono ?_; rintro e w' ⟨rfl, rfl⟩)
    | (gi_at_call 34; refine cS.mono ?_; rintro e w' ⟨v, ss, rfl, hS, hrow, hnil, hb⟩))
  go_ret
  rw [keys_dat] at hS
  rw [sorted_keys (unhide HR) hS] at hrow
  have hl : ss.length = K.length := by rw [hS.length_eq]; simp
  rw [hl] at hrow
  have hro := Row.ofOwn (k := .i64) (xs := K.map (·.1)) hrow
  obtain ⟨ao, cap, e, _⟩ := hro.1.shape
  rw [List.length_map] at e
  refine ⟨ao, cap, by rw [← e]; rfl, e ▸ hro.1, ?_⟩
  exact ((Below.refl _ w).alloc (Nat.le_refl _) _).trans (hb.mono (by simp))
theorem list_nil (w : World) :
    Calls Try.prog 23 #[.pointer none] w fun e w' => e = .returned (.slice none 0 0) ∧ w' = w := by
  go_enter Try.func23, Try.ntmps23
  go_wp2
  go_ret
  exact ⟨rfl, rfl⟩
end Go.Proofs.Ytagbenjaidikmaa
