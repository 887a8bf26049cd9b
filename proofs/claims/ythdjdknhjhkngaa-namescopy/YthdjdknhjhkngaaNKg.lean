/-
  What is done with names, by the program and by the document: the walk of does, where names are given out.
-/
import Derived.Test.YthdjdknhjhkngaaNK
namespace Go.Proofs.Ythdjdknhjhkngaa
open Go.RowKit
set_option linter.unusedVariables false
set_option linter.unusedSimpArgs false

theorem mark_next (xs : List Int) (k : Nat) (hk : k < xs.length) : (List.replicate k (-9) ++ xs.drop k).set k (-9) = List.replicate (k + 1) (-9) ++ xs.drop (k + 1) := by
  rw [List.set_append_right _ _ (by simp)]
  have e : xs.drop k = xs[k] :: xs.drop (k + 1) := List.drop_eq_getElem_cons hk
  rw [e, List.length_replicate, Nat.sub_self, List.set_cons_zero, List.replicate_succ', List.append_assoc]
  rfl
theorem Own.head {k : IntKind} {w : World} {base : Nat} {e : TypeId} {ao : Option Addr} {n cap : Nat} {xs : List Int} (h : Own k w base e (.slice ao n cap) xs) (hn : 0 < n) : ∃ g, ao = some ⟨g, 0, none⟩ := by
  rcases h.2 with ⟨h1, h2⟩ | ⟨g, c, cur, h1, _⟩
  · cases h1
    omega
  · cases h1
    exact ⟨g, rfl⟩

set_option maxRecDepth 100000 in
set_option maxHeartbeats 4000000 in
theorem does_gen (B Y : Nat) (s : Nat → Int) (b K N : Int) (w : World) (hS : Sane s b) (hb : Blk w B (nms .u8 s b) 55) (hy : Blk w Y (nms .i64 s b) 28) (hne : B ≠ Y) (hk : kindI K = 0) :
    Calls Try.prog 11 #[.pointer (some ⟨B, 0, none⟩), .pointer (some ⟨Y, 0, none⟩), .agg #[.int .i64 K, .int .i64 N]] w fun e w' => e = .returned (.bool true) ∧
      Blk w' B (nms .u8 (setL s (genL s (genN s N))) (b)) 55 ∧ Blk w' Y (nms .i64 (setL s (genL s (genN s N))) (b)) 28 ∧ Tw B Y w w' := by
  have hkk := fun w => kind_any K N w
  rw [hk] at hkk
  go_enter Try.func11, Try.ntmps11
  have hl1 := hb.lt
  have hl2 := hy.lt
  go_wp2_with fail
  have ho : Blk (w.alloc (.cells #[.int .i64 K, .int .i64 N] 31)) w.heap.size #[.int .i64 K, .int .i64 N] 31 := Blk.at rfl
  have hx : Ext w (w.alloc (.cells #[.int .i64 K, .int .i64 N] 31)) := (Ext.refl w).alloc _
  generalize w.alloc (.cells #[.int .i64 K, .int .i64 N] 31) = W0 at ho hx ⊢
  refine (hkk _).mono ?_
  rintro e w1 ⟨rfl, hx1⟩
  have ho1 := ho.ext hx1
  have hb1 := (hb.ext hx).ext hx1
  have hy1 := (hy.ext hx).ext hx1
  have hx2 := hx.trans hx1
  clear ho hb hy hx hx1 hkk hk
  have hlo := ho1.lt
  have cN : w1.cell? ⟨w.heap.size, 1, none⟩ = some (.int .i64 N) := ho1.cell (i := 1) rfl
  have HB := hide (And.intro hb1 (And.intro hy1 (And.intro ho1 hx2)))
  clear hb1 hy1 ho1 hx2
  have hz := zero_ref
  go_wp2_with fail
  refine (gen_any B s b N _ (unhide HB).1).mono ?_
  rintro e w2 ⟨ao, cap, rfl, hown, hb2, hg2⟩
  have hy2 := (unhide HB).2.1.grown hg2 (Ne.symm hne)
  have ho2 := (unhide HB).2.2.1.grown hg2 (by omega)
  have ht2 : Tw B Y w w2 := (Tw.ext (unhide HB).2.2.2).trans (Tw.left hg2)
  have hs1 : w.heap.size < w1.heap.size := hlo
  have hlo2 := ho2.lt
  have cN2 : w2.cell? ⟨w.heap.size, 1, none⟩ = some (.int .i64 N) := ho2.cell (i := 1) rfl
  have hr2 : Blk w2 Y (nms .i64 s b) 28 ∧ Blk w2 w.heap.size #[.int .i64 K, .int .i64 N] 31 := ⟨hy2, ho2⟩
  have hly := hy2.lt
  have HB2 := hide (And.intro hb2 (And.intro hy2 (And.intro ho2 (And.intro ht2 hown))))
  have HS := hide hr2
  clear hb2 hy2 ho2 ht2 hg2 cN HB hown hr2
  go_upto_region 8 with fail
  go_cut [13, 14, 15] from 47 to 56 (fun s13 s14 s15 wc => ∃ z ao2 cap2, s13 = .pointer (some ⟨z, 0, none⟩) ∧ s14 = .slice ao2 (genN s N) cap2 ∧ s15 = .int .i64 (genE s N) ∧ w2.heap.size ≤ z ∧ Blk wc z (nms .i64 (setL s (genL s (genN s N))) b) 28 ∧ Own .i64 wc w2.heap.size 3 (.slice ao2 (genN s N) cap2) (ints (genL s (genN s N))) ∧ Ext w2 wc)
  case first =>
    refine wp_region_noPanic ?_
    refine wp_region_held_drew (S := fun w' => Blk w' Y (nms .i64 s b) 28 ∧ Blk w' w.heap.size #[.int .i64 K, .int .i64 N] 31) (by kernel_rfl) (unhide HS) (fun hHeld => ?_)
    refine wpAnyH_take (i := 0) (oi := { dst := some 48, op := Op.move (Operand.tmp 1), type := 33, pos := _, after := #[], guard := none }) (v := .pointer (some ⟨Y, 0, none⟩)) rfl (by kernel_rfl) (by kernel_rfl) (by kernel_rfl) (fun _ _ _ h => h) (Or.inl ⟨by rfl, fun _ _ => rfl⟩) hHeld ?_
    simp only [Act.put, List.setIfInBounds_toArray, List.set_cons_zero, List.set_cons_succ]
    refine wpAnyH_take (i := 1) (oi := { dst := some 49, op := Op.nilCheck (Operand.tmp 48), type := 0, pos := _, after := #[{ on := 0, ground := Ground.data }], guard := none }) (v := .pointer (some ⟨Y, 0, none⟩)) rfl (by kernel_rfl) (by kernel_rfl) (by kernel_rfl) (fun _ _ _ h => h) (Or.inl ⟨by rfl, fun _ _ => rfl⟩) hHeld ?_
    simp only [Act.put, List.setIfInBounds_toArray, List.set_cons_zero, List.set_cons_succ]
    refine wpAnyH_take (i := 2) (oi := { dst := some 50, op := Op.load 28 (Operand.tmp 49), type := 28, pos := _, after := #[{ on := 1, ground := Ground.data }], guard := none }) (v := .agg (nms .i64 s b)) rfl (by kernel_rfl) (by kernel_rfl) (by kernel_rfl) (fun _ _ _ h => h) (yieldsIf_load_mid (by rfl) 28 (.tmp 49) rfl Y 0 rfl (nms .i64 s b).toList _ (fun w' h => nms_rangeW h.1) Try.underlying28 rfl (by rw [Array.length_toList, nms_size]; exact size_ref)) hHeld ?_
    simp only [Act.put, List.setIfInBounds_toArray, List.set_cons_zero, List.set_cons_succ]
    refine wpAnyH_take (i := 3) (oi := { dst := some 51, op := Op.fieldAddr 31 (Operand.tmp 5) 1, type := 0, pos := _, after := #[], guard := none }) (v := .pointer (some ⟨w.heap.size, 1, none⟩)) rfl (by kernel_rfl) (by kernel_rfl) (by kernel_rfl) (fun _ _ _ h => h) (Or.inl ⟨by rfl, fun _ _ => rfl⟩) hHeld ?_
    simp only [Act.put, List.setIfInBounds_toArray, List.set_cons_zero, List.set_cons_succ]
    refine wpAnyH_take (i := 4) (oi := { dst := some 52, op := Op.load 3 (Operand.tmp 51), type := 3, pos := _, after := #[{ on := 3, ground := Ground.data }], guard := none }) (v := .int .i64 N) rfl (by kernel_rfl) (by kernel_rfl) (by kernel_rfl) (fun _ _ _ h => h) (Or.inl ⟨by rfl, fun w' h => by have c : w'.cell? ⟨w.heap.size, 1, none⟩ = some (.int .i64 N) := h.2.cell (i := 1) rfl; go_simp⟩) hHeld ?_
    simp only [Act.put, List.setIfInBounds_toArray, List.set_cons_zero, List.set_cons_succ]
    refine wpAnyH_ready (rs := [5, 10]) (by kernel_rfl) (by simp) (AllReadyH.cons (o := { dst := some 53, op := Op.call { callee := Callee.value (Operand.func 23), args := #[Operand.tmp 50, Operand.tmp 52], argTypes := #[33, 3] }, type := 56, pos := _, after := #[{ on := 2, ground := Ground.data }, { on := 4, ground := Ground.data }], guard := none }) rfl (fun KK hK => ?_) (AllReadyH.cons (o := { dst := some 13, op := Op.alloc 28, type := 0, pos := _, after := #[], guard := none }) rfl (fun KK hK => ?_) AllReadyH.nil))
    · skip
      go_simp
      refine (refGen_any s b N _).mono ?_
      rintro e w3 ⟨ao2, cap2, rfl, hown3, hx3⟩
      have bx3 : Blk w3 Y (nms .i64 s b) 28 ∧ Blk w3 w.heap.size #[.int .i64 K, .int .i64 N] 31 := ⟨hHeld.1.ext hx3, hHeld.2.ext hx3⟩
      refine hK.out _ _ bx3 (fun _ => ?_)
      clear hK KK
      try simp only [Act.put, List.setIfInBounds_toArray, List.set_cons_zero, List.set_cons_succ]
      refine wpAnyH_take (i := 6) (oi := { dst := some 47, op := Op.move (Operand.tmp 53), type := 56, pos := _, after := #[{ on := 5, ground := Ground.data }], guard := none }) (v := .tuple #[.agg (nms .i64 (setL s (genL s (genN s N))) b), .slice ao2 (genN s N) cap2, .int .i64 (genE s N)]) rfl (by kernel_rfl) (by kernel_rfl) (by kernel_rfl) (fun _ _ _ h => h) (Or.inl ⟨by rfl, fun _ _ => rfl⟩) bx3 ?_
      simp only [Act.put, List.setIfInBounds_toArray, List.set_cons_zero, List.set_cons_succ]
      refine wpAnyH_take (i := 7) (oi := { dst := some 54, op := Op.extract (Operand.tmp 47) 0, type := 28, pos := _, after := #[{ on := 6, ground := Ground.data }], guard := none }) (v := .agg (nms .i64 (setL s (genL s (genN s N))) b)) rfl (by kernel_rfl) (by kernel_rfl) (by kernel_rfl) (fun _ _ _ h => h) (Or.inl ⟨by rfl, fun _ _ => rfl⟩) bx3 ?_
      simp only [Act.put, List.setIfInBounds_toArray, List.set_cons_zero, List.set_cons_succ]
      refine wpAnyH_take (i := 8) (oi := { dst := some 55, op := Op.extract (Operand.tmp 47) 1, type := 40, pos := _, after := #[{ on := 6, ground := Ground.data }, { on := 11, ground := Ground.gcOnly Departure.lateStores }], guard := none }) (v := .slice ao2 (genN s N) cap2) rfl (by kernel_rfl) (by kernel_rfl) (by kernel_rfl) (fun _ _ _ h => h) (Or.inl ⟨by rfl, fun _ _ => rfl⟩) bx3 ?_
      simp only [Act.put, List.setIfInBounds_toArray, List.set_cons_zero, List.set_cons_succ]
      refine wpAnyH_take (i := 9) (oi := { dst := some 56, op := Op.extract (Operand.tmp 47) 2, type := 41, pos := _, after := #[{ on := 6, ground := Ground.data }, { on := 12, ground := Ground.gcOnly Departure.lateStores }], guard := none }) (v := .int .i64 (genE s N)) rfl (by kernel_rfl) (by kernel_rfl) (by kernel_rfl) (fun _ _ _ h => h) (Or.inl ⟨by rfl, fun _ _ => rfl⟩) bx3 ?_
      simp only [Act.put, List.setIfInBounds_toArray, List.set_cons_zero, List.set_cons_succ]
      refine wpAnyH_ready (rs := [10]) (by kernel_rfl) (by simp) (AllReadyH.cons (o := { dst := some 13, op := Op.alloc 28, type := 0, pos := _, after := #[], guard := none }) rfl (fun KK hK => ?_) AllReadyH.nil)
      go_simp
      have bx4 : Blk (w3.alloc (.cells (nms .i64 nul 0) 28)) Y (nms .i64 s b) 28 ∧ Blk (w3.alloc (.cells (nms .i64 nul 0) 28)) w.heap.size #[.int .i64 K, .int .i64 N] 31 := ⟨bx3.1.alloc _, bx3.2.alloc _⟩
      refine hK.out _ _ bx4 (fun _ => ?_)
      clear hK KK
      try simp only [Act.put, List.setIfInBounds_toArray, List.set_cons_zero, List.set_cons_succ]
      refine wpAnyH_ready (rs := [11]) (by kernel_rfl) (by simp) (AllReadyH.cons (o := { dst := none, op := Op.store 28 (Operand.tmp 13) (Operand.tmp 54), type := 0, pos := _, after := #[{ on := 10, ground := Ground.data }, { on := 7, ground := Ground.data }, { on := 5, ground := Ground.chain }, { on := 0, ground := Ground.phase }, { on := 1, ground := Ground.phase }, { on := 2, ground := Ground.phase }, { on := 3, ground := Ground.phase }, { on := 4, ground := Ground.phase }, { on := 5, ground := Ground.phase }, { on := 6, ground := Ground.phase }, { on := 7, ground := Ground.phase }, { on := 8, ground := Ground.textOnly Departure.lateStores }, { on := 9, ground := Ground.textOnly Departure.lateStores }, { on := 10, ground := Ground.phase }], guard := none }) rfl (fun KK hK => ?_) AllReadyH.nil)
      refine Eq.mpr (if_pos (by rfl)) ?_
      refine wp_store_row 28 (.tmp 13) (.tmp 54) rfl w3.heap.size (nms .i64 (setL s (genL s (genN s N))) b) rfl rfl 28 (nms .i64 nul 0) (heap_alloc_last w3 _) (by rw [nms_size]; exact size_ref) (by rw [nms_size, nms_size]) (nms_one _ _ _) ?_
      rw [World.setRow_alloc_new]
      have bx5 : Blk (w3.alloc (.cells (nms .i64 (setL s (genL s (genN s N))) b) 28)) Y (nms .i64 s b) 28 ∧ Blk (w3.alloc (.cells (nms .i64 (setL s (genL s (genN s N))) b) 28)) w.heap.size #[.int .i64 K, .int .i64 N] 31 := ⟨bx3.1.alloc _, bx3.2.alloc _⟩
      refine hK.out _ _ bx5 (fun _ => ?_)
      clear hK KK
      try simp only [Act.put, List.setIfInBounds_toArray, List.set_cons_zero, List.set_cons_succ]
      refine wpAnyH_take (i := 12) (oi := { dst := some 14, op := Op.assign (Operand.tmp 55), type := 40, pos := _, after := #[{ on := 8, ground := Ground.data }, { on := 11, ground := Ground.chain }, { on := 0, ground := Ground.phase }, { on := 1, ground := Ground.phase }, { on := 2, ground := Ground.phase }, { on := 3, ground := Ground.phase }, { on := 4, ground := Ground.phase }, { on := 5, ground := Ground.phase }, { on := 6, ground := Ground.phase }, { on := 7, ground := Ground.phase }, { on := 8, ground := Ground.phase }, { on := 9, ground := Ground.textOnly Departure.lateStores }, { on := 10, ground := Ground.phase }, { on := 11, ground := Ground.phase }], guard := none }) (v := .slice ao2 (genN s N) cap2) rfl (by kernel_rfl) (by kernel_rfl) (by kernel_rfl) (fun _ _ _ h => h) (Or.inl ⟨by rfl, fun _ _ => rfl⟩) bx5 ?_
      simp only [Act.put, List.setIfInBounds_toArray, List.set_cons_zero, List.set_cons_succ]
      refine wpAnyH_take (i := 13) (oi := { dst := some 15, op := Op.assign (Operand.tmp 56), type := 41, pos := _, after := #[{ on := 9, ground := Ground.data }, { on := 12, ground := Ground.chain }, { on := 0, ground := Ground.phase }, { on := 1, ground := Ground.phase }, { on := 2, ground := Ground.phase }, { on := 3, ground := Ground.phase }, { on := 4, ground := Ground.phase }, { on := 5, ground := Ground.phase }, { on := 6, ground := Ground.phase }, { on := 7, ground := Ground.phase }, { on := 8, ground := Ground.phase }, { on := 9, ground := Ground.phase }, { on := 10, ground := Ground.phase }, { on := 11, ground := Ground.phase }, { on := 12, ground := Ground.phase }], guard := none }) (v := .int .i64 (genE s N)) rfl (by kernel_rfl) (by kernel_rfl) (by kernel_rfl) (fun _ _ _ h => h) (Or.inl ⟨by rfl, fun _ _ => rfl⟩) bx5 ?_
      simp only [Act.put, List.setIfInBounds_toArray, List.set_cons_zero, List.set_cons_succ]
      refine wpAnyH_done (by kernel_rfl) ?_ _
      refine NoPanic.normal ?_
      have hE3 : Ext w2 w3 := (Ext.refl w2).drew.trans hx3
      have hsz3 := hE3.size
      go_wp2
      go_meet
      exact ⟨_, ao2, cap2, rfl, rfl, rfl, hsz3, Blk.at rfl, Own.alloc (Own.up hown3 (Nat.le_refl _)) _, hE3.alloc _⟩
    · go_simp
      have bx3 : Blk (w2.drew.alloc (.cells (nms .i64 nul 0) 28)) Y (nms .i64 s b) 28 ∧ Blk (w2.drew.alloc (.cells (nms .i64 nul 0) 28)) w.heap.size #[.int .i64 K, .int .i64 N] 31 := ⟨hHeld.1.alloc _, hHeld.2.alloc _⟩
      have hz3 : Blk (w2.drew.alloc (.cells (nms .i64 nul 0) 28)) w2.heap.size (nms .i64 nul 0) 28 := Blk.at rfl
      refine hK.out _ _ bx3 (fun _ => ?_)
      clear hK KK
      try simp only [Act.put, List.setIfInBounds_toArray, List.set_cons_zero, List.set_cons_succ]
      refine wpAnyH_ready (rs := [5]) (by kernel_rfl) (by simp) (AllReadyH.cons (o := { dst := some 53, op := Op.call { callee := Callee.value (Operand.func 23), args := #[Operand.tmp 50, Operand.tmp 52], argTypes := #[33, 3] }, type := 56, pos := _, after := #[{ on := 2, ground := Ground.data }, { on := 4, ground := Ground.data }], guard := none }) rfl (fun KK hK => ?_) AllReadyH.nil)
      go_simp
      refine (refGen_any s b N _).mono ?_
      rintro e w3 ⟨ao2, cap2, rfl, hown3, hx3⟩
      have bx4 : Blk w3 Y (nms .i64 s b) 28 ∧ Blk w3 w.heap.size #[.int .i64 K, .int .i64 N] 31 := ⟨bx3.1.ext hx3, bx3.2.ext hx3⟩
      refine hK.out _ _ bx4 (fun _ => ?_)
      clear hK KK
      try simp only [Act.put, List.setIfInBounds_toArray, List.set_cons_zero, List.set_cons_succ]
      refine wpAnyH_take (i := 6) (oi := { dst := some 47, op := Op.move (Operand.tmp 53), type := 56, pos := _, after := #[{ on := 5, ground := Ground.data }], guard := none }) (v := .tuple #[.agg (nms .i64 (setL s (genL s (genN s N))) b), .slice ao2 (genN s N) cap2, .int .i64 (genE s N)]) rfl (by kernel_rfl) (by kernel_rfl) (by kernel_rfl) (fun _ _ _ h => h) (Or.inl ⟨by rfl, fun _ _ => rfl⟩) bx4 ?_
      simp only [Act.put, List.setIfInBounds_toArray, List.set_cons_zero, List.set_cons_succ]
      refine wpAnyH_take (i := 7) (oi := { dst := some 54, op := Op.extract (Operand.tmp 47) 0, type := 28, pos := _, after := #[{ on := 6, ground := Ground.data }], guard := none }) (v := .agg (nms .i64 (setL s (genL s (genN s N))) b)) rfl (by kernel_rfl) (by kernel_rfl) (by kernel_rfl) (fun _ _ _ h => h) (Or.inl ⟨by rfl, fun _ _ => rfl⟩) bx4 ?_
      simp only [Act.put, List.setIfInBounds_toArray, List.set_cons_zero, List.set_cons_succ]
      refine wpAnyH_take (i := 8) (oi := { dst := some 55, op := Op.extract (Operand.tmp 47) 1, type := 40, pos := _, after := #[{ on := 6, ground := Ground.data }, { on := 11, ground := Ground.gcOnly Departure.lateStores }], guard := none }) (v := .slice ao2 (genN s N) cap2) rfl (by kernel_rfl) (by kernel_rfl) (by kernel_rfl) (fun _ _ _ h => h) (Or.inl ⟨by rfl, fun _ _ => rfl⟩) bx4 ?_
      simp only [Act.put, List.setIfInBounds_toArray, List.set_cons_zero, List.set_cons_succ]
      refine wpAnyH_take (i := 9) (oi := { dst := some 56, op := Op.extract (Operand.tmp 47) 2, type := 41, pos := _, after := #[{ on := 6, ground := Ground.data }, { on := 12, ground := Ground.gcOnly Departure.lateStores }], guard := none }) (v := .int .i64 (genE s N)) rfl (by kernel_rfl) (by kernel_rfl) (by kernel_rfl) (fun _ _ _ h => h) (Or.inl ⟨by rfl, fun _ _ => rfl⟩) bx4 ?_
      simp only [Act.put, List.setIfInBounds_toArray, List.set_cons_zero, List.set_cons_succ]
      refine wpAnyH_ready (rs := [11]) (by kernel_rfl) (by simp) (AllReadyH.cons (o := { dst := none, op := Op.store 28 (Operand.tmp 13) (Operand.tmp 54), type := 0, pos := _, after := #[{ on := 10, ground := Ground.data }, { on := 7, ground := Ground.data }, { on := 5, ground := Ground.chain }, { on := 0, ground := Ground.phase }, { on := 1, ground := Ground.phase }, { on := 2, ground := Ground.phase }, { on := 3, ground := Ground.phase }, { on := 4, ground := Ground.phase }, { on := 5, ground := Ground.phase }, { on := 6, ground := Ground.phase }, { on := 7, ground := Ground.phase }, { on := 8, ground := Ground.textOnly Departure.lateStores }, { on := 9, ground := Ground.textOnly Departure.lateStores }, { on := 10, ground := Ground.phase }], guard := none }) rfl (fun KK hK => ?_) AllReadyH.nil)
      refine Eq.mpr (if_pos (by rfl)) ?_
      refine wp_store_row 28 (.tmp 13) (.tmp 54) rfl w2.heap.size (nms .i64 (setL s (genL s (genN s N))) b) rfl rfl 28 (nms .i64 nul 0) (hz3.ext hx3) (by rw [nms_size]; exact size_ref) (by rw [nms_size, nms_size]) (nms_one _ _ _) ?_
      have bx5 : Blk (w3.setRow w2.heap.size (nms .i64 (setL s (genL s (genN s N))) b)) Y (nms .i64 s b) 28 ∧ Blk (w3.setRow w2.heap.size (nms .i64 (setL s (genL s (genN s N))) b)) w.heap.size #[.int .i64 K, .int .i64 N] 31 := ⟨bx4.1.rowOther (by omega), bx4.2.rowOther (by omega)⟩
      refine hK.out _ _ bx5 (fun _ => ?_)
      clear hK KK
      try simp only [Act.put, List.setIfInBounds_toArray, List.set_cons_zero, List.set_cons_succ]
      refine wpAnyH_take (i := 12) (oi := { dst := some 14, op := Op.assign (Operand.tmp 55), type := 40, pos := _, after := #[{ on := 8, ground := Ground.data }, { on := 11, ground := Ground.chain }, { on := 0, ground := Ground.phase }, { on := 1, ground := Ground.phase }, { on := 2, ground := Ground.phase }, { on := 3, ground := Ground.phase }, { on := 4, ground := Ground.phase }, { on := 5, ground := Ground.phase }, { on := 6, ground := Ground.phase }, { on := 7, ground := Ground.phase }, { on := 8, ground := Ground.phase }, { on := 9, ground := Ground.textOnly Departure.lateStores }, { on := 10, ground := Ground.phase }, { on := 11, ground := Ground.phase }], guard := none }) (v := .slice ao2 (genN s N) cap2) rfl (by kernel_rfl) (by kernel_rfl) (by kernel_rfl) (fun _ _ _ h => h) (Or.inl ⟨by rfl, fun _ _ => rfl⟩) bx5 ?_
      simp only [Act.put, List.setIfInBounds_toArray, List.set_cons_zero, List.set_cons_succ]
      refine wpAnyH_take (i := 13) (oi := { dst := some 15, op := Op.assign (Operand.tmp 56), type := 41, pos := _, after := #[{ on := 9, ground := Ground.data }, { on := 12, ground := Ground.chain }, { on := 0, ground := Ground.phase }, { on := 1, ground := Ground.phase }, { on := 2, ground := Ground.phase }, { on := 3, ground := Ground.phase }, { on := 4, ground := Ground.phase }, { on := 5, ground := Ground.phase }, { on := 6, ground := Ground.phase }, { on := 7, ground := Ground.phase }, { on := 8, ground := Ground.phase }, { on := 9, ground := Ground.phase }, { on := 10, ground := Ground.phase }, { on := 11, ground := Ground.phase }, { on := 12, ground := Ground.phase }], guard := none }) (v := .int .i64 (genE s N)) rfl (by kernel_rfl) (by kernel_rfl) (by kernel_rfl) (fun _ _ _ h => h) (Or.inl ⟨by rfl, fun _ _ => rfl⟩) bx5 ?_
      simp only [Act.put, List.setIfInBounds_toArray, List.set_cons_zero, List.set_cons_succ]
      refine wpAnyH_done (by kernel_rfl) ?_ _
      refine NoPanic.normal ?_
      have hE3 : Ext w2 w3 := ((Ext.refl w2).drew.alloc _).trans hx3
      go_wp2
      go_meet
      exact ⟨_, ao2, cap2, rfl, rfl, rfl, Nat.le_refl _, (hz3.ext hx3).row, Own.up (Own.setRow hown3 (by simp)) (by simp), ext_row hE3 (Nat.le_refl _)⟩
  case rest =>
    obtain ⟨z, ao2, cap2, rfl, rfl, rfl, hz2, hZ, hO2, hX⟩ := hcut
    have hBw := (unhide HB2).1.ext hX
    have hYw := (unhide HB2).2.1.ext hX
    have hTw := (unhide HB2).2.2.2.1.trans (Tw.ext hX)
    have hO1 := (unhide HB2).2.2.2.2
    have hlt1 := hO1.lt
    have hO1w := hO1.kept hX
    have hlt2 := hO2.lt
    have hszX := hX.size
    have hlen : (genL s (genN s N)).length = genN s N := genL_length (genN_le s N)
    have hmax : genN s N ≤ 64 := Nat.le_trans (genN_le s N) (sel_bound s 0 64)
    have H := hide (And.intro hZ (And.intro hYw (And.intro hBw (And.intro hTw (And.intro hO1w hO2)))))
    have HL := hide (And.intro hlt1 hlt2)
    clear hZ hO2 hX hBw hYw hTw hO1 hO1w hlt1 hlt2 HS HB2 cN2 hz
    go_wp2_with (first
      | refine wpList_load_row rfl 28 (.tmp 13) rfl z rfl 28 (nms .i64 (setL s (genL s (genN s N))) b) (0, 0) _ ((unhide H).1) Try.underlying28 rfl (by rw [nms_size]; exact size_ref) ?_
      | refine wpList_store_row rfl 28 (.tmp 59) (.tmp 58) rfl Y (nms .i64 (setL s (genL s (genN s N))) b) rfl rfl 28 (nms .i64 s b) ((unhide H).2.1) (by rw [nms_size]; exact size_ref) (by rw [nms_size, nms_size]) (nms_one _ _ _) ?_)
    generalize hn : genN s N = n at *
    generalize hG : genL s n = l at *
    have HN := hide (And.intro hn hG)
    clear hn hG
    go_loopw [67] (fun i wr => ∃ k : Nat, k ≤ n ∧ i = .int .i64 (k : Int) ∧ Own .i64 wr w1.heap.size 3 (.slice ao n cap) (List.replicate k (-9) ++ (ints l).drop k) ∧ Own .i64 wr w2.heap.size 3 (.slice ao2 n cap2) (ints l) ∧ Blk wr B (nms .u8 (setL s l) b) 55 ∧ Blk wr Y (nms .i64 (setL s l) b) 28 ∧ Tw B Y w wr)
      (fun i _ => n - (intOf i).toNat)
    case atStart => exact ⟨0, Nat.zero_le _, rfl, (unhide H).2.2.2.2.1.setRow (by omega), (unhide H).2.2.2.2.2.setRow hly, (unhide H).2.2.1.rowOther hne, (unhide H).2.1.row, (unhide H).2.2.2.1.trans (Tw.row _ _)⟩
    case round =>
      obtain ⟨k, hk, rfl, h1, h2, h3, h4, h5⟩ := hrel
      by_cases hlt : k < n
      · obtain ⟨g1, rfl⟩ := h1.head (by omega)
        obtain ⟨g2, rfl⟩ := h2.head (by omega)
        have hg1 := (unhide HL).1 g1 rfl
        have hg2 := (unhide HL).2 g2 rfl
        have hil : (ints l).length = n := by rw [ints_length]; exact hlen
        obtain ⟨x, hx⟩ : ∃ x, (ints l)[k]? = some x := ⟨_, List.getElem?_eq_getElem (by omega)⟩
        have c1 := h1.cellAt k (by simp; omega)
        rw [show (List.replicate k (-9) ++ (ints l).drop k)[k]'(by simp; omega) = x by
          rw [List.getElem_append_right (by simp)]
          obtain ⟨_, he⟩ := List.getElem?_eq_some_iff.1 hx
          simp [he]] at c1
        have f1 := h1.frozenAt k
        have c2 := h2.cellAt k (by omega)
        rw [(List.getElem?_eq_some_iff.1 hx).2] at c2
        have HH := hide (And.intro h1 (And.intro h2 (And.intro h3 (And.intro h4 h5))))
        have HX := hide hx
        have hkn : (k : Int) < (n : Int) := by omega
        clear h1 h2 h3 h4 h5 hx
        go_wp2_with fail
        go_quiet (fail)
        go_wp2
        go_roundw
        case rel =>
          obtain ⟨h1, h2, h3, h4, h5⟩ := unhide HH
          have n1 := Own.stored (w := wr.drewN nq) h1 k (-9)
          rw [mark_next (ints l) k (by omega)] at n1
          refine ⟨k + 1, by omega, by go_num, n1, ?_, ?_, ?_, ?_⟩
          · exact Own.grown (w := wr.drewN nq) h2 (grownBy_set _ g1 k (.int .i64 (-9))) (by omega)
          · exact Blk.other (w := wr.drewN nq) h3 k (.int .i64 (-9)) (by omega)
          · exact Blk.other (w := wr.drewN nq) h4 k (.int .i64 (-9)) (by omega)
          · exact Tw.set (wr := wr.drewN nq) (h5.trans (Tw.ext ((Ext.refl wr).drewN nq))) (by omega) k _
        case measure => simp [intOf]; omega
      · obtain rfl : k = n := by omega
        have H2 := hide (And.intro h3 (And.intro h4 h5))
        clear h1 h2 h3 h4 h5
        go_wp2
        go_ret
        obtain ⟨e1, e2⟩ := unhide HN
        rw [e1, e2]
        exact ⟨rfl, (unhide H2).1, (unhide H2).2.1, (unhide H2).2.2⟩
end Go.Proofs.Ythdjdknhjhkngaa
