/-
  Pixels: rows of vectors in memory, and the walks of Lay and Pack.
-/
import Derived.Test.YtijkkhnhejadgaaPG
import Derived.Test.YtijkkhnhejadgaaW4
import Derived.Deep.RegionHeld3
namespace Go.Proofs.Ytijkkhnhejadgaa
open Go.RowKit

/-- Nothing but 0. -/
def nul : Nat → Int := fun _ => 0
/-- The slice value v holds the vectors cs. -/
def VRow (w : World) (v : Value) (cs : List (Nat → Int)) : Prop :=
  (cs = [] ∧ ∃ ao cap, v = .slice ao 0 cap) ∨
  (cs ≠ [] ∧ ∃ b off cap, v = .slice (some ⟨b, off, none⟩) cs.length cap ∧ ∀ i j, i < cs.length → j < 4 → w.cell? ⟨b, off + i * 4 + j, none⟩ = some (.int .i32 (cs.getD i nul j)))
theorem VRow.ext {w w' : World} {v : Value} {cs : List (Nat → Int)} (h : VRow w v cs) (hx : Ext w w') : VRow w' v cs := by
  rcases h with h | ⟨hne, b, off, cap, rfl, hc⟩
  · exact .inl h
  · refine .inr ⟨hne, b, off, cap, rfl, fun i j hi hj => ?_⟩
    rw [hx.cell (p := ⟨b, off + i * 4 + j, none⟩) (World.block_lt_of_cell? w _ (hc i j hi hj))]
    exact hc i j hi hj
theorem VRow.shape {w : World} {v : Value} {cs : List (Nat → Int)} (h : VRow w v cs) : ∃ ao cap, v = .slice ao cs.length cap := by
  rcases h with ⟨rfl, ao, cap, rfl⟩ | ⟨_, b, off, cap, rfl, _⟩
  · exact ⟨ao, cap, rfl⟩
  · exact ⟨_, cap, rfl⟩
theorem VRow.at {w : World} {ao : Option Addr} {n cap : Nat} {cs : List (Nat → Int)} (h : VRow w (.slice ao n cap) cs) (i : Nat) (hi : i < cs.length) :
    ∃ b off, ao = some ⟨b, off, none⟩ ∧ ∀ i j, i < cs.length → j < 4 → w.cell? ⟨b, off + i * 4 + j, none⟩ = some (.int .i32 (cs.getD i nul j)) := by
  rcases h with ⟨rfl, _⟩ | ⟨_, b, off, c, hv, hc⟩
  · simp at hi
  · cases hv
    exact ⟨b, off, rfl, hc⟩

/-- The bytes of a colour. -/
def pk (f : Nat) (c : Nat → Int) : List Int := low (packN f c) (siz f)
/-- The bytes of all colours. -/
def layL (f : Nat) (cs : List (Nat → Int)) : List Int := cs.flatMap (pk f)
theorem pk_length (f : Nat) (c : Nat → Int) : (pk f c).length = siz f := low_length _ _
theorem layL_length (f : Nat) (cs : List (Nat → Int)) : (layL f cs).length = cs.length * siz f := by
  induction cs with
  | nil => simp [layL]
  | cons c cs ih =>
    unfold layL at *
    rw [List.flatMap_cons, List.length_append, ih, pk_length, List.length_cons, Nat.succ_mul]
    omega
theorem layL_next (f : Nat) (cs : List (Nat → Int)) (k : Nat) (hk : k < cs.length) : layL f (cs.take (k + 1)) = layL f (cs.take k) ++ pk f (cs.getD k nul) := by
  rw [List.take_succ_eq_append_getElem hk]
  unfold layL
  rw [List.flatMap_append]
  simp [hk]

/-- The block g holds the bytes xs, no more. -/
def Bys (w : World) (g : Nat) (xs : List Int) : Prop := w.heap[g]? = some (.cells (xs.map (Value.int .u8)).toArray 5 (0, 0))
theorem Own.bys {w : World} {base g n : Nat} {xs : List Int} (h : Own .u8 w base 5 (.slice (some ⟨g, 0, none⟩) n n) xs) : Bys w g xs := by
  obtain ⟨hl, h2⟩ := h
  rcases h2 with ⟨h2, _⟩ | ⟨g2, cap, cur, hv, hb, hg, hn, hm, hs, ht⟩
  · cases h2
  · cases hv
    have e : cur.toList = xs.map (Value.int .u8) := by
      rw [← ht]
      rw [List.take_of_length_le]
      simp
      omega
    unfold Bys
    rw [hg, ← e]
theorem Bys.row {w : World} {g : Nat} {xs : List Int} (h : Bys w g xs) (hm : xs.length ≤ maxLen) : Row .u8 w (.slice (some ⟨g, 0, none⟩) xs.length xs.length) xs := by
  by_cases h0 : xs = []
  · subst h0
    exact .inl ⟨rfl, _, _, rfl, (fun h => by cases h), Nat.zero_le _⟩
  · refine .inr ⟨h0, g, 0, xs.length, rfl, Nat.le_refl _, hm, fun i hi => ?_⟩
    have := Blk.cell (w := w) (b := g) h (i := 0 + i) (v := .int .u8 (xs.getD i 0)) (by simp [hi])
    exact this

theorem splice_mid (A ys : List Int) (m : Nat) : splice ((A ++ List.replicate m 0).map (Value.int .u8)) A.length (ys.map (Value.int .u8)) = (A ++ ys ++ List.replicate (m - ys.length) 0).map (Value.int .u8) := by
  unfold splice
  rw [List.map_append, List.take_left' (by simp), List.length_map, List.drop_append]
  simp

theorem Bys.ext {w w' : World} {g : Nat} {xs : List Int} (h : Bys w g xs) (hx : Ext w w') : Bys w' g xs := Blk.ext h hx
theorem bys_ext {w w' : World} {g : Nat} {xs : List Int} (hx : Ext w w') (h : Bys w g xs) : Bys w' g xs := Blk.ext h hx
theorem size5 : (Try.prog.info? 5).map (·.size) = some 1 := by kernel_rfl
/-- Four bytes behind nothing. -/
theorem put32_nil (x : Int) (w : World) (h0 : 0 ≤ x) (h1 : x < 4294967296) :
    Calls Try.prog 35 #[.slice none 0 0, .int .u32 x] w fun e w' => ∃ b off cap, e = .returned (.slice (some ⟨b, off, none⟩) 4 cap) ∧ (∀ j, j < 4 → w'.cell? ⟨b, off + j, none⟩ = some (.int .u8 ((low x 4).getD j 0))) ∧ Ext w w' := by
  refine (put32_any (.slice none 0 0) [] x w (Row.nil _ _) (by decide) h0 h1).mono ?_
  rintro e w' ⟨ao, cap, rfl, hown, hx⟩
  have hl := low_length x 4
  obtain ⟨b, off, rfl, hc⟩ := hown.row.at 0 (by simp [hl])
  refine ⟨b, off, cap, rfl, fun j hj => ?_, hx⟩
  rw [hc j (by simp [hl, hj])]
  simp [hl, hj]
theorem low_take (x : Int) (f : Nat) (h1 : 1 ≤ f) (h7 : f ≤ 7) (j : Nat) (hj : j < siz f) : (low x 4).getD j 0 = (low x (siz f)).getD j 0 := by
  rcases siz_three h1 h7 with h | h | h <;> rw [h] at hj ⊢
  · obtain rfl : j = 0 := by omega
    rfl
  · rcases (by omega : j = 0 ∨ j = 1) with rfl | rfl <;> rfl

/-- 'copy' into a block that is known whole, as one step of a region that draws. -/
theorem step_copy_own {P : Program} {ops : Array Oper} {o : Oper} {a : Act} {w : World} {K : Act → World → Prop} {Q : Exit → Act → World → Prop} {E : Prop} (hgd : o.guard = none) (d s : Operand) (dT sT : TypeId)
    (ho : o.op = .call { callee := .builtin .copy, args := #[d, s], argTypes := #[dT, sT] }) (elem : TypeId) (hu : P.underlying dT = some (.slice elem)) (hsz : (P.info? elem).map (·.size) = some 1)
    (g off dLen dCap : Nat) (ad : Addr) (sLen sCap : Nat) (hd : a.eval d = .slice (some ⟨g, off, none⟩) dLen dCap) (hs : a.eval s = .slice (some ad) sLen sCap)
    (cur : Array Value) (t : TypeId) (hg : w.heap[g]? = some (.cells cur t (0, 0))) (cs : List Value) (hn : cs.length = Nat.min sLen dLen)
    (hsrc : ∀ j v, cs[j]? = some v → w.cell? (ad.add j) = some v) (hfit : off + cs.length ≤ cur.size) (h1 : ∀ v ∈ cs, v.oneCell' = true)
    (h : K (a.put o.dst (goInt cs.length)) (w.setRow g (cur.toList.take off ++ (cs ++ cur.toList.drop (off + cs.length))).toArray)) :
    if Region.wanted o (yielded ops a.tmps) = true then Oper.wp P o a w K Q else E := by
  have hw : Region.wanted o (yielded ops a.tmps) = true := by simp [Region.wanted, hgd]
  rw [if_pos hw]
  have hrun := run_copy_row (P := P) w dT sT o.type elem g off dLen dCap ad sLen sCap cur t cs hu hsz hg hn hsrc hfit h1
  unfold Oper.wp
  simp [execOp, ho, resolve, invoke, builtin, hd, hs, hrun, Result.andThen]
  exact h

/-- The same for a pixel's bytes: S bytes of the four go to place k. -/
theorem step_copy_px {P : Program} {ops : Array Oper} {o : Oper} {a : Act} {w : World} {K : Act → World → Prop} {Q : Exit → Act → World → Prop} {E : Prop} (hgd : o.guard = none) (d s : Operand) (dT sT : TypeId)
    (ho : o.op = .call { callee := .builtin .copy, args := #[d, s], argTypes := #[dT, sT] }) (hu : P.underlying dT = some (.slice 5)) (hsz : (P.info? 5).map (·.size) = some 1)
    (f g k b off cap : Nat) (x : Int) (h1 : 1 ≤ f) (h7 : f ≤ 7) (hd : a.eval d = .slice (some ⟨g, k * siz f, none⟩) (siz f) (siz f)) (hs : a.eval s = .slice (some ⟨b, off, none⟩) 4 cap)
    (hc : ∀ j, j < 4 → w.cell? ⟨b, off + j, none⟩ = some (.int .u8 ((low x 4).getD j 0)))
    (A : List Int) (m : Nat) (hA : A.length = k * siz f) (hm : siz f ≤ m) (hg : Bys w g (A ++ List.replicate m 0))
    (h : ∀ w', Bys w' g (A ++ low x (siz f) ++ List.replicate (m - siz f) 0) → (∀ B w0, Below B w0 w → B ≤ g → Below B w0 w') → (∀ r cs t, r ≠ g → Blk w r cs t → Blk w' r cs t) → K (a.put o.dst (goInt (siz f : Nat))) w') :
    if Region.wanted o (yielded ops a.tmps) = true then Oper.wp P o a w K Q else E := by
  have hl := low_length x (siz f)
  have hS := siz_three h1 h7
  refine step_copy_own hgd d s dT sT ho 5 hu hsz g (k * siz f) (siz f) (siz f) ⟨b, off, none⟩ 4 cap hd hs _ 5 hg ((low x (siz f)).map (Value.int .u8)) ?_ ?_ ?_ ?_ ?_
  · simp only [List.length_map, hl]
    rcases hS with h | h | h <;> rw [h] <;> rfl
  · intro j v hv
    have hj : j < siz f := by
      have := (List.getElem?_eq_some_iff.1 hv).1
      simpa [hl] using this
    rw [Addr.add_mid, hc j (by omega), low_take x f h1 h7 j hj, ← hv]
    simp [hl, hj]
  · simp [hl, hA]
    omega
  · intro v hv
    obtain ⟨n, _, rfl⟩ := List.mem_map.1 hv
    rfl
  · have e := splice_mid A (low x (siz f)) m
    unfold splice at e
    rw [hA, hl] at e
    simp only [List.length_map, hl] at e ⊢
    rw [e]
    exact h _ (Blk.row hg) (fun B w0 hb hB => below_setRow hb hB _) (fun r cs t hr hB => hB.rowOther hr)

/-- What Lay's round reads. -/
def HeldL (f b6 b10 : Nat) (c : Nat → Int) (w : World) : Prop := Blk w b6 (layF f) 60 ∧ Blk w b10 #[.int .i32 (c 0), .int .i32 (c 1), .int .i32 (c 2), .int .i32 (c 3)] 35

theorem HeldL.ext {f b6 b10 : Nat} {c : Nat → Int} {w w' : World} (h : HeldL f b6 b10 c w) (hx : Ext w w') : HeldL f b6 b10 c w' := ⟨h.1.ext hx, h.2.ext hx⟩

set_option maxHeartbeats 4000000 in
theorem lay_any (f : Nat) (ao : Option Addr) (cap : Nat) (cs : List (Nat → Int)) (w : World) (h1 : 1 ≤ f) (h7 : f ≤ 7) (hr : VRow w (.slice ao cs.length cap) cs) (hm : cs.length ≤ 8796093022208) :
    Calls Try.prog 22 #[.int .i64 (f : Int), .slice ao cs.length cap] w fun e w' =>
      ∃ ao2 cap2, e = .returned (.tuple #[.slice ao2 (cs.length * siz f) cap2, .int .i64 0]) ∧ Row .u8 w' (.slice ao2 (cs.length * siz f) cap2) (layL f cs) ∧ Ext w w' := by
  obtain ⟨i0, hi, hz0, hz1, hz2⟩ := info_parts info5
  have hs4 := siz_three h1 h7
  have hsm : cs.length * siz f ≤ cs.length * 4 := Nat.mul_le_mul_left _ (by omega)
  have hsm2 : ((cs.length : Int) * (siz f : Int)) = ((cs.length * siz f : Nat) : Int) := by simp
  have hsm3 : 0 ≤ (cs.length : Int) * (siz f : Int) := by omega
  have hsm4 : (cs.length : Int) * (siz f : Int) ≤ 35184372088832 := by omega
  have HS4 := hide hs4
  have HS2 := hide hsm2
  clear hs4 hsm2
  go_enter Try.func22, Try.ntmps22
  go_wp2_with fail
  refine (find_any f _ h1 h7).mono ?_
  rintro e w1 ⟨rfl, hx⟩
  have hw1 := hx.size
  have X1 := hide (show Ext w (w1.alloc (.cells (layF f) 60)) from hx.alloc _)
  have HR := hide hr
  clear hx hr
  have c1 : (w1.alloc (.cells (layF f) 60)).cell? ⟨w1.heap.size, 1, none⟩ = some (.int .i64 (siz f : Int)) := (Blk.at rfl).cell rfl
  go_wp2_with (first
    | refine wpList_store_last rfl 60 (.tmp 6) (.tmp 14) rfl _ rfl (layF f) rfl 19 size60 (layF_size _) rfl (layF_one _) ?_
    | (at_make; refine wpList_make_Zeros _ rfl _ _ 36 rfl w.heap.size 5 i0 .u8 Try.underlying36 hi hz0 hz1 _ _ _ _ (cs.length * siz f) rfl rfl (unhide HS2) (unhide HS2) ?b1 ?b2 ?b3 ?_))
  case b1 => rw [hz2]; omega
  case b2 => unfold maxLen; omega
  case b3 => exact (unhide X1).size
  intro w2 hown hgrow
  have D0 : Hid (Blk w2 w1.heap.size (layF f) 60 ∧ Bys w2 (w1.heap.size + 1) (List.replicate (cs.length * siz f) 0) ∧ Ext w w2) := by
    have hE : Ext (w1.alloc (.cells (layF f) 60)) w2 := grown_below hgrow (Nat.le_refl _) (fun k h => by cases h)
    have hb := hown.bys
    exact ⟨(Blk.at rfl).ext hE, hb, (unhide X1).trans hE⟩
  clear hown hgrow c1
  go_wp2
  go_loopw [27] (fun i wr => ∃ k : Nat, k ≤ cs.length ∧ i = .int .i64 k ∧ Blk wr w1.heap.size (layF f) 60 ∧ Bys wr (w1.heap.size + 1) (layL f (cs.take k) ++ List.replicate ((cs.length - k) * siz f) 0) ∧ Ext w wr) (fun i _ => cs.length - (intOf i).toNat)
  case atStart => exact ⟨0, Nat.zero_le _, rfl, (unhide D0).1, (unhide D0).2.1, (unhide D0).2.2⟩
  case round =>
    obtain ⟨k, hk, rfl, hb6, hbg, hx⟩ := hrel
    by_cases hlt : k < cs.length
    · obtain ⟨b, off, rfl, hc⟩ := ((unhide HR).ext hx).at k hlt
      obtain ⟨c, HC⟩ : ∃ c, Hid (cs.getD k nul = c) := ⟨_, rfl⟩
      have d0 : wr.cell? ⟨b, off + k * 4, none⟩ = some (.int .i32 (c 0)) := by rw [← unhide HC]; exact hc k 0 hlt (by omega)
      have d1 : wr.cell? ⟨b, off + k * 4 + 1, none⟩ = some (.int .i32 (c 1)) := by rw [← unhide HC]; exact hc k 1 hlt (by omega)
      have d2 : wr.cell? ⟨b, off + k * 4 + 2, none⟩ = some (.int .i32 (c 2)) := by rw [← unhide HC]; exact hc k 2 hlt (by omega)
      have d3 : wr.cell? ⟨b, off + k * 4 + 3, none⟩ = some (.int .i32 (c 3)) := by rw [← unhide HC]; exact hc k 3 hlt (by omega)
      have D := hide (And.intro hb6 (And.intro hbg hx))
      clear hb6 hbg hx hc D0
      have YA := hide (And.intro (Bys.ext (unhide D).2.1 ((Ext.refl wr).alloc (.cells #[.int .i32 (c 0), .int .i32 (c 1), .int .i32 (c 2), .int .i32 (c 3)] 35))) ((unhide D).2.2.alloc (.cells #[.int .i32 (c 0), .int .i32 (c 1), .int .i32 (c 2), .int .i32 (c 3)] 35)))
      have hh0 : HeldL f w1.heap.size wr.heap.size c (wr.alloc (.cells #[.int .i32 (c 0), .int .i32 (c 1), .int .i32 (c 2), .int .i32 (c 3)] 35)) := ⟨(unhide D).1.alloc _, Blk.at rfl⟩
      have HH0 := hide hh0
      have hfit : (k + 1) * siz f ≤ cs.length * siz f := Nat.mul_le_mul_right _ (by omega)
      have hN : cs.length * siz f ≤ 140737488355328 := by omega
      have hpb := pack_bound f c h1 h7
      have hlt2 := (unhide D).2.1
      have hwr : w1.heap.size + 1 < wr.heap.size := Blk.lt hlt2
      clear hlt2
      have HA : Hid ((layL f (cs.take k)).length = k * siz f) := by
        show _ = _
        rw [layL_length, List.length_take]
        congr 1
        omega
      have HM : Hid (siz f ≤ (cs.length - k) * siz f) := by
        obtain ⟨m, hm⟩ : ∃ m, cs.length - k = m + 1 := ⟨cs.length - k - 1, by omega⟩
        rw [hm, Nat.succ_mul]
        show _ ≤ _
        omega
      clear hh0
      go_wp2
      refine wp_region_noPanic ?_
      refine wp_region_held_drew (S := fun w' => HeldL f w1.heap.size wr.heap.size c w') (by kernel_rfl) (unhide HH0) (fun hHeld => ?_)
      refine wpAnyH_take (i := 0) (v := .agg (layF f)) rfl (by kernel_rfl) (by kernel_rfl) (by kernel_rfl) (fun _ _ _ h => h) (yieldsIf_load_mid (by rfl) 60 (.tmp 6) rfl w1.heap.size 0 rfl (layF f).toList _ (fun w' h => h.1.range 0 _ rfl) Try.underlying60 rfl size60) hHeld ?_
      refine wpAnyH_take (i := 1) (v := .slice (some ⟨w1.heap.size + 1, 0, none⟩) (cs.length * siz f) (cs.length * siz f)) rfl (by kernel_rfl) (by kernel_rfl) (by kernel_rfl) (fun _ _ _ h => h) (Or.inl ⟨by rfl, fun _ _ => rfl⟩) hHeld ?_
      refine wpAnyH_take (i := 2) (v := .int .i64 (k : Int)) rfl (by kernel_rfl) (by kernel_rfl) (by kernel_rfl) (fun _ _ _ h => h) (Or.inl ⟨by rfl, fun _ _ => rfl⟩) hHeld ?_
      refine wpAnyH_take (i := 4) (v := .agg (layF f)) rfl (by kernel_rfl) (by kernel_rfl) (by kernel_rfl) (fun _ _ _ h => h) (yieldsIf_load_mid (by rfl) 60 (.tmp 6) rfl w1.heap.size 0 rfl (layF f).toList _ (fun w' h => h.1.range 0 _ rfl) Try.underlying60 rfl size60) hHeld ?_
      refine wpAnyH_take (i := 5) (v := .agg #[.int .i32 (c 0), .int .i32 (c 1), .int .i32 (c 2), .int .i32 (c 3)]) rfl (by kernel_rfl) (by kernel_rfl) (by kernel_rfl) (fun _ _ _ h => h) (yieldsIf_load_mid (by rfl) 35 (.tmp 10) rfl wr.heap.size 0 rfl [.int .i32 (c 0), .int .i32 (c 1), .int .i32 (c 2), .int .i32 (c 3)] _ (fun w' h => h.2.range 0 _ rfl) Try.underlying35 rfl size35) hHeld ?_
      refine wpAnyH_ready (rs := [3]) (by kernel_rfl) (by simp) (AllReadyH.cons rfl (fun K hK => ?_) AllReadyH.nil)
      go_simp
      refine (pixel_any f (w1.heap.size + 1) 0 (cs.length * siz f) (cs.length * siz f) k _ h1 h7 hfit (Nat.le_refl _) hN).mono ?_
      rintro e w3 ⟨rfl, hx3⟩
      have bx3 : HeldL f w1.heap.size wr.heap.size c w3 := hHeld.ext hx3
      have YB : Hid (Bys w3 (w1.heap.size + 1) (layL f (cs.take k) ++ List.replicate ((cs.length - k) * siz f) 0) ∧ Ext w w3) := ⟨bys_ext hx3 (unhide YA).1, (unhide YA).2.drew.trans hx3⟩
      rw [Nat.zero_add]
      refine hK.out _ _ bx3 (fun _ => ?_)
      clear hK K hHeld hx3 YA
      refine wpAnyH_ready (rs := [6]) (by kernel_rfl) (by simp) (AllReadyH.cons rfl (fun K hK => ?_) AllReadyH.nil)
      go_simp
      refine (numberL_any f c _ h1 h7).mono ?_
      rintro e w4 ⟨rfl, hx4⟩
      have bx4 : HeldL f w1.heap.size wr.heap.size c w4 := bx3.ext hx4
      have YC : Hid (Bys w4 (w1.heap.size + 1) (layL f (cs.take k) ++ List.replicate ((cs.length - k) * siz f) 0) ∧ Ext w w4) := ⟨bys_ext hx4 (unhide YB).1, (unhide YB).2.trans hx4⟩
      refine hK.out _ _ bx4 (fun _ => ?_)
      clear hK K bx3 hx4 YB
      refine wpAnyH_ready (rs := [7]) (by kernel_rfl) (by simp) (AllReadyH.cons rfl (fun K hK => ?_) AllReadyH.nil)
      go_simp
      refine (put32_nil (packN f c) _ hpb.1 hpb.2).mono ?_
      rintro e w5 ⟨b5, off5, cap5, rfl, hc5, hx5⟩
      have bx5 : HeldL f w1.heap.size wr.heap.size c w5 := bx4.ext hx5
      have YD : Hid (Bys w5 (w1.heap.size + 1) (layL f (cs.take k) ++ List.replicate ((cs.length - k) * siz f) 0) ∧ Ext w w5) := ⟨bys_ext hx5 (unhide YC).1, (unhide YC).2.trans hx5⟩
      refine hK.out _ _ bx5 (fun _ => ?_)
      clear hK K bx4 hx5 YC
      refine wpAnyH_ready (rs := [8]) (by kernel_rfl) (by simp) (AllReadyH.cons rfl (fun K hK => ?_) AllReadyH.nil)
      refine step_copy_px rfl (.tmp 35) (.tmp 39) 36 36 rfl Try.underlying36 size5 f (w1.heap.size + 1) k b5 off5 cap5 (packN f c) h1 h7 rfl rfl hc5 (layL f (cs.take k)) ((cs.length - k) * siz f) (unhide HA) (unhide HM) (unhide YD).1 ?_
      intro w6 h6 hB6 hO6
      have bx6 : HeldL f w1.heap.size wr.heap.size c w6 := ⟨hO6 _ _ _ (by omega) bx5.1, hO6 _ _ _ (by omega) bx5.2⟩
      have YE : Hid (Bys w6 (w1.heap.size + 1) (layL f (cs.take k) ++ low (packN f c) (siz f) ++ List.replicate ((cs.length - k) * siz f - siz f) 0) ∧ Ext w w6) := ⟨h6, hB6 _ _ (unhide YD).2 (by omega)⟩
      refine hK.out _ _ bx6 (fun _ => ?_)
      have HB6 := hide bx6.1
      clear hK K bx5 YD h6 hB6 hO6 hc5 bx6
      refine wpAnyH_done (by kernel_rfl) ?_ _
      refine NoPanic.normal ?_
      go_wp2
      go_roundw
      case rel =>
        refine ⟨k + 1, by omega, by go_num, unhide HB6, ?_, (unhide YE).2⟩
        rw [layL_next f cs k hlt, unhide HC, show (cs.length - (k + 1)) * siz f = (cs.length - k) * siz f - siz f by
          obtain ⟨m, hm⟩ : ∃ m, cs.length - k = m + 1 := ⟨cs.length - k - 1, by omega⟩
          rw [hm, Nat.succ_mul, show cs.length - (k + 1) = m by omega]
          omega]
        exact (unhide YE).1
      case measure => simp [intOf]; omega
    · have hkn : k = cs.length := by omega
      have D := hide (And.intro hbg hx)
      clear hb6 hbg hx D0 X1
      go_wp2
      have e : layL f (cs.take k) ++ List.replicate ((cs.length - k) * siz f) 0 = layL f cs := by
        rw [hkn, List.take_length, Nat.sub_self, Nat.zero_mul]
        simp
      have hR := (e ▸ (unhide D).1 : Bys wr (w1.heap.size + 1) (layL f cs)).row (by rw [layL_length]; unfold maxLen; omega)
      rw [layL_length] at hR
      refine bodyPost_ret (v := .tuple #[.slice (some ⟨w1.heap.size + 1, 0, none⟩) (cs.length * siz f) (cs.length * siz f), .int .i64 0]) (by simp [results, Try.results22, go_sem]) rfl ⟨_, _, rfl, hR, (unhide D).2⟩

theorem lay_bad (f : Int) (v : Value) (w : World) (h : f < 1 ∨ 7 < f) :
    Calls Try.prog 22 #[.int .i64 f, v] w fun e w' => e = .returned (.tuple #[.slice none 0 0, .int .i64 2]) ∧ Ext w w' := by
  go_enter Try.func22, Try.ntmps22
  go_wp2_with fail
  refine (find_bad f _ h).mono ?_
  rintro e w1 ⟨rfl, hx⟩
  have X := hide hx
  clear hx
  go_wp2_with (refine wpList_store_last rfl 60 (.tmp 6) (.tmp 14) rfl _ rfl (layF 0) rfl 19 size60 (layF_size _) rfl (layF_one _) ?_)
  refine bodyPost_ret (v := .tuple #[.slice none 0 0, .int .i64 2]) (by simp [results, Try.results22, go_sem]) rfl ⟨rfl, (unhide X).alloc _⟩
end Go.Proofs.Ytijkkhnhejadgaa
