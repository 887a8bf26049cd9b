/-
  Vertices out of bytes: the document's Row.
-/
import Derived.Test.YtmigakbccmkjoaaFEk
import Derived.Test.YtmigakbccmkjoaaFEg
namespace Go.Proofs.Ytmigakbccmkjoaa
open Go.RowKit
set_option linter.unusedVariables false
set_option linter.unusedSimpArgs false

set_option maxRecDepth 10000 in
set_option maxHeartbeats 400000 in
theorem rrow_any (v : Value) (xs : List Int) (A : Arr) (fi co : Int) (w : World) (hr : Row .u8 w v xs) (hB : Byt xs) (hm : xs.length ≤ 140737488355000) :
    Calls Try.prog 10 #[v, .agg (arC A), .int .i64 fi, .int .i64 co] w (RowQ w (rowF xs A fi co) (rowE xs A fi co)) := by
  have HCK := hide (fun wx => rright_any A wx)
  have hX := (Ext.refl w).alloc (.cells (arC A) 24)
  have hA1 : Blk (w.alloc (.cells (arC A) 24)) w.heap.size (arC A) 24 := Blk.new _ _ _
  have H1 := hide (And.intro hA1 hX)
  have HR := hide hr
  have hE : rowE xs A fi co = if arrB A = false ∨ fi < 0 ∨ 65535 < fi ∨ co < 0 ∨ 65535 < co then 2 else if 256 < co then 3 else if (List.range co.toNat).all (fun i => (vtxF xs A (fi.toNat + i)).isSome) = true then 0 else 7 := rfl
  have hV : rowF xs A fi co = if rowE xs A fi co = 0 then fstL (fun i => vtxF xs A (fi.toNat + i)) co.toNat else [] := rfl
  have fin0 : ∀ (er : Int) (e : Ending) (w' : World), rowE xs A fi co = er → er ≠ 0 → e = .returned (.tuple #[.slice none 0 0, .int .i64 er]) → Ext w w' → RowQ w (rowF xs A fi co) (rowE xs A fi co) e w' := by
    rintro er e w' h1 h2 rfl hx
    have : rowF xs A fi co = [] := by rw [hV, if_neg (by rw [h1]; exact h2)]
    rw [this, h1]
    exact ⟨none, 0, rfl, GO.nil _ _, hx⟩
  have HFIN := hide fin0
  clear hA1 hX hr fin0
  by_cases hA : arrB A = true
  · rw [hA] at HCK
    by_cases h0 : fi < 0 ∨ 65535 < fi ∨ co < 0 ∨ 65535 < co
    · have E1 : Hid (rowE xs A fi co = 2) := by rw [Hid, hE, if_pos (.inr h0)]
      have HA := hide hA
      clear hA hE hV
      unfold arC
      rcases (by omega : fi < 0 ∨ (0 ≤ fi ∧ 65535 < fi) ∨ (0 ≤ fi ∧ fi ≤ 65535 ∧ co < 0) ∨ (0 ≤ fi ∧ fi ≤ 65535 ∧ 0 ≤ co ∧ 65535 < co)) with h1 | ⟨h1, h2⟩ | ⟨h1, h2, h3⟩ | ⟨h1, h2, h3, h4⟩
      · have d1 : decide (fi < 0) = true := by simpa using h1
        go_enter Try.func10, Try.ntmps10
        go_wp2_with (go_at_call 14; refine (unhide HCK _).mono ?_; rintro e w1 ⟨rfl, hx1⟩; have HX2 := hide ((unhide H1).2.trans hx1); clear hx1)
        refine bodyPost_ret (v := .tuple #[.slice none 0 0, .int .i64 2]) (by simp [results, Try.results10, go_sem]) rfl (unhide HFIN 2 _ _ (unhide E1) (by decide) rfl (unhide HX2))
      · have d1 : decide (fi < 0) = false := by simp; omega
        have d2 : decide (65535 < fi) = true := by simpa using h2
        go_enter Try.func10, Try.ntmps10
        go_wp2_with (go_at_call 14; refine (unhide HCK _).mono ?_; rintro e w1 ⟨rfl, hx1⟩; have HX2 := hide ((unhide H1).2.trans hx1); clear hx1)
        refine bodyPost_ret (v := .tuple #[.slice none 0 0, .int .i64 2]) (by simp [results, Try.results10, go_sem]) rfl (unhide HFIN 2 _ _ (unhide E1) (by decide) rfl (unhide HX2))
      · have d1 : decide (fi < 0) = false := by simp; omega
        have d2 : decide (65535 < fi) = false := by simp; omega
        have d3 : decide (co < 0) = true := by simpa using h3
        go_enter Try.func10, Try.ntmps10
        go_wp2_with (go_at_call 14; refine (unhide HCK _).mono ?_; rintro e w1 ⟨rfl, hx1⟩; have HX2 := hide ((unhide H1).2.trans hx1); clear hx1)
        refine bodyPost_ret (v := .tuple #[.slice none 0 0, .int .i64 2]) (by simp [results, Try.results10, go_sem]) rfl (unhide HFIN 2 _ _ (unhide E1) (by decide) rfl (unhide HX2))
      · have d1 : decide (fi < 0) = false := by simp; omega
        have d2 : decide (65535 < fi) = false := by simp; omega
        have d3 : decide (co < 0) = false := by simp; omega
        have d4 : decide (65535 < co) = true := by simpa using h4
        go_enter Try.func10, Try.ntmps10
        go_wp2_with (go_at_call 14; refine (unhide HCK _).mono ?_; rintro e w1 ⟨rfl, hx1⟩; have HX2 := hide ((unhide H1).2.trans hx1); clear hx1)
        refine bodyPost_ret (v := .tuple #[.slice none 0 0, .int .i64 2]) (by simp [results, Try.results10, go_sem]) rfl (unhide HFIN 2 _ _ (unhide E1) (by decide) rfl (unhide HX2))
    · have d1 : decide (fi < 0) = false := by simp; omega
      have d2 : decide (65535 < fi) = false := by simp; omega
      have d3 : decide (co < 0) = false := by simp; omega
      have d4 : decide (65535 < co) = false := by simp; omega
      have hE1 : rowE xs A fi co = if 256 < co then 3 else if (List.range co.toNat).all (fun i => (vtxF xs A (fi.toNat + i)).isSome) = true then 0 else 7 := by rw [hE, if_neg]; rintro (h | h); (rw [hA] at h; cases h); exact h0 h
      by_cases h5 : 256 < co
      · have E1 : Hid (rowE xs A fi co = 3) := by rw [Hid, hE1, if_pos h5]
        have d5 : decide (256 < co) = true := by simpa using h5
        clear hE hE1 hV hA h0
        unfold arC
        go_enter Try.func10, Try.ntmps10
        go_wp2_with (go_at_call 14; refine (unhide HCK _).mono ?_; rintro e w1 ⟨rfl, hx1⟩; have HX2 := hide ((unhide H1).2.trans hx1); clear hx1)
        refine bodyPost_ret (v := .tuple #[.slice none 0 0, .int .i64 3]) (by simp [results, Try.results10, go_sem]) rfl (unhide HFIN 3 _ _ (unhide E1) (by decide) rfl (unhide HX2))
      · have HE2 : Hid (rowE xs A fi co = if (List.range co.toNat).all (fun i => (vtxF xs A (fi.toNat + i)).isSome) = true then 0 else 7) := by rw [Hid, hE1, if_neg h5]
        have hco : 0 ≤ co ∧ co ≤ 256 := by omega
        have d5 : decide (256 < co) = false := by simp; omega
        have HVX := hide (fun (i : Nat) (wx : World) (hx : Ext w wx) (hi : i ≤ 1000000) => rvertex_any v xs A i wx ((unhide HR).ext hx) hB hm hA hi)
        have HV2 := hide hV
        obtain ⟨fn, rfl⟩ := Int.eq_ofNat_of_zero_le (show 0 ≤ fi by omega)
        obtain ⟨cn, rfl⟩ := Int.eq_ofNat_of_zero_le (show 0 ≤ co by omega)
        have hfn : fn ≤ 65535 := by omega
        have hcn : cn ≤ 256 := by omega
        rw [Int.toNat_natCast, Int.toNat_natCast] at HV2
        rw [Int.toNat_natCast, Int.toNat_natCast] at HE2
        obtain ⟨f, hf⟩ : ∃ f, f = fun i => vtxF xs A (fn + i) := ⟨_, rfl⟩
        have hfi : ∀ i, vtxF xs A (fn + i) = f i := fun i => by rw [hf]
        simp only [hfi] at HE2 HV2
        have HFI := hide hfi
        clear hE hE1 hV hA h0 hB hm hf hfi
        have HCL := hide (fun (wx : World) (hb : Blk wx w.heap.size (arC A) 24) => show wx.cell? ⟨w.heap.size, 0, none⟩ = some (.int .i64 A.size) ∧ wx.cell? ⟨w.heap.size, 1, none⟩ = some (.int .i64 A.kind) ∧ wx.cell? ⟨w.heap.size, 2, none⟩ = some (.bool A.nz) ∧ wx.cell? ⟨w.heap.size, 3, none⟩ = some (.int .i64 A.stride) ∧ wx.cell? ⟨w.heap.size, 4, none⟩ = some (.int .i64 A.off) from ⟨hb.cell rfl, hb.cell rfl, hb.cell rfl, hb.cell rfl, hb.cell rfl⟩)
        unfold arC
        go_enter Try.func10, Try.ntmps10
        go_wp2_with (go_at_call 14; refine (unhide HCK _).mono ?_; rintro e w1 ⟨rfl, hx1⟩; have H2 := hide (And.intro ((unhide H1).1.ext hx1) ((unhide H1).2.trans hx1)); clear hx1)
        go_loopw [10, 38] (fun lv iv wr => ∃ (k : Nat) (ao : Option Addr) (cap : Nat), k ≤ cn ∧ iv = .int .i64 (k : Int) ∧ lv = .slice ao k cap ∧ OV wr w.heap.size lv (fstL f k) ∧ Blk wr w.heap.size (arC A) 24 ∧ Ext w wr ∧ (∀ i, i < k → (f i).isSome = true) ∧ (∀ b, lv.ownBlock = some b → b ≠ w.heap.size)) (fun _ iv _ => cn - (intOf iv).toNat)
        case atStart => exact ⟨0, none, 0, Nat.zero_le _, rfl, rfl, GO.nil _ _, (unhide H2).1, (unhide H2).2, fun i h => absurd h (Nat.not_lt_zero _), fun b h => by cases h⟩
        case round =>
          clear H2 H1
          obtain ⟨k, ao, cap, hk, rfl, rfl, hov, hab, hX, hall, hne⟩ := hrel
          have D := hide (And.intro hov (And.intro hab (And.intro hX (And.intro hall hne))))
          obtain ⟨a0, a1, a2, a3, a4⟩ := unhide HCL wr hab
          clear hov hab hX hall hne
          by_cases hlt : k < cn
          · have hlt2 : (k : Int) < (cn : Int) := by omega
            have HV3 := hide (unhide HVX (fn + k))
            rw [unhide HFI, Int.natCast_add] at HV3
            cases hfk : f k with
            | none =>
              rw [hfk] at HV3
              simp only [Option.getD_none, Option.isSome_none] at HV3
              have E1 : Hid (rowE xs A (fn : Int) (cn : Int) = 7) := by
                rw [Hid, unhide HE2, if_neg]
                intro h
                rw [List.all_eq_true] at h
                have := h k (by simpa using hlt)
                rw [hfk] at this
                cases this
              have HFK := hide hfk
              clear hfk
              go_wp2_with (go_at_call 16; refine (unhide HV3 _ (unhide D).2.2.1 (by omega)).mono ?_; rintro e w3 ⟨rfl, hx3⟩; have HX3 := hide ((unhide D).2.2.1.trans hx3); clear hx3)
              refine bodyPost_ret (v := .tuple #[.slice none 0 0, .int .i64 7]) (by simp [results, Try.results10, go_sem]) rfl (unhide HFIN 7 _ _ (unhide E1) (by decide) rfl ((unhide HX3).alloc _))
            | some y =>
              rw [hfk] at HV3
              simp only [Option.getD_some, Option.isSome_some] at HV3
              have HFK := hide hfk
              clear hfk
              go_wp2_with (first
                | (go_at_call 16; refine (unhide HV3 _ (unhide D).2.2.1 (by omega)).mono ?_; rintro e w3 ⟨rfl, hx3⟩; have hxx : Ext w3 ((w3.alloc (.cells #[.int .i32 (y 0), .int .i32 (y 1), .int .i32 (y 2), .int .i32 (y 3)] 35)).alloc (.cells #[.int .i32 (y 0), .int .i32 (y 1), .int .i32 (y 2), .int .i32 (y 3)] 35)) := ((Ext.refl w3).alloc _).alloc _; have hE5 : Blk ((w3.alloc (.cells #[.int .i32 (y 0), .int .i32 (y 1), .int .i32 (y 2), .int .i32 (y 3)] 35)).alloc (.cells #[.int .i32 (y 0), .int .i32 (y 1), .int .i32 (y 2), .int .i32 (y 3)] 35)) (w3.heap.size + 1) (vEnc y).toArray 35 := Blk.at (by simp); have D3 := hide (And.intro hE5 (And.intro (GO.ext (unhide D).1 (hx3.trans hxx)) (And.intro ((unhide D).2.1.ext (hx3.trans hxx)) ((unhide D).2.2.1.trans (hx3.trans hxx))))); clear hx3 hxx hE5)
                | (at_builtin; refine wpList_append_G (enc := vEnc) infoVec4 Try.underlying29 rfl (by decide) (by decide) rfl (.tmp 52) (.tmp 54) rfl w.heap.size _ (fstL f k) y rfl (unhide D3).2.1 _ 1 rfl _ (unhide D3).1 rfl (vEnc_one _) (by rw [fstL_len]; omega) (unhide D3).2.2.2.size ?_))
              intro ao2 cap2 N w6 hN hG6 hgr6 hloc
              rw [show fstL f k ++ [y] = fstL f (k + 1) by rw [fstL_succ, unhide HFK]; rfl] at hN
              subst hN
              rw [fstL_len] at hG6 hloc ⊢
              have D6 := hide (show OV w6 w.heap.size (.slice ao2 (k + 1) cap2) (fstL f (k + 1)) ∧ Blk w6 w.heap.size (arC A) 24 ∧ Ext w w6 ∧ (∀ i, i < k + 1 → (f i).isSome = true) ∧ (∀ b, (Value.slice ao2 (k + 1) cap2).ownBlock = some b → b ≠ w.heap.size) from
                ⟨hG6, (unhide D3).2.2.1.grownO hgr6 (fun r hr e => (unhide D).2.2.2.2 r hr e.symm), (unhide D3).2.2.2.grown hgr6 (unhide D3).2.2.2.size (fun q hq => ((unhide D3).2.1.lt q hq).1),
                  fun i hi => (by
                    by_cases e : i = k
                    · rw [e, unhide HFK]; rfl
                    · exact (unhide D).2.2.2.1 i (by omega)),
                  fun b hb => (by
                    rcases hloc b hb with h | h
                    · exact (unhide D).2.2.2.2 b h
                    · have t0 := (unhide D3).2.2.1.lt
                      have t1 : w.heap.size < w3.heap.size + 1 + 1 := by simpa using t0
                      have t2 : w3.heap.size + 1 + 1 ≤ b := by simpa using h
                      omega)⟩)
              clear hG6 hgr6 hloc D D3 a0 a1 a2 a3 a4
              go_wp2
              go_roundw
              case rel => exact ⟨k + 1, ao2, cap2, by omega, by push_cast; rfl, rfl, unhide D6⟩
              case measure => simp [intOf]; omega
          · have hlt2 : ¬ (k : Int) < (cn : Int) := by omega
            obtain rfl : k = cn := by omega
            have e1 : rowE xs A (fn : Int) (k : Int) = 0 := by
              rw [unhide HE2, if_pos]
              rw [List.all_eq_true]
              intro i hi
              exact (unhide D).2.2.2.1 i (by simpa using hi)
            have e2 : rowF xs A (fn : Int) (k : Int) = fstL f k := by rw [unhide HV2, if_pos e1]
            have E := hide (And.intro e1 e2)
            clear e1 e2
            go_wp2
            refine bodyPost_ret (v := .tuple #[.slice ao k cap, .int .i64 0]) (by simp [results, Try.results10, go_sem]) rfl ?_
            rw [(unhide E).1, (unhide E).2]
            exact ⟨ao, cap, by rw [fstL_len], by rw [fstL_len]; exact (unhide D).1, (unhide D).2.2.1⟩
  · have hA' : arrB A = false := by simpa using hA
    rw [hA'] at HCK
    have E1 : Hid (rowE xs A fi co = 2) := by rw [Hid, hE, if_pos (.inl hA')]
    clear hE hV hA hA'
    unfold arC
    go_enter Try.func10, Try.ntmps10
    go_wp2_with (go_at_call 14; refine (unhide HCK _).mono ?_; rintro e w1 ⟨rfl, hx1⟩; have HX2 := hide ((unhide H1).2.trans hx1); clear hx1)
    refine bodyPost_ret (v := .tuple #[.slice none 0 0, .int .i64 2]) (by simp [results, Try.results10, go_sem]) rfl (unhide HFIN 2 _ _ (unhide E1) (by decide) rfl (unhide HX2))
end Go.Proofs.Ytmigakbccmkjoaa
