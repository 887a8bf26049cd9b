/-
  Built-in functions: what comes of a call.
-/
import Derived.Test.YtokmplebajgckaaKO
namespace Go.Proofs.Ytokmplebajgckaa
open Go.RowKit
set_option linter.unusedVariables false
set_option linter.unusedSimpArgs false

/-- What comes of a built-in function, G being tried size by size. -/
def callFrom (f : Ty) (A : List Ty) : List Int → Ty × Int × Int
  | [] => (noT, 0, 230)
  | n :: l => if (takesP f.2 (fltT n)).contains A then (givesP f.1 (fltT n), f.1, 0) else callFrom f A l
def sizes4 : List Int := [1, 2, 3, 4]
def callP (f : Ty) (A : List Ty) : Ty × Int × Int := callFrom f A sizes4
theorem drop4 : ∀ k, k < 4 → sizes4.drop k = ((k : Int) + 1) :: sizes4.drop (k + 1)
  | 0, _ => rfl
  | 1, _ => rfl
  | 2, _ => rfl
  | 3, _ => rfl
  | k + 4, h => by omega
/-- As Reg, with a function's own block. -/
def RegF (w0 : World) (fb : Nat) (f : Ty) (l : List (Nat × Ty)) (R : Nat) (wx : World) : Prop := Reg w0 l R wx ∧ Blk wx fb #[.int .i64 (f).1, .int .i64 (f).2] 62 ∧ fb ≠ R
section
variable {w0 w1 w2 : World} {l : List (Nat × Ty)} {R fb : Nat} {f : Ty}
theorem RegF.ext (hx : Ext w1 w2) (h : RegF w0 fb f l R w1) : RegF w0 fb f l R w2 := ⟨Reg.ext hx h.1, h.2.1.ext hx, h.2.2⟩
theorem RegF.drew (h : RegF w0 fb f l R w1) : RegF w0 fb f l R w1.drew := h.ext ((Ext.refl _).drew)
theorem RegF.put (h : RegF w0 fb f l R w1) (p q : Value) : RegF w0 fb f l R ((w1.setCell ⟨R, 0, none⟩ p).setCell ⟨R, 1, none⟩ q) := ⟨h.1.put p q, (h.2.1.other 0 p h.2.2).other 1 q h.2.2, h.2.2⟩
theorem RegF.one (h : RegF w0 fb f l R w1) (t : Ty) : RegF w0 fb f [(w1.heap.size, t)] R (w1.alloc (.cells #[.int .i64 (t).1, .int .i64 (t).2] 23)) := by
  obtain ⟨⟨h0, h1, ⟨x, y, h2⟩, h3, h4⟩, h5, h6⟩ := h
  have hx := (Ext.refl w1).alloc (.cells #[.int .i64 (t).1, .int .i64 (t).2] 23)
  refine ⟨⟨h0.trans hx, ?_, ⟨x, y, h2.ext hx⟩, h3, ?_⟩, h5.ext hx, h6⟩
  · intro p hp
    obtain rfl : p = (w1.heap.size, t) := by simpa using hp
    exact Blk.new _ _ _
  · intro p hp
    obtain rfl : p = (w1.heap.size, t) := by simpa using hp
    exact Nat.ne_of_gt h2.lt
end

set_option maxHeartbeats 4000000 in
theorem call_any (f : Ty) (A : List Ty) (v : Value) (w : World) (hA : TyR w v A) :
    Calls Try.prog 40 #[.agg #[.int .i64 (f).1, .int .i64 (f).2], v] w fun e w' => e = .returned (.tuple #[.agg #[.int .i64 ((callP f A).1).1, .int .i64 ((callP f A).1).2], .int .i64 (callP f A).2.1, .int .i64 (callP f A).2.2]) ∧ Ext w w' := by
  have HA := hide hA
  obtain ⟨vo, vcap, rfl, -, -⟩ := hA
  have H0 : Hid (RegF w w.heap.size f [] (w.heap.size + 1) ((w.alloc (.cells #[.int .i64 (f).1, .int .i64 (f).2] 62)).alloc (.cells #[.int .i64 0, .int .i64 0] 23))) :=
    ⟨⟨((Ext.refl w).alloc _).alloc _, fun p hp => absurd hp (by simp), ⟨_, _, Blk.at (by simp)⟩, by omega, fun p hp => absurd hp (by simp)⟩, (Blk.at rfl).alloc _, by omega⟩
  obtain ⟨U, hU⟩ : ∃ U, callP f A = U := ⟨_, rfl⟩
  rw [hU]
  have HU : Hid (callFrom f A (sizes4.drop 0) = U) := hU
  clear hU
  have HFL := hide floats_any
  have HTK := hide takes_any
  have HGV := hide gives_any
  have HEQ := hide equal_any
  go_enter Try.func40, Try.ntmps40
  go_wp2
  generalize (w.alloc (.cells #[.int .i64 (f).1, .int .i64 (f).2] 62)).alloc (.cells #[.int .i64 0, .int .i64 0] 23) = w1 at H0 ⊢
  go_loopw [7] (fun i wr => ∃ k : Nat, k ≤ 4 ∧ i = .int .i64 ((k : Int) + 1) ∧ Hid (callFrom f A (sizes4.drop k) = U) ∧ Hid (RegF w w.heap.size f [] (w.heap.size + 1) wr)) (fun i _ => 5 - (intOf i).toNat)
  case atStart => exact ⟨0, by omega, rfl, HU, H0⟩
  case round =>
    obtain ⟨k, hk, rfl, hc, hr⟩ := hrel
    clear HU H0
    by_cases hlt : k < 4
    · have hle : (k : Int) + 1 ≤ 4 := by omega
      have hc2 := unhide hc
      rw [drop4 k hlt] at hc2
      unfold callFrom at hc2
      have HC := hide hc2
      clear hc2 hc
      go_wp2_with fail
      refine (unhide HFL ((k : Int) + 1) _).mono ?_
      rintro e w2 ⟨rfl, hx2⟩
      generalize fltT ((k : Int) + 1) = g at *
      have H2 := hide ((RegF.ext hx2 (unhide hr)).one g)
      clear hx2 hr
      go_upto_region 5 with fail
      generalize w2.alloc (.cells #[.int .i64 (g).1, .int .i64 (g).2] 23) = w3 at H2 ⊢
      generalize w2.heap.size = r at *
      obtain ⟨a0, a1⟩ := (unhide H2).2.1.two
      obtain ⟨b0, b1⟩ := (unhide H2).1.at r g (by simp)
      go_wp2_with fail
      refine (unhide HTK f g _).mono ?_
      rintro e w4 ⟨tv, rfl, hTR, hx4⟩
      have H4 := hide (RegF.ext hx4 (unhide H2))
      clear hx4 H2 a0 a1 b0 b1
      generalize takesP f.2 g = M at *
      have HTR := hide hTR
      obtain ⟨mo, mcap, rfl, hml, -⟩ := hTR
      obtain ⟨CB, hCB⟩ : ∃ CB, M.contains A = CB := ⟨_, rfl⟩
      have HCB : Hid ((M.drop 0).contains A = CB) := hCB
      rw [hCB] at HC
      clear hCB
      go_wp2
      go_loopw [21] (fun i wq => ∃ j : Nat, j ≤ M.length ∧ i = .int .i64 (j : Int) ∧ Hid ((M.drop j).contains A = CB) ∧ Hid (RegF w w.heap.size f [(r, g)] (w.heap.size + 1) wq) ∧ Hid (Ext w4 wq)) (fun i _ => M.length - (intOf i).toNat)
      case atStart => exact ⟨0, by omega, rfl, HCB, H4, Ext.refl w4⟩
      case round =>
        obtain ⟨j, hj, rfl, hcb, hr, hx⟩ := hrel
        clear HCB H4
        by_cases hlt2 : j < M.length
        · obtain ⟨_, _, e, _, hat⟩ := (unhide HTR).ext (unhide hx)
          obtain ⟨b, off, u, he, c0, htu⟩ := hat j hlt2
          have e2 := (Value.slice.inj e).1
          subst e2
          clear hat e
          subst he
          have HT1 := hide htu
          obtain ⟨uo, ucap, rfl, -, -⟩ := htu
          have hcb2 := unhide hcb
          rw [List.drop_eq_getElem_cons hlt2, List.contains_cons] at hcb2
          obtain ⟨row, hrow⟩ : ∃ row, row = M[j] := ⟨_, rfl⟩
          rw [← hrow] at c0 HT1 hcb2
          have HE := hide (fun wx (hx : Ext _ wx) => unhide HEQ _ _ row A wx ((unhide HT1).ext hx) ((unhide HA).ext ((unhide hr).1.1.trans hx)))
          clear hrow hcb
          by_cases heq : row = A
          · subst heq
            have hcb3 : CB = true := by rw [← hcb2]; simp
            subst hcb3
            have hU := unhide HC
            rw [if_pos rfl] at hU
            subst hU
            clear HC hcb2
            have HE2 := hide (unhide HE _ (Ext.refl _))
            rw [decide_eq_true rfl] at HE2
            go_wp2_with fail
            refine (unhide HE2).mono ?_
            rintro e w5 ⟨rfl, hx5⟩
            have H5 := hide (RegF.ext hx5 (unhide hr))
            clear hx5 hr hx HE HE2 HT1 c0
            go_upto_region 9 with fail
            have F0 : ∀ wx, RegF w w.heap.size f [(r, g)] (w.heap.size + 1) wx → wx.cell? ⟨w.heap.size, 0, none⟩ = some (.int .i64 f.1) ∧ wx.cell? ⟨w.heap.size, 1, none⟩ = some (.int .i64 f.2) := fun wx h => h.2.1.two
            have G0 : ∀ wx, RegF w w.heap.size f [(r, g)] (w.heap.size + 1) wx → wx.cell? ⟨r, 0, none⟩ = some (.int .i64 g.1) ∧ wx.cell? ⟨r, 1, none⟩ = some (.int .i64 g.2) := fun wx h => h.1.at r g (by simp)
            have hS : RegF w w.heap.size f [(r, g)] (w.heap.size + 1) w5.drew := (unhide H5).drew
            go_region_held3 (fun wx => RegF w w.heap.size f [(r, g)] (w.heap.size + 1) wx)
              (first | assumption | exact RegF.put (by assumption) _ _)
              (first
                | (go_at_call 46; refine (unhide HGV f g _).mono ?_; rintro e ws ⟨rfl, hxs⟩; have hS := RegF.ext hxs (by assumption : RegF w w.heap.size f [(r, g)] (w.heap.size + 1) _); obtain ⟨x, y, r0, r1, z0, z1⟩ := hS.1.res; have HF := hide (hS.1.fin (.int .i64 (givesP f.1 g).1) (.int .i64 (givesP f.1 g).2))))
            go_wp2
            obtain ⟨s0, s1⟩ := (unhide HF).1.two
            exact bodyPost_ret (v := .tuple #[.agg #[.int .i64 (givesP f.1 g).1, .int .i64 (givesP f.1 g).2], .int .i64 f.1, .int .i64 0]) (by simp [results, Try.results40, go_sem, s0, s1]) rfl ⟨rfl, (unhide HF).2⟩
          · have hcb3 : (M.drop (j + 1)).contains A = CB := by
              rw [← hcb2, show (A == row) = false from beq_eq_false_iff_ne.2 (Ne.symm heq), Bool.false_or]
            have HCB2 := hide hcb3
            have HE2 := hide (unhide HE _ (Ext.refl _))
            rw [decide_eq_false heq] at HE2
            clear hcb2 hcb3 heq HE
            go_wp2_with fail
            refine (unhide HE2).mono ?_
            rintro e w5 ⟨rfl, hx5⟩
            have H5 := hide (RegF.ext hx5 (unhide hr))
            have HX5 := hide ((unhide hx).trans hx5)
            clear hx5 HE2
            go_wp2
            go_roundw
            case rel => exact ⟨j + 1, by omega, by go_num, HCB2, H5, HX5⟩
            case measure => simp [intOf]; omega
        · have hcb3 : CB = false := by
            rw [← unhide hcb, List.drop_of_length_le (by omega)]
            rfl
          subst hcb3
          have hU := unhide HC
          rw [if_neg (by decide)] at hU
          have HC2 := hide hU
          have hr2 : Hid (RegF w w.heap.size f [] (w.heap.size + 1) _) := ⟨⟨(unhide hr).1.1, fun p hp => absurd hp (by simp), (unhide hr).1.2.2.1, (unhide hr).1.2.2.2.1, fun p hp => absurd hp (by simp)⟩, (unhide hr).2⟩
          clear hU HC hcb
          go_wp2
          go_roundw
          case rel => exact ⟨k + 1, by omega, by go_num, HC2, hr2⟩
          case measure => simp [intOf]; omega
    · obtain rfl : k = 4 := by omega
      have hc2 := unhide hc
      rw [show sizes4.drop 4 = [] from rfl] at hc2
      unfold callFrom at hc2
      subst hc2
      clear hc
      obtain ⟨x, y, r0, r1, z0, z1⟩ := (unhide hr).1.res
      have HF := hide ((unhide hr).1.fin (.int .i64 0) (.int .i64 0))
      go_wp2
      obtain ⟨s0, s1⟩ := (unhide HF).1.two
      exact bodyPost_ret (v := .tuple #[.agg #[.int .i64 (noT).1, .int .i64 (noT).2], .int .i64 0, .int .i64 230]) (by simp [results, Try.results40, go_sem, s0, s1, noT]) rfl ⟨rfl, (unhide HF).2⟩
end Go.Proofs.Ytokmplebajgckaa
