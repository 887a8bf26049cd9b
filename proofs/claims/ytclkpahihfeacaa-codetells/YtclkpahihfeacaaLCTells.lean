/-
  The statement CodeTells: what instructions read and write, and how many arguments functions take, are told as the document says. No conditions.
-/
import Derived.Test.YtclkpahihfeacaaCW
import Derived.Test.YtclkpahihfeacaaCY
import Derived.Test.YtclkpahihfeacaaCG
import Derived.Test.YtclkpahihfeacaaFrC
namespace Go.Proofs.Ytclkpahihfeacaa
open Go.ChangeShapes Go.WideShapes Go.ChangeAt Go.RowKit
set_option linter.unusedVariables false
set_option linter.unusedSimpArgs false

theorem Own.addr {k : IntKind} {w : World} {base : Nat} {e : TypeId} {ao : Option Addr} {n cap : Nat} {xs : List Int} (h : Own k w base e (.slice ao n cap) xs) (hne : 0 < xs.length) : ∃ g, ao = some ⟨g, 0, none⟩ ∧ base ≤ g := by
  rcases h.2 with ⟨he, h0⟩ | ⟨g, cp, cur, he, hb, _⟩
  · omega
  · exact ⟨g, (Value.slice.inj he).1, hb⟩
theorem Row.set {k : IntKind} {w : World} {v : Value} {xs : List Int} {N g i : Nat} {u : Value} (h : Row k w v xs) (hlt : ∀ b off n c, v = .slice (some ⟨b, off, none⟩) n c → xs ≠ [] → b < N) (hg : N ≤ g) : Row k (w.setCell ⟨g, i, none⟩ u) v xs := by
  rcases h with h | ⟨h0, b, off, cap, rfl, hl, hm, hc⟩
  · exact .inl h
  · refine .inr ⟨h0, b, off, cap, rfl, hl, hm, fun j hj => ?_⟩
    have hb := hlt b off _ _ rfl h0
    rw [World.cell?_of_block (w := w) (heap_setCell_other _ _ _ _ (by simp; omega))]
    exact hc j hj
theorem Row.lt {k : IntKind} {w : World} {v : Value} {xs : List Int} (h : Row k w v xs) : ∀ b off n c, v = .slice (some ⟨b, off, none⟩) n c → xs ≠ [] → b < w.heap.size := by
  intro b off n c e hne
  rcases h with ⟨h, _⟩ | ⟨_, b', off', cp, e', _, _, hc⟩
  · exact (hne h).elim
  · rw [e] at e'
    cases e'
    exact World.block_lt_of_cell? _ _ (hc 0 (List.length_pos_iff.2 hne))

set_option maxRecDepth 10000 in
set_option maxHeartbeats 4000000 in
theorem tells_any (I : Nat → Int) (w : World) : Calls Try.prog 17 #[.agg (insA I)] w fun e w' => e = .returned (.bool true) ∧ Ext w w' := by
  have HW := hide (fun wx => writes_any I wx)
  have HRW := hide (fun wx => refWrites_any I wx)
  have HR := hide (fun wx => reads_any I wx)
  have HRR := hide (fun wx => refReads_any I wx)
  have hlen : (readsP I).length ≤ 3 := by
    unfold readsP
    repeat' split
    all_goals simp
    all_goals omega
  generalize readsP I = xs at *
  generalize writI I = wi at *
  generalize wrB (I 0) = wb at *
  have HB := hide (Blk.new w (insA I) 42)
  have HX := hide ((Ext.refl w).alloc (.cells (insA I) 42))
  go_enter Try.func17, Try.ntmps17
  go_wp2_with (first
    | refine wpList_load_row rfl 42 (.tmp 1) rfl w.heap.size rfl 42 (insA I) (0, 0) _ (unhide HB) Try.underlying42 rfl size16 ?_
    | (go_at_call 9999))
  refine (unhide HW _).mono ?_
  rintro e w1 ⟨rfl, hx1⟩
  have HB1 := hide ((unhide HB).ext hx1)
  have HX1 := hide ((unhide HX).trans hx1)
  clear hx1 HB HX HW
  go_wp2_with (first
    | refine wpList_load_row rfl 42 (.tmp 1) rfl w.heap.size rfl 42 (insA I) (0, 0) _ (unhide HB1) Try.underlying42 rfl size16 ?_
    | (go_at_call 9999))
  refine (unhide HRW _).mono ?_
  rintro e w2 ⟨rfl, hx2⟩
  have HB2 := hide ((unhide HB1).ext hx2)
  have HX2 := hide ((unhide HX1).trans hx2)
  clear hx2 HB1 HX1 HRW
  have hwb : (wb != wb) = false := by simp
  go_wp2_with (first
    | refine wpList_load_row rfl 42 (.tmp 1) rfl w.heap.size rfl 42 (insA I) (0, 0) _ (unhide HB2) Try.underlying42 rfl size16 ?_
    | (go_at_call 9999))
  refine (unhide HRR _).mono ?_
  rintro e w3 ⟨ao, cap, rfl, hrow, hx3⟩
  have HB3 := hide ((unhide HB2).ext hx3)
  have HX3 := hide ((unhide HX2).trans hx3)
  have HRO := hide hrow
  clear hx3 HB2 HX2 HRR hrow
  obtain ⟨n, hn⟩ : ∃ n, xs.length = n := ⟨_, rfl⟩
  rw [hn] at HRO hlen ⊢
  have HN := hide hn
  clear hn
  go_wp2
  go_loopw [8] (fun iv wr => ∃ k : Nat, k ≤ 2 ∧ iv = .int .i64 (k : Int) ∧ Blk wr w.heap.size (insA I) 42 ∧ Row .i64 wr (.slice ao n cap) xs ∧ Ext w wr) (fun iv _ => 2 - (intOf iv).toNat)
  case atStart => exact ⟨0, by omega, rfl, unhide HB3, unhide HRO, unhide HX3⟩
  case round =>
    clear HB3 HRO HX3
    obtain ⟨k, hk, rfl, hb, hro, hx⟩ := hrel
    have D := hide (And.intro hb (And.intro hro hx))
    clear hb hro hx
    by_cases hlt : k < 2
    · have hk2 : (k : Int) < 2 := by omega
      go_wp2_with (first
        | refine wpList_load_row rfl 42 (.tmp 1) rfl w.heap.size rfl 42 (insA I) (0, 0) _ (unhide D).1 Try.underlying42 rfl size16 ?_
        | (go_at_call 9999))
      refine (unhide HR _).mono ?_
      rintro e w5 ⟨ao5, cap5, rfl, hown5, hx5⟩
      rw [unhide HN] at hown5 ⊢
      have HRL := hide (unhide D).2.1.lt
      have D5 := hide (show Blk w5 w.heap.size (insA I) 42 ∧ Row .i64 w5 (.slice ao n cap) xs ∧ Ext w w5 ∧ ∃ ys : List Int, ys.length = n ∧ (∀ j, 0 ≤ j → ys.getD j 0 = xs.getD j 0) ∧ Own .i64 w5 wr.heap.size 3 (.slice ao5 n cap5) ys from ⟨(unhide D).1.ext hx5, (unhide D).2.1.ext hx5, (unhide D).2.2.trans hx5, xs, unhide HN, fun j _ => rfl, hown5⟩)
      have hBl := (unhide D).1.lt
      have hwl := (unhide D).2.2.size
      clear hown5 hx5 D
      go_wp2
      go_loopw [44] (fun iv wq => ∃ m : Nat, m ≤ n ∧ iv = .int .i64 (m : Int) ∧ Blk wq w.heap.size (insA I) 42 ∧ Row .i64 wq (.slice ao n cap) xs ∧ Ext w wq ∧ ∃ ys : List Int, ys.length = n ∧ (∀ j, m ≤ j → ys.getD j 0 = xs.getD j 0) ∧ Own .i64 wq wr.heap.size 3 (.slice ao5 n cap5) ys) (fun iv _ => n - (intOf iv).toNat)
      case atStart => exact ⟨0, Nat.zero_le _, rfl, unhide D5⟩
      case round =>
        clear D5
        rename_i wr0 _ _ _
        obtain ⟨m, hm, rfl, hb, hro, hx, ys, hyl, hye, hyo⟩ := hrel
        by_cases hmt : m < n
        · have hmx : m < xs.length := by rw [unhide HN]; exact hmt
          have hmy : m < ys.length := by rw [hyl]; exact hmt
          obtain ⟨b, off, ea, hc⟩ := hro.at m hmx
          subst ea
          have c1 := hc m hmx
          obtain ⟨g, eg, hgb⟩ := hyo.addr (by omega)
          subst eg
          have c2 := hyo.cellAt m hmy
          have hf2 := hyo.frozenAt m
          have he : ys[m] = xs[m] := by
            have := hye m (Nat.le_refl _)
            simpa [hmx, hmy] using this
          rw [he] at c2
          have HNX := hide (hyo.stored m (-9))
          have HRX := hide (fun u => hro.set (g := g) (i := m) (u := u) (unhide HRL) hgb)
          have HD := hide (And.intro hb (And.intro hx (And.intro hyl hye)))
          generalize xs[m] = x at *
          clear hc hb hro hx hyl hye hyo he hmy
          have hmn : (m : Int) < (n : Int) := by omega
          go_upto_region 15 with fail
          go_quiet (fail)
          go_wp2
          go_roundw
          case rel =>
            obtain ⟨hb, hx, hyl, hye⟩ := unhide HD
            refine ⟨m + 1, by omega, by go_num, ?_, ?_, ?_, ys.set m (-9), by simpa using hyl, fun j hj => ?_, ?_⟩
            · exact (hb.drewN _).other _ _ (by omega)
            · exact unhide HRX _
            · exact extSet (hx.drewN _) (by omega)
            · rw [← hye j (by omega)]
              simp only [List.getD_eq_getElem?_getD]
              rw [List.getElem?_set_ne (by omega)]
            · exact unhide HNX
          case measure => simp [intOf]; omega
        · obtain rfl : m = n := by omega
          have D6 := hide (And.intro hb (And.intro hro hx))
          clear hb hro hx hyl hye hyo
          go_wp2
          go_roundw
          case rel => exact ⟨k + 1, by omega, by go_num, unhide D6⟩
          case measure => simp [intOf]; omega
    · obtain rfl : k = 2 := by omega
      go_wp2
      go_ret
      exact ⟨rfl, (unhide D).2.2⟩

set_option maxRecDepth 10000 in
set_option maxHeartbeats 4000000 in
theorem codeTells_walk (L : List (Nat → Int)) (v : Value) (fn base : Int) (w : World) (h : IR w v L) : Calls Try.prog 5 #[v, .int .i64 fn, .int .i64 base] w fun e w' => e = .returned (.bool true) ∧ Ext w w' := by
  have HV := hide h
  obtain ⟨ao, cap, rfl, hn0, hlc, hcm, hat⟩ := h
  clear hat hn0
  unfold maxLen at hcm
  go_enter Try.func5, Try.ntmps5
  go_wp2_with (go_at_call 9999)
  refine (wakes_any w).mono ?_
  rintro e w1 ⟨rfl, hx1⟩
  have HX1 := hide hx1
  clear hx1
  go_wp2
  go_loopw [7] (fun iv wr => ∃ k : Nat, k ≤ 41 ∧ iv = .int .i64 ((k : Int) - 1) ∧ Ext w wr) (fun iv _ => 41 - ((intOf iv) + 1).toNat)
  case atStart => exact ⟨0, by omega, rfl, unhide HX1⟩
  case round =>
    clear HX1
    obtain ⟨k, hk, rfl, hx⟩ := hrel
    have X := hide hx
    clear hx
    by_cases hlt : k < 41
    · have hk1 : (k : Int) - 1 < 40 := by omega
      go_wp2
      go_loopw [8] (fun iv wq => ∃ j : Nat, j ≤ 7 ∧ iv = .int .i64 ((j : Int) - 1) ∧ Ext w wq) (fun iv _ => 7 - ((intOf iv) + 1).toNat)
      case atStart => exact ⟨0, by omega, rfl, unhide X⟩
      case round =>
        clear X
        obtain ⟨j, hj, rfl, hx⟩ := hrel
        have X := hide hx
        clear hx
        by_cases hjt : j < 7
        · have hj1 : (j : Int) - 1 < 6 := by omega
          go_wp2_with (first
            | (go_at_call 15; refine (args_any _ _ _).mono ?_; rintro e w3 ⟨rfl, rfl⟩)
            | (go_at_call 16; refine (refArgs_any _ _ _).mono ?_; rintro e w3 ⟨rfl, rfl⟩))
          go_roundw
          case rel => exact ⟨j + 1, by omega, by go_num, unhide X⟩
          case measure => simp [intOf]; omega
        · obtain rfl : j = 7 := by omega
          go_wp2
          go_roundw
          case rel => exact ⟨k + 1, by omega, by go_num, unhide X⟩
          case measure => simp [intOf]; omega
    · obtain rfl : k = 41 := by omega
      rw [show ((41 : Nat) : Int) - 1 = (40 : Int) from rfl]
      go_wp2
      go_loopw [30] (fun iv wq => ∃ j : Nat, j ≤ L.length ∧ iv = .int .i64 (j : Int) ∧ Ext w wq) (fun iv _ => L.length - (intOf iv).toNat)
      case atStart => exact ⟨0, Nat.zero_le _, rfl, unhide X⟩
      case round =>
        clear X
        obtain ⟨j, hj, rfl, hx⟩ := hrel
        have X := hide hx
        clear hx
        by_cases hjt : j < L.length
        · have hjn : (j : Int) < (L.length : Int) := by omega
          obtain ⟨_, _, e1, _, _, _, hat⟩ := (unhide HV).ext (unhide X)
          have e1' := (Value.slice.inj e1).1
          subst e1'
          obtain ⟨b, off, rfl, hrg⟩ := hat j hjt
          have HRG := hide hrg
          clear hrg hat e1
          generalize L[j] = I at *
          obtain ⟨i0, i1, i2, i3, i4, i5, i6, i7⟩ := cellJ (Blk.new wr (insA I) 42)
          obtain ⟨p0, p1, p2, p3⟩ := cellP (Blk.new wr (insA I) 42)
          obtain ⟨m0, m1, m2, m3⟩ := cellM (Blk.new wr (insA I) 42)
          by_cases h20 : j < 20
          · have h20' : (j : Int) < 20 := by omega
            go_wp2_with (first
              | (refine wpList_load_mid rfl 42 (.tmp 33) rfl b (off + j * 16) rfl (insA I).toList _ (unhide HRG) Try.underlying42 rfl size16 ?_; rw [Array.toArray_toList])
              | refine wpList_storeLast rfl 42 (.tmp 10) (.tmp 34) rfl _ wr.heap.size rfl rfl (insA I) rfl 16 size16 rfl rfl (insA_one I) ?_
              | (go_at_call 9999))
            refine (tells_any I _).mono ?_
            rintro e w5 ⟨rfl, hx5⟩
            have X5 := hide (((unhide X).alloc (.cells (insA I) 42)).trans hx5)
            clear hx5 i0 i1 i2 i3 i4 i5 i6 i7 p0 p1 p2 p3 m0 m1 m2 m3
            go_wp2
            go_roundw
            case rel => exact ⟨j + 1, by omega, by go_num, unhide X5⟩
            case measure => simp [intOf]; omega
          · have h20' : ¬ (j : Int) < 20 := by omega
            go_wp2_with (first
              | (refine wpList_load_mid rfl 42 (.tmp 33) rfl b (off + j * 16) rfl (insA I).toList _ (unhide HRG) Try.underlying42 rfl size16 ?_; rw [Array.toArray_toList])
              | refine wpList_storeLast rfl 42 (.tmp 10) (.tmp 34) rfl _ wr.heap.size rfl rfl (insA I) rfl 16 size16 rfl rfl (insA_one I) ?_)
            go_roundw
            case rel => exact ⟨j + 1, by omega, by go_num, (unhide X).alloc _⟩
            case measure => simp [intOf]; omega
        · obtain rfl : j = L.length := by omega
          go_wp2_with (first
            | (go_at_call 15; refine (args_any _ _ _).mono ?_; rintro e w3 ⟨rfl, rfl⟩)
            | (go_at_call 16; refine (refArgs_any _ _ _).mono ?_; rintro e w3 ⟨rfl, rfl⟩))
          go_ret
          exact ⟨rfl, unhide X⟩

set_option maxRecDepth 100000 in
theorem tells16_owes (H : Type) (enc : TypeId × Value → H) (W : World) (base : Nat) (args : Array Value) (ds : List (DataW H)) (p : List MemPlace) : Owes H enc Try.prog 5 Try.f5 Rows.codeTellsSpec W base args ds p := by
  intro hval hA hsz
  rw [Try.params5] at hA hval hsz
  obtain ⟨v0, vs0, d0, ds0, p0, q0, hargs, rfl, rfl, h0, r0⟩ := trodAll_cons hA
  obtain ⟨v1, vs1, d1, ds1, p1, q1, rfl, rfl, rfl, h1, r1⟩ := trodAll_cons r0
  obtain ⟨v2, vs2, d2, ds2, p2, q2, rfl, rfl, rfl, h2, r2⟩ := trodAll_cons r1
  obtain ⟨rfl, rfl, rfl⟩ := trodAll_nil r2
  obtain rfl : args = #[v0, v1, v2] := by cases args; simp_all
  obtain ⟨L, hL, hok⟩ := open_inssA (hval 0 24 v0 rfl rfl) h0
  obtain ⟨fn, rfl, rfl, rfl, _⟩ := open_int Try.underlying3 (hval 1 3 v1 rfl rfl) h1
  obtain ⟨bs, rfl, rfl, rfl, _⟩ := open_int Try.underlying3 (hval 2 3 v2 rfl rfl) h2
  exact ⟨⟨rfl, rfl, rfl⟩, codeTells_walk L v0 fn bs W hL⟩

set_option maxRecDepth 100000 in
theorem tells16_lifted (os : Os) (started : os.Started) (H : Type) (enc : TypeId × Value → H) :
    ReturnsInHanded {} Try.checked os 5 .any (Rows.codeTellsSpec.pre6 enc Try.prog Try.f5 [] false) (Rows.codeTellsSpec.post enc Try.prog Try.f5 false true false false) :=
  lift_law (C := Try.checked) own laidOut started (by kernel_rfl) Try.func5 (T := 4) rfl Try.underlying4 rfl (by kernel_rfl)
    (ChangeSpec.witness6 (enc := enc) (C := Try.checked) false ⟨#[], #[.slice none 0 0, .int .i64 0, .int .i64 0], []⟩ 8 (by kernel_rfl) (by kernel_rfl) (by kernel_rfl) (by kernel_rfl)) (tells16_owes H enc)

theorem codeTells_holds : Rows.CodeTellsSaid :=
  OpenClaim.holds_of_wide 5 Try.f5 rfl rfl rfl rfl rfl rfl rfl ⟨rfl, rfl, rfl, rfl, rfl⟩ rfl rfl rfl rfl rfl (by kernel_rfl) Try.func5 (by kernel_rfl)
    (of_decide_eq_true (by kernel_rfl)) (by unfold Func.isWrapper; rw [if_neg (of_decide_eq_false (by kernel_rfl))]; exact ⟨rfl, rfl⟩)
    (fun os started H enc _ => tells16_lifted os started H enc)
#print axioms codeTells_holds
end Go.Proofs.Ytclkpahihfeacaa
