/-
  Proved: VecOrders answers true for every pair of vectors and every vector: the lesser and the greater of both are both, what is clamped lies within, floor and fraction are the number. No condition.
-/
import Derived.Test.YtljffgmgnnjnaaaVF
import Derived.Test.YtljffgmgnnjnaaaVW
import Derived.Deep.CutRange
namespace Go.Proofs.Ytljffgmgnnjnaaa
open Go.ChangeShapes Go.WideShapes Go.ChangeAt Go.RowKit
set_option linter.unusedVariables false

theorem cut4 (f : Nat → Int) (k : Nat) (hk : k < 4) : cut 4 f k = f k := by unfold cut; rw [if_pos (by omega)]
theorem pair_snd (x y : Nat → Int) (k : Nat) (hk : k < 4) : (#[.int .i32 (x 0), .int .i32 (x 1), .int .i32 (x 2), .int .i32 (x 3), .int .i32 (y 0), .int .i32 (y 1), .int .i32 (y 2), .int .i32 (y 3)] : Array Value)[4 + k]? = some (.int .i32 (y k)) := by
  rcases (by omega : k = 0 ∨ k = 1 ∨ k = 2 ∨ k = 3) with rfl | rfl | rfl | rfl <;> rfl
theorem pair_fst (x y : Nat → Int) (k : Nat) (hk : k < 4) : (#[.int .i32 (x 0), .int .i32 (x 1), .int .i32 (x 2), .int .i32 (x 3), .int .i32 (y 0), .int .i32 (y 1), .int .i32 (y 2), .int .i32 (y 3)] : Array Value)[k]? = some (.int .i32 (x k)) := by
  rcases (by omega : k = 0 ∨ k = 1 ∨ k = 2 ∨ k = 3) with rfl | rfl | rfl | rfl <;> rfl
theorem fract_in {x : Int} (h : I32 x) : fractI x = x - floorI x ∧ 0 ≤ fractI x ∧ fractI x < 65536 := by
  unfold I32 at h
  have e : fractI x = x - floorI x := by unfold fractI subI; exact rawI_id (by unfold I32 floorI; omega)
  refine ⟨e, ?_⟩
  rw [e]
  unfold floorI
  omega
theorem floor_fract {x : Int} (h : I32 x) : addI (floorI x) (fractI x) = x := by
  rw [(fract_in h).1]
  unfold addI
  rw [show floorI x + (x - floorI x) = x by omega]
  exact rawI_id h

set_option maxHeartbeats 8000000 in
set_option maxRecDepth 100000 in
theorem orders_any (a b x : Nat → Int) (w : World) (Ia : ∀ i, I32 (a i)) (Ib : ∀ i, I32 (b i)) (Ix : ∀ i, I32 (x i)) :
    Calls Try.prog 3 #[.agg #[.int .i32 (a 0), .int .i32 (a 1), .int .i32 (a 2), .int .i32 (a 3), .int .i32 (b 0), .int .i32 (b 1), .int .i32 (b 2), .int .i32 (b 3)], .agg #[.int .i32 (x 0), .int .i32 (x 1), .int .i32 (x 2), .int .i32 (x 3)]] w fun e w' => e = .returned (.bool true) ∧ Ext w w' := by
  obtain ⟨lo, Elo⟩ : ∃ lo, Hid (cut 4 (fun i => twoI 4 (a i) (b i)) = lo) := ⟨_, hide rfl⟩
  obtain ⟨hi, Ehi⟩ : ∃ hi, Hid (cut 4 (fun i => twoI 5 (a i) (b i)) = hi) := ⟨_, hide rfl⟩
  obtain ⟨c, Ec⟩ : ∃ c, Hid (cut 4 (fun i => clampI (x i) (lo i) (hi i)) = c) := ⟨_, hide rfl⟩
  obtain ⟨d, Ed⟩ : ∃ d, Hid (cut 4 (fun i => oneI 3 (x i)) = d) := ⟨_, hide rfl⟩
  obtain ⟨f, Ef⟩ : ∃ f, Hid (cut 4 (fun i => oneI 4 (x i)) = f) := ⟨_, hide rfl⟩
  have HI := hide (And.intro Ia (And.intro Ib Ix))
  clear Ia Ib Ix
  have KL : Hid (∀ k, k < 4 → lo k = min (a k) (b k) ∧ hi k = max (a k) (b k) ∧ c k = min (max (x k) (lo k)) (hi k)) := fun k hk => by
    rw [← unhide Ec, cut4 _ k hk, ← unhide Elo, ← unhide Ehi, cut4 _ k hk, cut4 _ k hk]
    exact ⟨rfl, rfl, rfl⟩
  have KD : Hid (∀ k, k < 4 → addI (d k) (f k) = x k ∧ 0 ≤ f k ∧ f k < 65536 ∧ I32 (d k) ∧ I32 (f k)) := fun k hk => by
    rw [← unhide Ed, ← unhide Ef, cut4 _ k hk, cut4 _ k hk]
    have h := (unhide HI).2.2 k
    have hf := fract_in h
    exact ⟨floor_fract h, hf.2.1, hf.2.2, floorI_i32 h, subI_i32 _ _⟩
  go_enter Try.func3, Try.ntmps3
  go_wp2_with fail
  refine (wakes_any _).mono ?_
  rintro e w1 ⟨rfl, hx1⟩
  have B := hide (((Blk.at (cs := #[.int .i32 (a 0), .int .i32 (a 1), .int .i32 (a 2), .int .i32 (a 3), .int .i32 (b 0), .int .i32 (b 1), .int .i32 (b 2), .int .i32 (b 3)]) (t := 26) (rfl : w.heap.size = w.heap.size)).alloc _).ext hx1)
  have C := hide ((Blk.at (b := w.heap.size + 1) (cs := #[.int .i32 (x 0), .int .i32 (x 1), .int .i32 (x 2), .int .i32 (x 3)]) (t := 24) (by simp)).ext hx1)
  have X := hide ((((Ext.refl w).alloc _).alloc _).trans hx1)
  clear hx1
  obtain ⟨⟨p0, p1, p2, p3⟩, p4, p5, p6, p7⟩ := (unhide B).pair
  go_wp2_with fail
  refine (two_any 4 4 a b _ (by omega) (by omega) (by omega) (by omega) (unhide HI).1 (unhide HI).2.1).mono ?_
  rintro e w2 ⟨rfl, hx2⟩
  rw [unhide Elo]
  have B2 := hide (((unhide B).ext hx2).alloc (.cells #[.int .i32 (lo 0), .int .i32 (lo 1), .int .i32 (lo 2), .int .i32 (lo 3)] 24))
  have C2 := hide (((unhide C).ext hx2).alloc (.cells #[.int .i32 (lo 0), .int .i32 (lo 1), .int .i32 (lo 2), .int .i32 (lo 3)] 24))
  have X2 := hide (((unhide X).trans hx2).alloc (.cells #[.int .i32 (lo 0), .int .i32 (lo 1), .int .i32 (lo 2), .int .i32 (lo 3)] 24))
  have L2 := hide (Blk.at (w := w2) (cs := #[.int .i32 (lo 0), .int .i32 (lo 1), .int .i32 (lo 2), .int .i32 (lo 3)]) (t := 24) rfl)
  clear hx2 B C X p0 p1 p2 p3 p4 p5 p6 p7
  obtain ⟨⟨p0, p1, p2, p3⟩, p4, p5, p6, p7⟩ := (unhide B2).pair
  go_wp2_with fail
  refine (two_any 5 4 a b _ (by omega) (by omega) (by omega) (by omega) (unhide HI).1 (unhide HI).2.1).mono ?_
  rintro e w3 ⟨rfl, hx3⟩
  rw [unhide Ehi]
  have B3 := hide (((unhide B2).ext hx3).alloc (.cells #[.int .i32 (hi 0), .int .i32 (hi 1), .int .i32 (hi 2), .int .i32 (hi 3)] 24))
  have C3 := hide (((unhide C2).ext hx3).alloc (.cells #[.int .i32 (hi 0), .int .i32 (hi 1), .int .i32 (hi 2), .int .i32 (hi 3)] 24))
  have X3 := hide (((unhide X2).trans hx3).alloc (.cells #[.int .i32 (hi 0), .int .i32 (hi 1), .int .i32 (hi 2), .int .i32 (hi 3)] 24))
  have L3 := hide (((unhide L2).ext hx3).alloc (.cells #[.int .i32 (hi 0), .int .i32 (hi 1), .int .i32 (hi 2), .int .i32 (hi 3)] 24))
  have H3 := hide (Blk.at (w := w3) (cs := #[.int .i32 (hi 0), .int .i32 (hi 1), .int .i32 (hi 2), .int .i32 (hi 3)]) (t := 24) rfl)
  clear hx3 B2 C2 X2 L2 p0 p1 p2 p3 p4 p5 p6 p7
  obtain ⟨t0, t1, t2, t3⟩ := (unhide C3).vec4
  obtain ⟨l0, l1, l2, l3⟩ := (unhide L3).vec4
  go_wp2_with fail
  refine (clampV_any 4 x lo hi _ (by omega) (by omega)).mono ?_
  rintro e w4 ⟨rfl, hx4⟩
  rw [unhide Ec]
  have B4 := hide (((unhide B3).ext hx4).alloc (.cells #[.int .i32 (c 0), .int .i32 (c 1), .int .i32 (c 2), .int .i32 (c 3)] 24))
  have C4 := hide (((unhide C3).ext hx4).alloc (.cells #[.int .i32 (c 0), .int .i32 (c 1), .int .i32 (c 2), .int .i32 (c 3)] 24))
  have X4 := hide (((unhide X3).trans hx4).alloc (.cells #[.int .i32 (c 0), .int .i32 (c 1), .int .i32 (c 2), .int .i32 (c 3)] 24))
  have L4 := hide (((unhide L3).ext hx4).alloc (.cells #[.int .i32 (c 0), .int .i32 (c 1), .int .i32 (c 2), .int .i32 (c 3)] 24))
  have H4 := hide (((unhide H3).ext hx4).alloc (.cells #[.int .i32 (c 0), .int .i32 (c 1), .int .i32 (c 2), .int .i32 (c 3)] 24))
  have M4 := hide (Blk.at (w := w4) (cs := #[.int .i32 (c 0), .int .i32 (c 1), .int .i32 (c 2), .int .i32 (c 3)]) (t := 24) rfl)
  clear hx4 B3 C3 X3 L3 H3 t0 t1 t2 t3 l0 l1 l2 l3
  obtain ⟨t0, t1, t2, t3⟩ := (unhide C4).vec4
  go_wp2_with fail
  refine (one_any 3 4 x _ (by omega) (by omega) (by omega) (by omega) (unhide HI).2.2).mono ?_
  rintro e w5 ⟨rfl, hx5⟩
  rw [unhide Ed]
  have B5 := hide (((unhide B4).ext hx5).alloc (.cells #[.int .i32 (d 0), .int .i32 (d 1), .int .i32 (d 2), .int .i32 (d 3)] 24))
  have C5 := hide (((unhide C4).ext hx5).alloc (.cells #[.int .i32 (d 0), .int .i32 (d 1), .int .i32 (d 2), .int .i32 (d 3)] 24))
  have X5 := hide (((unhide X4).trans hx5).alloc (.cells #[.int .i32 (d 0), .int .i32 (d 1), .int .i32 (d 2), .int .i32 (d 3)] 24))
  have L5 := hide (((unhide L4).ext hx5).alloc (.cells #[.int .i32 (d 0), .int .i32 (d 1), .int .i32 (d 2), .int .i32 (d 3)] 24))
  have H5 := hide (((unhide H4).ext hx5).alloc (.cells #[.int .i32 (d 0), .int .i32 (d 1), .int .i32 (d 2), .int .i32 (d 3)] 24))
  have M5 := hide (((unhide M4).ext hx5).alloc (.cells #[.int .i32 (d 0), .int .i32 (d 1), .int .i32 (d 2), .int .i32 (d 3)] 24))
  have D5 := hide (Blk.at (w := w5) (cs := #[.int .i32 (d 0), .int .i32 (d 1), .int .i32 (d 2), .int .i32 (d 3)]) (t := 24) rfl)
  clear hx5 B4 C4 X4 L4 H4 M4 t0 t1 t2 t3
  obtain ⟨t0, t1, t2, t3⟩ := (unhide C5).vec4
  go_wp2_with fail
  refine (one_any 4 4 x _ (by omega) (by omega) (by omega) (by omega) (unhide HI).2.2).mono ?_
  rintro e w6 ⟨rfl, hx6⟩
  rw [unhide Ef]
  have B6 := hide (((unhide B5).ext hx6).alloc (.cells #[.int .i32 (f 0), .int .i32 (f 1), .int .i32 (f 2), .int .i32 (f 3)] 24))
  have C6 := hide (((unhide C5).ext hx6).alloc (.cells #[.int .i32 (f 0), .int .i32 (f 1), .int .i32 (f 2), .int .i32 (f 3)] 24))
  have X6 := hide (((unhide X5).trans hx6).alloc (.cells #[.int .i32 (f 0), .int .i32 (f 1), .int .i32 (f 2), .int .i32 (f 3)] 24))
  have L6 := hide (((unhide L5).ext hx6).alloc (.cells #[.int .i32 (f 0), .int .i32 (f 1), .int .i32 (f 2), .int .i32 (f 3)] 24))
  have H6 := hide (((unhide H5).ext hx6).alloc (.cells #[.int .i32 (f 0), .int .i32 (f 1), .int .i32 (f 2), .int .i32 (f 3)] 24))
  have M6 := hide (((unhide M5).ext hx6).alloc (.cells #[.int .i32 (f 0), .int .i32 (f 1), .int .i32 (f 2), .int .i32 (f 3)] 24))
  have D6 := hide (((unhide D5).ext hx6).alloc (.cells #[.int .i32 (f 0), .int .i32 (f 1), .int .i32 (f 2), .int .i32 (f 3)] 24))
  have F6 := hide (Blk.at (w := w6) (cs := #[.int .i32 (f 0), .int .i32 (f 1), .int .i32 (f 2), .int .i32 (f 3)]) (t := 24) rfl)
  clear hx6 B5 C5 X5 L5 H5 M5 D5 t0 t1 t2 t3
  go_upto_region 10 with fail
  generalize w6.alloc (.cells #[.int .i32 (f 0), .int .i32 (f 1), .int .i32 (f 2), .int .i32 (f 3)] 24) = w7 at *
  go_cut [69] from 16 (fun s wc => s = .int .i64 0 ∧ w7 = wc)
  case first =>
    go_wp2
    go_meet
    exact ⟨rfl, rfl⟩
  case rest =>
  obtain ⟨rfl, rfl⟩ := hcut
  go_wp2
  go_loopw [69] (fun i wr => ∃ k : Nat, k ≤ 4 ∧ i = .int .i64 k ∧ ∃ m, wr = w7.drewN m) (fun i _ => 4 - (intOf i).toNat)
  case atStart => exact ⟨0, by omega, rfl, 0, rfl⟩
  case round =>
    obtain ⟨k, hk, rfl, m, rfl⟩ := hrel
    by_cases hlt : k < 4
    · have hki : (k : Int) < 4 := by omega
      have cA := (unhide B6).cell (pair_fst a b k hlt)
      have cB := (unhide B6).cell (pair_snd a b k hlt)
      have cX := (unhide C6).vec k hlt
      have cL := (unhide L6).vec k hlt
      have cH := (unhide H6).vec k hlt
      have cC := (unhide M6).vec k hlt
      have cD := (unhide D6).vec k hlt
      have cF := (unhide F6).vec k hlt
      have KA := hide (unhide KL k hlt)
      have KB := hide (unhide KD k hlt)
      clear KL KD Elo Ehi Ec Ed Ef B6 C6 L6 H6 M6 D6 F6 HI
      generalize a k = ak at *
      generalize b k = bk at *
      generalize x k = xk at *
      generalize lo k = lk at *
      generalize hi k = hk' at *
      generalize c k = ck at *
      generalize d k = dk at *
      generalize f k = fk at *
      have g1 : decide (fk < 0) = false := by have := unhide KB; simp; omega
      have g2 : decide (65536 ≤ fk) = false := by have := unhide KB; simp; omega
      have e1 : decide (hk' < lk) = false := by have := unhide KA; simp; omega
      have e2 : decide (ck < lk) = false := by have := unhide KA; simp; omega
      have e3 : decide (hk' < ck) = false := by have := unhide KA; simp; omega
      have HAdd : Hid (∀ W, Calls Try.prog 8 #[.int .i32 dk, .int .i32 fk] W fun e w' => e = .returned (.int .i32 xk) ∧ w' = W) := fun W => by
        have h := add_any dk fk W (unhide KB).2.2.2.1 (unhide KB).2.2.2.2
        rw [(unhide KB).1] at h
        exact h
      go_wp2
      go_cut [158] from 70 to 225 (fun s wc => s = .bool false ∧ ∃ n, wc = w7.drewN n)
      case first =>
        simp only [List.append_eq, List.cons_append, List.nil_append]
        refine wp_region_quiet_lit (by as_aux_lemma => kernel_rfl) (by as_aux_lemma => kernel_rfl) ?_
        rcases (by omega : ak < bk ∨ ak = bk ∨ bk < ak) with hab | hab | hab
        · have n0 : (lk != ak) = false := by have := unhide KA; simp; omega
          have n1 : (hk' != ak) = true := by have := unhide KA; simp; omega
          have n2 : (hk' != bk) = false := by have := unhide KA; simp; omega
          have n3 : (lk == ak) = true := by have := unhide KA; simp; omega
          clear hab KA KB HAdd
          as_aux_lemma =>
            repeat (go_big_quiet_step (fail))
            refine wpQuiet_nil ?_
            rintro _ ⟨nq, rfl⟩
            go_wp2
            go_meet
            exact ⟨rfl, _, World.drewN_drewN _ _ _⟩
        · have n0 : (lk != ak) = false := by have := unhide KA; simp; omega
          have n1 : (hk' != ak) = false := by have := unhide KA; simp; omega
          have n2 : (hk' != bk) = false := by have := unhide KA; simp; omega
          have n3 : (lk == ak) = true := by have := unhide KA; simp; omega
          clear hab KA KB HAdd
          as_aux_lemma =>
            repeat (go_big_quiet_step (fail))
            refine wpQuiet_nil ?_
            rintro _ ⟨nq, rfl⟩
            go_wp2
            go_meet
            exact ⟨rfl, _, World.drewN_drewN _ _ _⟩
        · have n0 : (lk != ak) = true := by have := unhide KA; simp; omega
          have n1 : (lk != bk) = false := by have := unhide KA; simp; omega
          have n2 : (hk' != ak) = false := by have := unhide KA; simp; omega
          have n3 : (lk == ak) = false := by have := unhide KA; simp; omega
          clear hab KA KB HAdd
          as_aux_lemma =>
            repeat (go_big_quiet_step (fail))
            refine wpQuiet_nil ?_
            rintro _ ⟨nq, rfl⟩
            go_wp2
            go_meet
            exact ⟨rfl, _, World.drewN_drewN _ _ _⟩
      case rest =>
      obtain ⟨rfl, n, rfl⟩ := hcut
      go_wp2
      go_cut [201] from 70 to 225 (fun s wc => s = .bool false ∧ ∃ n, wc = w7.drewN n)
      case first =>
        refine wp_region_quiet_lit (by as_aux_lemma => kernel_rfl) (by as_aux_lemma => kernel_rfl) ?_
        rcases (by omega : xk < lk ∨ (lk ≤ xk ∧ xk ≤ hk') ∨ (lk ≤ xk ∧ hk' < xk)) with hx | hx | hx
        · have x1 : decide (lk ≤ xk) = false := by simp; omega
          clear KA KB HAdd
          as_aux_lemma =>
            repeat (go_big_quiet_step (fail))
            refine wpQuiet_nil ?_
            rintro _ ⟨nq, rfl⟩
            go_wp2
            go_meet
            exact ⟨rfl, _, World.drewN_drewN _ _ _⟩
        · have x1 : decide (lk ≤ xk) = true := by simp; omega
          have x2 : decide (xk ≤ hk') = true := by simp; omega
          have x3 : (ck != xk) = false := by have := unhide KA; simp; omega
          clear KA KB HAdd
          as_aux_lemma =>
            repeat (go_big_quiet_step (fail))
            refine wpQuiet_nil ?_
            rintro _ ⟨nq, rfl⟩
            go_wp2
            go_meet
            exact ⟨rfl, _, World.drewN_drewN _ _ _⟩
        · have x1 : decide (lk ≤ xk) = true := by simp; omega
          have x2 : decide (xk ≤ hk') = false := by simp; omega
          clear KA KB HAdd
          as_aux_lemma =>
            repeat (go_big_quiet_step (fail))
            refine wpQuiet_nil ?_
            rintro _ ⟨nq, rfl⟩
            go_wp2
            go_meet
            exact ⟨rfl, _, World.drewN_drewN _ _ _⟩
      case rest =>
      obtain ⟨rfl, n2, rfl⟩ := hcut
      go_wp2
      go_quiet (first | (go_at_call 8; exact (unhide HAdd _).mono fun e w' h => ⟨h.1, _, h.2⟩))
      go_wp2
      go_roundw
      case rel =>
        first | exact ⟨k + 1, by omega, by go_num, _, rfl⟩ | exact ⟨k + 1, by omega, by go_num, _, World.drewN_drewN _ _ _⟩
      case measure => simp [intOf]; omega
    · go_wp2
      go_ret
      exact ⟨rfl, (unhide X6).drewN m⟩

theorem orders_owes (H : Type) (enc : TypeId × Value → H) (W : World) (base : Nat) (args : Array Value) (ds : List (DataW H)) (p : List MemPlace) : Owes H enc Try.prog 3 Try.f3 Rows.vecOrdersSpec W base args ds p := by
  intro hval hA hsz
  rw [Try.params3] at hA hval hsz
  obtain ⟨v0, vs0, d0, ds0, p0, q0, hargs, rfl, rfl, h0, r0⟩ := trodAll_cons hA
  obtain ⟨v1, vs1, d1, ds1, p1, q1, rfl, rfl, rfl, h1, r1⟩ := trodAll_cons r0
  obtain ⟨rfl, rfl, rfl⟩ := trodAll_nil r1
  obtain rfl : args = #[v0, v1] := by cases args; simp_all
  obtain ⟨a, b, rfl, Ia, Ib⟩ := open_pair (hval 0 26 v0 rfl rfl) h0
  obtain ⟨x, rfl, Ix⟩ := open_vec (hval 1 24 v1 rfl rfl) h1
  exact ⟨⟨rfl, rfl, rfl⟩, orders_any a b x W Ia Ib Ix⟩

set_option maxRecDepth 100000 in
theorem orders_lifted (os : Os) (started : os.Started) (H : Type) (enc : TypeId × Value → H) :
    ReturnsInHanded {} Try.checked os 3 .any (Rows.vecOrdersSpec.pre6 enc Try.prog Try.f3 [] false) (Rows.vecOrdersSpec.post enc Try.prog Try.f3 false true false false) :=
  lift_law (C := Try.checked) own laidOut started (by kernel_rfl) Try.func3 (T := 4) rfl Try.underlying4 rfl (by kernel_rfl)
    (ChangeSpec.witness6 (enc := enc) (C := Try.checked) false ⟨#[], #[.agg #[.int .i32 0, .int .i32 0, .int .i32 0, .int .i32 0, .int .i32 0, .int .i32 0, .int .i32 0, .int .i32 0], .agg #[.int .i32 0, .int .i32 0, .int .i32 0, .int .i32 0]], []⟩ 8 (by kernel_rfl) (by kernel_rfl) (by kernel_rfl) (by kernel_rfl)) (orders_owes H enc)

theorem vecOrders_holds : Rows.VecOrdersSaid :=
  OpenClaim.holds_of_wide 3 Try.f3 rfl rfl rfl rfl rfl rfl rfl ⟨rfl, rfl, rfl, rfl, rfl⟩ rfl rfl rfl rfl rfl (by kernel_rfl) Try.func3 (by kernel_rfl)
    (of_decide_eq_true (by kernel_rfl)) (by unfold Func.isWrapper; rw [if_neg (of_decide_eq_false (by kernel_rfl))]; exact ⟨rfl, rfl⟩)
    (fun os started H enc _ => orders_lifted os started H enc)
#print axioms vecOrders_holds
end Go.Proofs.Ytljffgmgnnjnaaa
