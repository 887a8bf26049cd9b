/-
  Vectors: the document's Cross, Mix, Clamp. What the dump lacks is left out.
-/
import Derived.Test.YtbhdloanlagddaaVS
namespace Go.Proofs.Ytbhdloanlagddaa
open Go.RowKit
set_option linter.unusedVariables false
set_option linter.unusedSimpArgs false

theorem Blk.other4 {w : World} {b r : Nat} {cs : Array Value} {t : TypeId} (h : Blk w b cs t) (hne : b ≠ r) (x0 x1 x2 x3 : Value) : Blk ((((w.setCell ⟨r, 0, none⟩ x0).setCell ⟨r, 1, none⟩ x1).setCell ⟨r, 2, none⟩ x2).setCell ⟨r, 3, none⟩ x3) b cs t :=
  (((h.other 0 x0 hne).other 1 x1 hne).other 2 x2 hne).other 3 x3 hne

theorem refTwos_as (op n : Int) (a b p : Nat → Int) (w : World) (h0 : 0 ≤ op) (h7 : op ≤ 7) (h1 : 1 ≤ n) (h4 : n ≤ 4) (Ia : ∀ i, I32 (a i)) (Ib : ∀ i, I32 (b i)) (hp : cut n (fun i => twoI op (a i) (b i)) = p) :
    Calls Try.prog 60 #[.int .i64 op, .int .i64 n, .agg #[.int .i32 (a 0), .int .i32 (a 1), .int .i32 (a 2), .int .i32 (a 3)], .agg #[.int .i32 (b 0), .int .i32 (b 1), .int .i32 (b 2), .int .i32 (b 3)]] w fun e w' => e = .returned (.agg #[.int .i32 (p 0), .int .i32 (p 1), .int .i32 (p 2), .int .i32 (p 3)]) ∧ Ext w w' := by
  subst hp
  exact refTwos_any op n a b w h0 h7 h1 h4 Ia Ib
theorem cut_in {n : Int} {f : Nat → Int} {i : Nat} (h : (i : Int) < n) : cut n f i = f i := by unfold cut; rw [if_pos h]

/-- What lies in the first three blocks is there as long as they stay. -/
theorem later_cells {w0 : World} {B : Nat} {a b t : Nat → Int} {ty : TypeId} (ha : Blk w0 B #[.int .i32 (a 0), .int .i32 (a 1), .int .i32 (a 2), .int .i32 (a 3)] ty) (hb : Blk w0 (B + 1) #[.int .i32 (b 0), .int .i32 (b 1), .int .i32 (b 2), .int .i32 (b 3)] ty) (ht : Blk w0 (B + 1 + 1) #[.int .i32 (t 0), .int .i32 (t 1), .int .i32 (t 2), .int .i32 (t 3)] ty) :
    ((∀ w', Below (B + 1 + 1 + 1) w0 w' → w'.cell? ⟨B, 0, none⟩ = some (.int .i32 (a 0))) ∧ (∀ w', Below (B + 1 + 1 + 1) w0 w' → w'.cell? ⟨B, 1, none⟩ = some (.int .i32 (a 1))) ∧ (∀ w', Below (B + 1 + 1 + 1) w0 w' → w'.cell? ⟨B, 2, none⟩ = some (.int .i32 (a 2))) ∧ (∀ w', Below (B + 1 + 1 + 1) w0 w' → w'.cell? ⟨B, 3, none⟩ = some (.int .i32 (a 3)))) ∧
    ((∀ w', Below (B + 1 + 1 + 1) w0 w' → w'.cell? ⟨B + 1, 0, none⟩ = some (.int .i32 (b 0))) ∧ (∀ w', Below (B + 1 + 1 + 1) w0 w' → w'.cell? ⟨B + 1, 1, none⟩ = some (.int .i32 (b 1))) ∧ (∀ w', Below (B + 1 + 1 + 1) w0 w' → w'.cell? ⟨B + 1, 2, none⟩ = some (.int .i32 (b 2))) ∧ (∀ w', Below (B + 1 + 1 + 1) w0 w' → w'.cell? ⟨B + 1, 3, none⟩ = some (.int .i32 (b 3)))) ∧
    (∀ w', Below (B + 1 + 1 + 1) w0 w' → w'.cell? ⟨B + 1 + 1, 0, none⟩ = some (.int .i32 (t 0))) ∧ (∀ w', Below (B + 1 + 1 + 1) w0 w' → w'.cell? ⟨B + 1 + 1, 1, none⟩ = some (.int .i32 (t 1))) ∧ (∀ w', Below (B + 1 + 1 + 1) w0 w' → w'.cell? ⟨B + 1 + 1, 2, none⟩ = some (.int .i32 (t 2))) ∧ (∀ w', Below (B + 1 + 1 + 1) w0 w' → w'.cell? ⟨B + 1 + 1, 3, none⟩ = some (.int .i32 (t 3))) := by
  have g : ∀ (r i : Nat) v, r < B + 1 + 1 + 1 → w0.cell? ⟨r, i, none⟩ = some v → ∀ w', Below (B + 1 + 1 + 1) w0 w' → w'.cell? ⟨r, i, none⟩ = some v := fun r i v hr h w' hb => by rw [hb.cell (p := ⟨r, i, none⟩) hr]; exact h
  obtain ⟨x0, x1, x2, x3⟩ := ha.vec4
  obtain ⟨y0, y1, y2, y3⟩ := hb.vec4
  obtain ⟨z0, z1, z2, z3⟩ := ht.vec4
  exact ⟨⟨g _ _ _ (by omega) x0, g _ _ _ (by omega) x1, g _ _ _ (by omega) x2, g _ _ _ (by omega) x3⟩, ⟨g _ _ _ (by omega) y0, g _ _ _ (by omega) y1, g _ _ _ (by omega) y2, g _ _ _ (by omega) y3⟩, g _ _ _ (by omega) z0, g _ _ _ (by omega) z1, g _ _ _ (by omega) z2, g _ _ _ (by omega) z3⟩
theorem below_set4 {B : Nat} {w0 w1 : World} {b : Nat} {x0 x1 x2 x3 : Value} (h : Below B w0 w1) (hB : B ≤ b) (hs : B ≤ w1.heap.size) : Below B w0 ((((w1.setCell ⟨b, 0, none⟩ x0).setCell ⟨b, 1, none⟩ x1).setCell ⟨b, 2, none⟩ x2).setCell ⟨b, 3, none⟩ x3) := by
  have g : ∀ {w1 : World} (i : Nat) (x : Value), Below B w0 w1 → B ≤ w1.heap.size → Below B w0 (w1.setCell ⟨b, i, none⟩ x) ∧ B ≤ (w1.setCell ⟨b, i, none⟩ x).heap.size := fun i x h hs => ⟨below_grown h (grownBy_set _ b i x) hs hB, by simpa using hs⟩
  obtain ⟨h0, s0⟩ := g 0 x0 h hs
  obtain ⟨h1, s1⟩ := g 1 x1 h0 s0
  obtain ⟨h2, s2⟩ := g 2 x2 h1 s1
  exact (g 3 x3 h2 s2).1

set_option maxHeartbeats 4000000 in
theorem refMix_any (n : Int) (a b t : Nat → Int) (w : World) (h1 : 1 ≤ n) (h4 : n ≤ 4) (Ia : ∀ i, I32 (a i)) (Ib : ∀ i, I32 (b i)) (It : ∀ i, I32 (t i)) :
    Calls Try.prog 52 #[.int .i64 n, .agg #[.int .i32 (a 0), .int .i32 (a 1), .int .i32 (a 2), .int .i32 (a 3)], .agg #[.int .i32 (b 0), .int .i32 (b 1), .int .i32 (b 2), .int .i32 (b 3)], .agg #[.int .i32 (t 0), .int .i32 (t 1), .int .i32 (t 2), .int .i32 (t 3)]] w fun e w' => e = .returned (.agg #[.int .i32 (cut n (fun i => addI (a i) (mulI (subI (b i) (a i)) (t i))) 0), .int .i32 (cut n (fun i => addI (a i) (mulI (subI (b i) (a i)) (t i))) 1), .int .i32 (cut n (fun i => addI (a i) (mulI (subI (b i) (a i)) (t i))) 2), .int .i32 (cut n (fun i => addI (a i) (mulI (subI (b i) (a i)) (t i))) 3)]) ∧ Ext w w' := by
  obtain ⟨p1, E1⟩ : ∃ p1, Hid (cut n (fun i => twoI 1 (b i) (a i)) = p1) := ⟨_, rfl⟩
  obtain ⟨p2, E2⟩ : ∃ p2, Hid (cut n (fun i => twoI 2 (p1 i) (t i)) = p2) := ⟨_, rfl⟩
  obtain ⟨p3, E3⟩ : ∃ p3, Hid (cut n (fun i => twoI 0 (a i) (p2 i)) = p3) := ⟨_, rfl⟩
  have I1 : Hid (∀ i, I32 (p1 i)) := by rw [← unhide E1]; exact cut_i32 (fun i => twoI_i32 1 (Ib i) (Ia i))
  have I2 : Hid (∀ i, I32 (p2 i)) := by rw [← unhide E2]; exact cut_i32 (fun i => twoI_i32 2 (unhide I1 i) (It i))
  have E : cut n (fun i => addI (a i) (mulI (subI (b i) (a i)) (t i))) = p3 := by
    rw [← unhide E3]
    refine cut_congr fun i hi => ?_
    rw [← unhide E2, cut_in hi, ← unhide E1, cut_in hi]
    rfl
  rw [E]
  have HI := hide (And.intro Ia (And.intro Ib It))
  clear E Ia Ib It
  have B0 : Hid (Blk ((((w.alloc (.cells #[.int .i32 (a 0), .int .i32 (a 1), .int .i32 (a 2), .int .i32 (a 3)] 26)).alloc (.cells #[.int .i32 (b 0), .int .i32 (b 1), .int .i32 (b 2), .int .i32 (b 3)] 26)).alloc (.cells #[.int .i32 (t 0), .int .i32 (t 1), .int .i32 (t 2), .int .i32 (t 3)] 26)).alloc (.cells #[.int .i32 0, .int .i32 0, .int .i32 0, .int .i32 0] 26)).drew w.heap.size #[.int .i32 (a 0), .int .i32 (a 1), .int .i32 (a 2), .int .i32 (a 3)] 26) := (((Blk.at rfl).alloc _).alloc _).alloc _
  have B1 : Hid (Blk ((((w.alloc (.cells #[.int .i32 (a 0), .int .i32 (a 1), .int .i32 (a 2), .int .i32 (a 3)] 26)).alloc (.cells #[.int .i32 (b 0), .int .i32 (b 1), .int .i32 (b 2), .int .i32 (b 3)] 26)).alloc (.cells #[.int .i32 (t 0), .int .i32 (t 1), .int .i32 (t 2), .int .i32 (t 3)] 26)).alloc (.cells #[.int .i32 0, .int .i32 0, .int .i32 0, .int .i32 0] 26)).drew (w.heap.size + 1) #[.int .i32 (b 0), .int .i32 (b 1), .int .i32 (b 2), .int .i32 (b 3)] 26) := ((Blk.at (by simp)).alloc _).alloc _
  have B2 : Hid (Blk ((((w.alloc (.cells #[.int .i32 (a 0), .int .i32 (a 1), .int .i32 (a 2), .int .i32 (a 3)] 26)).alloc (.cells #[.int .i32 (b 0), .int .i32 (b 1), .int .i32 (b 2), .int .i32 (b 3)] 26)).alloc (.cells #[.int .i32 (t 0), .int .i32 (t 1), .int .i32 (t 2), .int .i32 (t 3)] 26)).alloc (.cells #[.int .i32 0, .int .i32 0, .int .i32 0, .int .i32 0] 26)).drew (w.heap.size + 1 + 1) #[.int .i32 (t 0), .int .i32 (t 1), .int .i32 (t 2), .int .i32 (t 3)] 26) := (Blk.at (by simp)).alloc _
  have RB : Hid (Blk ((((w.alloc (.cells #[.int .i32 (a 0), .int .i32 (a 1), .int .i32 (a 2), .int .i32 (a 3)] 26)).alloc (.cells #[.int .i32 (b 0), .int .i32 (b 1), .int .i32 (b 2), .int .i32 (b 3)] 26)).alloc (.cells #[.int .i32 (t 0), .int .i32 (t 1), .int .i32 (t 2), .int .i32 (t 3)] 26)).alloc (.cells #[.int .i32 0, .int .i32 0, .int .i32 0, .int .i32 0] 26)).drew (w.heap.size + 1 + 1 + 1) #[.int .i32 (nul 0), .int .i32 (nul 1), .int .i32 (nul 2), .int .i32 (nul 3)] 26) := Blk.at (by simp)
  have X : Hid (Ext w ((((w.alloc (.cells #[.int .i32 (a 0), .int .i32 (a 1), .int .i32 (a 2), .int .i32 (a 3)] 26)).alloc (.cells #[.int .i32 (b 0), .int .i32 (b 1), .int .i32 (b 2), .int .i32 (b 3)] 26)).alloc (.cells #[.int .i32 (t 0), .int .i32 (t 1), .int .i32 (t 2), .int .i32 (t 3)] 26)).alloc (.cells #[.int .i32 0, .int .i32 0, .int .i32 0, .int .i32 0] 26)).drew) := (((((Ext.refl w).alloc _).alloc _).alloc _).alloc _).drew
  go_enter Try.func52, Try.ntmps52
  go_wp2
  generalize (((w.alloc (.cells #[.int .i32 (a 0), .int .i32 (a 1), .int .i32 (a 2), .int .i32 (a 3)] 26)).alloc (.cells #[.int .i32 (b 0), .int .i32 (b 1), .int .i32 (b 2), .int .i32 (b 3)] 26)).alloc (.cells #[.int .i32 (t 0), .int .i32 (t 1), .int .i32 (t 2), .int .i32 (t 3)] 26)).alloc (.cells #[.int .i32 0, .int .i32 0, .int .i32 0, .int .i32 0] 26) = w3 at *
  have hc := later_cells (unhide B0) (unhide B1) (unhide B2)
  obtain ⟨⟨c0, c1, c2, c3⟩, ⟨e0, e1, e2, e3⟩, m0, m1, m2, m3⟩ := hc
  go_region_held3 (fun w' => Below (w.heap.size + 1 + 1 + 1) w3.drew w')
    (first | exact Below.refl _ _ | exact (by assumption : Below (w.heap.size + 1 + 1 + 1) w3.drew _).trans bx | exact below_set4 (by assumption) (Nat.le_refl _) sz)
    (first | (go_at_call_of 60 (Value.int IntKind.i64 1); refine (refTwos_as 1 n b a p1 _ (by omega) (by omega) h1 h4 (unhide HI).2.1 (unhide HI).1 (unhide E1)).mono ?_; rintro e w' ⟨rfl, hx⟩; have bx := Below.mono hx (Nat.le_of_lt (unhide RB).lt); have RB := hide ((unhide RB).ext hx); have sz := Nat.le_of_lt (unhide RB).lt; obtain ⟨r0, r1, r2, r3⟩ := (unhide RB).vec4; obtain ⟨f0, f1, f2, f3⟩ := (unhide RB).free4; have X := hide ((unhide X).trans hx)) | (go_at_call_of 60 (Value.int IntKind.i64 2); refine (refTwos_as 2 n p1 t p2 _ (by omega) (by omega) h1 h4 (unhide I1) (unhide HI).2.2 (unhide E2)).mono ?_; rintro e w' ⟨rfl, hx⟩; have bx := Below.mono hx (Nat.le_of_lt (unhide RB).lt); have RB := hide ((unhide RB).ext hx); have sz := Nat.le_of_lt (unhide RB).lt; obtain ⟨r0, r1, r2, r3⟩ := (unhide RB).vec4; obtain ⟨f0, f1, f2, f3⟩ := (unhide RB).free4; have X := hide ((unhide X).trans hx)) | (go_at_call_of 60 (Value.int IntKind.i64 0); refine (refTwos_as 0 n a p2 p3 _ (by omega) (by omega) h1 h4 (unhide HI).1 (unhide I2) (unhide E3)).mono ?_; rintro e w' ⟨rfl, hx⟩; have bx := Below.mono hx (Nat.le_of_lt (unhide RB).lt); have RB := hide ((unhide RB).ext hx); have sz := Nat.le_of_lt (unhide RB).lt; obtain ⟨r0, r1, r2, r3⟩ := (unhide RB).vec4; obtain ⟨f0, f1, f2, f3⟩ := (unhide RB).free4; have X := hide ((unhide X).trans hx)))
  go_wp2
  obtain ⟨q0, q1, q2, q3⟩ := lay4 (a := nul) (unhide RB) (.int .i32 (p3 0)) (.int .i32 (p3 1)) (.int .i32 (p3 2)) (.int .i32 (p3 3))
  refine bodyPost_ret (v := .agg #[.int .i32 (p3 0), .int .i32 (p3 1), .int .i32 (p3 2), .int .i32 (p3 3)]) (by simp [results, Try.results52, go_sem, q0, q1, q2, q3]) rfl ⟨rfl, ?_⟩
  exact ext_set4 (unhide X) (by omega)

end Go.Proofs.Ytbhdloanlagddaa
