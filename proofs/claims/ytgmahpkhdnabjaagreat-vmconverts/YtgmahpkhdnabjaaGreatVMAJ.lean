/- Several texts in one. -/
import Derived.Test.YtgmahpkhdnabjaaGreatFxAJ
import Derived.Lib.SliceRun
import Derived.Deep.Upon
/-
  The machine of registers: truth; each number of a vector by a function (byOne, byTwo).
-/
namespace Go.Proofs.YtgmahpkhdnabjaaGreat
open Go.RowKit
set_option linter.unusedVariables false
set_option linter.unusedSimpArgs false

/-- The vector of what holds or does not. -/
def truI (b : Bool) : Nat → Int := fun i => if i = 0 then (if b then 1 else 0) else 0
theorem truI_i32 (b : Bool) (i : Nat) : I32 (truI b i) := by
  unfold truI I32
  repeat' split
  all_goals omega

set_option maxHeartbeats 1000000 in
theorem truth_any (b : Bool) (w : World) : Calls Tryz.prog 73 #[.bool b] w fun e w' => e = .returned (.agg #[.int .i32 (truI b 0), .int .i32 (truI b 1), .int .i32 (truI b 2), .int .i32 (truI b 3)]) ∧ Ext w w' := by
  have B0 : Blk (w.alloc (.cells #[.int .i32 (nul 0), .int .i32 (nul 1), .int .i32 (nul 2), .int .i32 (nul 3)] 28)) w.heap.size #[.int .i32 (nul 0), .int .i32 (nul 1), .int .i32 (nul 2), .int .i32 (nul 3)] 28 := Blk.new w _ _
  obtain ⟨f0, f1, f2, f3⟩ := B0.free4
  obtain ⟨c0, c1, c2, c3⟩ := B0.vec4
  have HB := hide B0
  clear B0
  go_enter Tryz.func73, Tryz.ntmps73
  cases b
  case false =>
    go_wp2
    refine bodyPost_ret (v := .agg #[.int .i32 (truI false 0), .int .i32 (truI false 1), .int .i32 (truI false 2), .int .i32 (truI false 3)]) (by simp [results, Tryz.results73, go_sem, truI]) rfl ⟨rfl, ?_⟩
    exact (Ext.refl w).alloc _
  case true =>
    go_wp2
    refine bodyPost_ret (v := .agg #[.int .i32 (truI true 0), .int .i32 (truI true 1), .int .i32 (truI true 2), .int .i32 (truI true 3)]) (by simp [results, Tryz.results73, go_sem, truI]) rfl ⟨rfl, ?_⟩
    exact (Ext.refl w).alloc _

/-- The first k numbers by f, the others as they are. -/
def mixN (k : Int) (f : Nat → Int) (a : Nat → Int) : Nat → Int := fun i => if (i : Int) < k then f i else a i
theorem mixN_zero (f a : Nat → Int) (i : Nat) : mixN (0 : Nat) f a i = a i := by unfold mixN; rw [if_neg (by omega)]
theorem mixN_at (f a : Nat → Int) (k : Nat) : mixN k f a k = a k := by unfold mixN; rw [if_neg (by omega)]
theorem mixN_set (f a : Nat → Int) (k : Nat) (hk : k < 4) : (#[.int .i32 (mixN k f a 0), .int .i32 (mixN k f a 1), .int .i32 (mixN k f a 2), .int .i32 (mixN k f a 3)] : Array Value).setIfInBounds k (.int .i32 (f k)) = #[.int .i32 (mixN ((k : Int) + 1) f a 0), .int .i32 (mixN ((k : Int) + 1) f a 1), .int .i32 (mixN ((k : Int) + 1) f a 2), .int .i32 (mixN ((k : Int) + 1) f a 3)] := by
  rcases (by omega : k = 0 ∨ k = 1 ∨ k = 2 ∨ k = 3) with rfl | rfl | rfl | rfl <;> simp [mixN]
theorem cut_mixN (n : Int) (f a : Nat → Int) : cut n (mixN n f a) = cut n f := cut_congr fun i hi => by unfold mixN; rw [if_pos hi]

theorem eqVC {a b : Nat → Int} (h : ∀ i, i < 4 → a i = b i) : (#[.int .i32 (a 0), .int .i32 (a 1), .int .i32 (a 2), .int .i32 (a 3)] : Array Value) = #[.int .i32 (b 0), .int .i32 (b 1), .int .i32 (b 2), .int .i32 (b 3)] := by rw [h 0 (by omega), h 1 (by omega), h 2 (by omega), h 3 (by omega)]

theorem zeroFix (w : World) : (zeroValue 26).run Tryz.prog w = .ok (.int .i32 0) w := by kernel_rfl

/-- 'clear(a[k:])' on a vector. -/
theorem wpList_clear4 {w : World} {ops : Array Oper} {rest : List Oper} {o : Oper} {a : Act} {Q : Exit → Act → World → Prop} (hgd : o.guard = none) (hd : o.dst = none) (s : Operand)
    (ho : o.op = .call { callee := .builtin .clear, args := #[s], argTypes := #[108] }) (b k c : Nat) (f : Nat → Int) (t : TypeId) (hs : (k < 4 ∧ a.eval s = .slice (some ⟨b, k, none⟩) (4 - k) c) ∨ (k = 4 ∧ ∃ ad, a.eval s = .slice (some ad) 0 c))
    (hB : Blk w b #[.int .i32 (f 0), .int .i32 (f 1), .int .i32 (f 2), .int .i32 (f 3)] t) (h : ∀ w2, Blk w2 b #[.int .i32 (cut k f 0), .int .i32 (cut k f 1), .int .i32 (cut k f 2), .int .i32 (cut k f 3)] t → w.grownBy w2 (some b) → wpList Tryz.prog ops Q rest a w2) :
    wpList Tryz.prog ops Q (o :: rest) a w := by
  have hrun : ∃ v, a.eval s = v ∧ ∃ w2, (Builtin.clear_ #[108] o.type #[v]).run Tryz.prog w = .ok (.tuple #[]) w2 ∧ Blk w2 b #[.int .i32 (cut k f 0), .int .i32 (cut k f 1), .int .i32 (cut k f 2), .int .i32 (cut k f 3)] t ∧ w.grownBy w2 (some b) := by
    rcases hs with ⟨h4, hs⟩ | ⟨rfl, ad, hs⟩
    case inr =>
      refine ⟨_, hs, w, ?_, ?_, World.grownBy.refl _ _⟩
      · simp [Builtin.clear_, run_underlying Tryz.underlying108, zeroFix, Builtin.zeroCells, go_sem]
      · rw [eqVC (a := cut ((4 : Nat) : Int) f) (b := f) (fun i hi => by unfold cut; rw [if_pos (by omega)])]
        exact hB
    case inl =>
      have hr := Lib.run_clear_slice (P := Tryz.prog) w 108 26 o.type (.int .i32 0) Tryz.underlying108 zeroFix rfl rfl b k (4 - k) c (by omega) (fun j hj => by rw [hB.vec (k + j) (by omega)]; rfl) (fun j hj => hB.free _)
      refine ⟨_, hs, _, hr, ?_, ?_⟩
      · rcases (by omega : k = 0 ∨ k = 1 ∨ k = 2 ∨ k = 3) with rfl | rfl | rfl | rfl
        · have := (((hB.set 0 (.int .i32 0)).set 1 (.int .i32 0)).set 2 (.int .i32 0)).set 3 (.int .i32 0)
          simpa [World.setCells, List.replicate, cut] using this
        · have := ((hB.set 1 (.int .i32 0)).set 2 (.int .i32 0)).set 3 (.int .i32 0)
          simpa [World.setCells, List.replicate, cut] using this
        · have := (hB.set 2 (.int .i32 0)).set 3 (.int .i32 0)
          simpa [World.setCells, List.replicate, cut] using this
        · have := hB.set 3 (.int .i32 0)
          simpa [World.setCells, List.replicate, cut] using this
      · rcases (by omega : k = 0 ∨ k = 1 ∨ k = 2 ∨ k = 3) with rfl | rfl | rfl | rfl
        · exact (((grownBy_set w b 0 _).trans (grownBy_set _ b 1 _)).trans (grownBy_set _ b 2 _)).trans (grownBy_set _ b 3 _)
        · exact ((grownBy_set w b 1 _).trans (grownBy_set _ b 2 _)).trans (grownBy_set _ b 3 _)
        · exact (grownBy_set w b 2 _).trans (grownBy_set _ b 3 _)
        · exact grownBy_set w b 3 _
  obtain ⟨v, hs, w2, hr, hB2, hg⟩ := hrun
  refine wpList_plain hgd fun _ hK => ?_
  unfold Oper.wp execOp
  simp only [ho, resolve, invoke, builtin, Sem.run_bind, Sem.run_pure, Result.andThen_ok, List.map_toArray, List.map_cons, List.map_nil, hs, hr]
  refine hK _ _ ?_
  rw [hd]
  exact h w2 hB2 hg

set_option maxHeartbeats 2000000 in
theorem byOne_any (n : Int) (g : FuncId) (f : Int → Int) (a : Nat → Int) (w : World) (h1 : 1 ≤ n) (h4 : n ≤ 4)
    (eg : ∀ args w, (callFunc g args).run Tryz.prog w = .ok (.enter g args) w)
    (hf : ∀ (x : Int) (W : World), I32 x → Calls Tryz.prog g #[.int .i32 x] W fun e w' => e = .returned (.int .i32 (f x)) ∧ Ext W w') (Ia : ∀ i, I32 (a i)) :
    Calls Tryz.prog 66 #[.int .i64 n, .agg #[.int .i32 (a 0), .int .i32 (a 1), .int .i32 (a 2), .int .i32 (a 3)], .func (.func g) #[] #[]] w fun e w' => e = .returned (.agg #[.int .i32 (cut n (fun i => f (a i)) 0), .int .i32 (cut n (fun i => f (a i)) 1), .int .i32 (cut n (fun i => f (a i)) 2), .int .i32 (cut n (fun i => f (a i)) 3)]) ∧ Ext w w' := by
  have HF := hide hf
  have HI := hide Ia
  clear hf Ia
  have B0 : Hid (Blk ((w.alloc (.cells #[.int .i32 (a 0), .int .i32 (a 1), .int .i32 (a 2), .int .i32 (a 3)] 28)).alloc (.cells #[.int .i32 (nul 0), .int .i32 (nul 1), .int .i32 (nul 2), .int .i32 (nul 3)] 28)) w.heap.size #[.int .i32 (a 0), .int .i32 (a 1), .int .i32 (a 2), .int .i32 (a 3)] 28) := (Blk.new w _ _).alloc _
  have B1 : Hid (Blk ((w.alloc (.cells #[.int .i32 (a 0), .int .i32 (a 1), .int .i32 (a 2), .int .i32 (a 3)] 28)).alloc (.cells #[.int .i32 (nul 0), .int .i32 (nul 1), .int .i32 (nul 2), .int .i32 (nul 3)] 28)) (w.heap.size + 1) #[.int .i32 (nul 0), .int .i32 (nul 1), .int .i32 (nul 2), .int .i32 (nul 3)] 28) := Blk.at (by simp)
  go_enter Tryz.func66, Tryz.ntmps66
  go_wp2
  go_loopw [9] (fun i wr => ∃ k : Nat, (k : Int) ≤ n ∧ i = .int .i64 k ∧ Blk wr w.heap.size #[.int .i32 (mixN k (fun i => f (a i)) a 0), .int .i32 (mixN k (fun i => f (a i)) a 1), .int .i32 (mixN k (fun i => f (a i)) a 2), .int .i32 (mixN k (fun i => f (a i)) a 3)] 28 ∧ Blk wr (w.heap.size + 1) #[.int .i32 (nul 0), .int .i32 (nul 1), .int .i32 (nul 2), .int .i32 (nul 3)] 28 ∧ Ext w wr) (fun i _ => n.toNat - (intOf i).toNat)
  case atStart => exact ⟨0, by omega, rfl, by simp only [mixN_zero]; exact unhide B0, unhide B1, ((Ext.refl w).alloc _).alloc _⟩
  case round =>
    obtain ⟨k, hk, rfl, hb0, hb1, hx⟩ := hrel
    clear B0 B1
    have D := hide (And.intro hb0 (And.intro hb1 hx))
    clear hb0 hb1 hx
    by_cases hlt : (k : Int) < n
    · have hk4 : k < 4 := by omega
      have hk4i : (k : Int) < 4 := by omega
      have ck := (unhide D).1.vec k hk4
      rw [mixN_at] at ck
      go_wp2_with (go_at_fn g; refine (unhide HF (a k) _ (unhide HI k)).mono ?_; rintro e w1 ⟨rfl, hx1⟩; have D1 := hide (And.intro ((unhide D).1.ext hx1) (And.intro ((unhide D).2.1.ext hx1) ((unhide D).2.2.trans hx1))); have c1 := (unhide D1).1.vec k hk4; have f1 := (unhide D1).1.free k; clear D hx1)
      go_roundw
      case rel =>
        refine ⟨k + 1, by omega, by go_num, ?_, (unhide D1).2.1.other k _ (by omega), ext_set (unhide D1).2.2 (by omega)⟩
        have := (unhide D1).1.set k (.int .i32 (f (a k)))
        rw [mixN_set (fun i => f (a i)) a k hk4] at this
        exact this
      case measure => simp [intOf]; omega
    · have hkn : n = (k : Int) := by omega
      subst hkn
      have hk4 : k ≤ 4 := by omega
      have hk4i : (k : Int) ≤ 4 := by omega
      have hnn : (4 : Int) - (k : Int) = ((4 - k : Nat) : Int) := by omega
      by_cases h44 : k = 4
      · subst h44
        go_wp2_with (refine wpList_clear4 rfl rfl (.tmp 21) rfl w.heap.size 4 0 _ 28 (.inr ⟨rfl, _, by rfl⟩) (unhide D).1 ?_; intro w2 hb2 hg2; have D2 := hide (And.intro hb2 (And.intro (((unhide D).2.1).grown hg2 (by omega)) (below_grown (unhide D).2.2 hg2 (unhide D).2.2.size (Nat.le_refl _)))); clear hb2 hg2 D; obtain ⟨c0, c1, c2, c3⟩ := (unhide D2).1.vec4; obtain ⟨g0, g1, g2, g3⟩ := (unhide D2).2.1.free4; obtain ⟨r0, r1, r2, r3⟩ := (unhide D2).2.1.vec4)
        obtain ⟨q0, q1, q2, q3⟩ := lay4 (unhide D2).2.1 (.int .i32 (cut (4 : Int) (mixN (4 : Int) (fun i => f (a i)) a) 0)) (.int .i32 (cut (4 : Int) (mixN (4 : Int) (fun i => f (a i)) a) 1)) (.int .i32 (cut (4 : Int) (mixN (4 : Int) (fun i => f (a i)) a) 2)) (.int .i32 (cut (4 : Int) (mixN (4 : Int) (fun i => f (a i)) a) 3))
        refine bodyPost_ret (v := .agg #[.int .i32 (cut (4 : Int) (mixN (4 : Int) (fun i => f (a i)) a) 0), .int .i32 (cut (4 : Int) (mixN (4 : Int) (fun i => f (a i)) a) 1), .int .i32 (cut (4 : Int) (mixN (4 : Int) (fun i => f (a i)) a) 2), .int .i32 (cut (4 : Int) (mixN (4 : Int) (fun i => f (a i)) a) 3)]) (by simp [results, Tryz.results66, go_sem, q0, q1, q2, q3]) rfl ⟨?_, ext_set4 (unhide D2).2.2 (by omega)⟩
        rw [cut_mixN]
      · have h44' : ¬ 4 = k := fun e => h44 e.symm
        have hlt4 : k < 4 := by omega
        go_wp2_with (refine wpList_clear4 rfl rfl (.tmp 21) rfl w.heap.size k (4 - k) _ 28 (.inl ⟨hlt4, by first | rfl | simp [Act.eval, h44']⟩) (unhide D).1 ?_; intro w2 hb2 hg2; have D2 := hide (And.intro hb2 (And.intro (((unhide D).2.1).grown hg2 (by omega)) (below_grown (unhide D).2.2 hg2 (unhide D).2.2.size (Nat.le_refl _)))); clear hb2 hg2 D; obtain ⟨c0, c1, c2, c3⟩ := (unhide D2).1.vec4; obtain ⟨g0, g1, g2, g3⟩ := (unhide D2).2.1.free4; obtain ⟨r0, r1, r2, r3⟩ := (unhide D2).2.1.vec4)
        obtain ⟨q0, q1, q2, q3⟩ := lay4 (unhide D2).2.1 (.int .i32 (cut (k : Int) (mixN (k : Int) (fun i => f (a i)) a) 0)) (.int .i32 (cut (k : Int) (mixN (k : Int) (fun i => f (a i)) a) 1)) (.int .i32 (cut (k : Int) (mixN (k : Int) (fun i => f (a i)) a) 2)) (.int .i32 (cut (k : Int) (mixN (k : Int) (fun i => f (a i)) a) 3))
        refine bodyPost_ret (v := .agg #[.int .i32 (cut (k : Int) (mixN (k : Int) (fun i => f (a i)) a) 0), .int .i32 (cut (k : Int) (mixN (k : Int) (fun i => f (a i)) a) 1), .int .i32 (cut (k : Int) (mixN (k : Int) (fun i => f (a i)) a) 2), .int .i32 (cut (k : Int) (mixN (k : Int) (fun i => f (a i)) a) 3)]) (by simp [results, Tryz.results66, go_sem, q0, q1, q2, q3]) rfl ⟨?_, ext_set4 (unhide D2).2.2 (by omega)⟩
        rw [cut_mixN]
set_option maxRecDepth 10000 in
set_option maxHeartbeats 2000000 in
theorem byTwo_any (n : Int) (g : FuncId) (f : Int → Int → Int) (a b : Nat → Int) (w : World) (h1 : 1 ≤ n) (h4 : n ≤ 4)
    (eg : ∀ args w, (callFunc g args).run Tryz.prog w = .ok (.enter g args) w)
    (hf : ∀ (x y : Int) (W : World), I32 x → I32 y → Calls Tryz.prog g #[.int .i32 x, .int .i32 y] W fun e w' => e = .returned (.int .i32 (f x y)) ∧ Ext W w') (Ia : ∀ i, I32 (a i)) (Ib : ∀ i, I32 (b i)) :
    Calls Tryz.prog 110 #[.int .i64 n, .agg #[.int .i32 (a 0), .int .i32 (a 1), .int .i32 (a 2), .int .i32 (a 3)], .agg #[.int .i32 (b 0), .int .i32 (b 1), .int .i32 (b 2), .int .i32 (b 3)], .func (.func g) #[] #[]] w fun e w' => e = .returned (.agg #[.int .i32 (cut n (fun i => f (a i) (b i)) 0), .int .i32 (cut n (fun i => f (a i) (b i)) 1), .int .i32 (cut n (fun i => f (a i) (b i)) 2), .int .i32 (cut n (fun i => f (a i) (b i)) 3)]) ∧ Ext w w' := by
  have HF := hide hf
  have HI := hide (And.intro Ia Ib)
  clear hf Ia Ib
  have B0 : Hid (Blk (((w.alloc (.cells #[.int .i32 (a 0), .int .i32 (a 1), .int .i32 (a 2), .int .i32 (a 3)] 28)).alloc (.cells #[.int .i32 (b 0), .int .i32 (b 1), .int .i32 (b 2), .int .i32 (b 3)] 28)).alloc (.cells #[.int .i32 (nul 0), .int .i32 (nul 1), .int .i32 (nul 2), .int .i32 (nul 3)] 28)) w.heap.size #[.int .i32 (a 0), .int .i32 (a 1), .int .i32 (a 2), .int .i32 (a 3)] 28) := ((Blk.new w _ _).alloc _).alloc _
  have B2 : Hid (Blk (((w.alloc (.cells #[.int .i32 (a 0), .int .i32 (a 1), .int .i32 (a 2), .int .i32 (a 3)] 28)).alloc (.cells #[.int .i32 (b 0), .int .i32 (b 1), .int .i32 (b 2), .int .i32 (b 3)] 28)).alloc (.cells #[.int .i32 (nul 0), .int .i32 (nul 1), .int .i32 (nul 2), .int .i32 (nul 3)] 28)) (w.heap.size + 1) #[.int .i32 (b 0), .int .i32 (b 1), .int .i32 (b 2), .int .i32 (b 3)] 28) := (Blk.at (by simp)).alloc _
  have B1 : Hid (Blk (((w.alloc (.cells #[.int .i32 (a 0), .int .i32 (a 1), .int .i32 (a 2), .int .i32 (a 3)] 28)).alloc (.cells #[.int .i32 (b 0), .int .i32 (b 1), .int .i32 (b 2), .int .i32 (b 3)] 28)).alloc (.cells #[.int .i32 (nul 0), .int .i32 (nul 1), .int .i32 (nul 2), .int .i32 (nul 3)] 28)) (w.heap.size + 1 + 1) #[.int .i32 (nul 0), .int .i32 (nul 1), .int .i32 (nul 2), .int .i32 (nul 3)] 28) := Blk.at (by simp)
  go_enter Tryz.func110, Tryz.ntmps110
  go_wp2
  go_loopw [11] (fun i wr => ∃ k : Nat, (k : Int) ≤ n ∧ i = .int .i64 k ∧ Blk wr w.heap.size #[.int .i32 (mixN k (fun i => f (a i) (b i)) a 0), .int .i32 (mixN k (fun i => f (a i) (b i)) a 1), .int .i32 (mixN k (fun i => f (a i) (b i)) a 2), .int .i32 (mixN k (fun i => f (a i) (b i)) a 3)] 28 ∧ Blk wr (w.heap.size + 1) #[.int .i32 (b 0), .int .i32 (b 1), .int .i32 (b 2), .int .i32 (b 3)] 28 ∧ Blk wr (w.heap.size + 1 + 1) #[.int .i32 (nul 0), .int .i32 (nul 1), .int .i32 (nul 2), .int .i32 (nul 3)] 28 ∧ Ext w wr) (fun i _ => n.toNat - (intOf i).toNat)
  case atStart => exact ⟨0, by omega, rfl, by simp only [mixN_zero]; exact unhide B0, unhide B2, unhide B1, (((Ext.refl w).alloc _).alloc _).alloc _⟩
  case round =>
    obtain ⟨k, hk, rfl, hb0, hb2, hb1, hx⟩ := hrel
    clear B0 B1 B2
    have D := hide (And.intro hb0 (And.intro hb1 hx))
    have DB := hide hb2
    clear hb0 hb1 hb2 hx
    by_cases hlt : (k : Int) < n
    · have hk4 : k < 4 := by omega
      have hk4i : (k : Int) < 4 := by omega
      have ck := (unhide D).1.vec k hk4
      rw [mixN_at] at ck
      have cb := (unhide DB).vec k hk4
      go_wp2
      go_region_with (first | (go_at_fn g; refine (unhide HF (a k) (b k) _ ((unhide HI).1 k) ((unhide HI).2 k)).mono ?_; rintro e w1 ⟨rfl, hx1⟩; have bx : Ext wr w1 := ((Ext.refl _).drew).trans hx1; have D1 := hide (And.intro ((unhide D).1.ext bx) (And.intro ((unhide D).2.1.ext bx) ((unhide D).2.2.trans bx))); have DB1 := hide ((unhide DB).ext bx); have c1 := (unhide D1).1.vec k hk4; have f1 := (unhide D1).1.free k; clear hx1))
      all_goals
        go_wp2
        go_roundw
        case rel =>
          refine ⟨k + 1, by omega, by go_num, ?_, (unhide DB1).other k _ (by omega), (unhide D1).2.1.other k _ (by omega), ext_set (unhide D1).2.2 (by omega)⟩
          have := (unhide D1).1.set k (.int .i32 (f (a k) (b k)))
          rw [mixN_set (fun i => f (a i) (b i)) a k hk4] at this
          exact this
        case measure => simp [intOf]; omega
    · have hkn : n = (k : Int) := by omega
      subst hkn
      have hk4 : k ≤ 4 := by omega
      have hk4i : (k : Int) ≤ 4 := by omega
      have hnn : (4 : Int) - (k : Int) = ((4 - k : Nat) : Int) := by omega
      by_cases h44 : k = 4
      · subst h44
        go_wp2_with (refine wpList_clear4 rfl rfl (.tmp 26) rfl w.heap.size 4 0 _ 28 (.inr ⟨rfl, _, by rfl⟩) (unhide D).1 ?_; intro w2 hb2 hg2; have D2 := hide (And.intro hb2 (And.intro (((unhide D).2.1).grown hg2 (by omega)) (below_grown (unhide D).2.2 hg2 (unhide D).2.2.size (Nat.le_refl _)))); clear hb2 hg2 D; obtain ⟨c0, c1, c2, c3⟩ := (unhide D2).1.vec4; obtain ⟨g0, g1, g2, g3⟩ := (unhide D2).2.1.free4; obtain ⟨r0, r1, r2, r3⟩ := (unhide D2).2.1.vec4)
        obtain ⟨q0, q1, q2, q3⟩ := lay4 (unhide D2).2.1 (.int .i32 (cut (4 : Int) (mixN (4 : Int) (fun i => f (a i) (b i)) a) 0)) (.int .i32 (cut (4 : Int) (mixN (4 : Int) (fun i => f (a i) (b i)) a) 1)) (.int .i32 (cut (4 : Int) (mixN (4 : Int) (fun i => f (a i) (b i)) a) 2)) (.int .i32 (cut (4 : Int) (mixN (4 : Int) (fun i => f (a i) (b i)) a) 3))
        refine bodyPost_ret (v := .agg #[.int .i32 (cut (4 : Int) (mixN (4 : Int) (fun i => f (a i) (b i)) a) 0), .int .i32 (cut (4 : Int) (mixN (4 : Int) (fun i => f (a i) (b i)) a) 1), .int .i32 (cut (4 : Int) (mixN (4 : Int) (fun i => f (a i) (b i)) a) 2), .int .i32 (cut (4 : Int) (mixN (4 : Int) (fun i => f (a i) (b i)) a) 3)]) (by simp [results, Tryz.results110, go_sem, q0, q1, q2, q3]) rfl ⟨?_, ext_set4 (unhide D2).2.2 (by omega)⟩
        rw [cut_mixN]
      · have h44' : ¬ 4 = k := fun e => h44 e.symm
        have hlt4 : k < 4 := by omega
        go_wp2_with (refine wpList_clear4 rfl rfl (.tmp 26) rfl w.heap.size k (4 - k) _ 28 (.inl ⟨hlt4, by first | rfl | simp [Act.eval, h44']⟩) (unhide D).1 ?_; intro w2 hb2 hg2; have D2 := hide (And.intro hb2 (And.intro (((unhide D).2.1).grown hg2 (by omega)) (below_grown (unhide D).2.2 hg2 (unhide D).2.2.size (Nat.le_refl _)))); clear hb2 hg2 D; obtain ⟨c0, c1, c2, c3⟩ := (unhide D2).1.vec4; obtain ⟨g0, g1, g2, g3⟩ := (unhide D2).2.1.free4; obtain ⟨r0, r1, r2, r3⟩ := (unhide D2).2.1.vec4)
        obtain ⟨q0, q1, q2, q3⟩ := lay4 (unhide D2).2.1 (.int .i32 (cut (k : Int) (mixN (k : Int) (fun i => f (a i) (b i)) a) 0)) (.int .i32 (cut (k : Int) (mixN (k : Int) (fun i => f (a i) (b i)) a) 1)) (.int .i32 (cut (k : Int) (mixN (k : Int) (fun i => f (a i) (b i)) a) 2)) (.int .i32 (cut (k : Int) (mixN (k : Int) (fun i => f (a i) (b i)) a) 3))
        refine bodyPost_ret (v := .agg #[.int .i32 (cut (k : Int) (mixN (k : Int) (fun i => f (a i) (b i)) a) 0), .int .i32 (cut (k : Int) (mixN (k : Int) (fun i => f (a i) (b i)) a) 1), .int .i32 (cut (k : Int) (mixN (k : Int) (fun i => f (a i) (b i)) a) 2), .int .i32 (cut (k : Int) (mixN (k : Int) (fun i => f (a i) (b i)) a) 3)]) (by simp [results, Tryz.results110, go_sem, q0, q1, q2, q3]) rfl ⟨?_, ext_set4 (unhide D2).2.2 (by omega)⟩
        rw [cut_mixN]
end Go.Proofs.YtgmahpkhdnabjaaGreat

/-
  Plain facts on whole roots, on powers of 2 digit by digit and on logarithms. Nothing here speaks of the program.
-/
namespace Go.Proofs.YtgmahpkhdnabjaaGreat
set_option linter.unusedVariables false

/-- r is the greatest whole number whose square is not above n. -/
def IsRoot (n r : Int) : Prop := 0 ≤ r ∧ r * r ≤ n ∧ n < (r + 1) * (r + 1)

theorem sq_le {a b : Int} (h0 : 0 ≤ a) (h : a ≤ b) : a * a ≤ b * b := Int.mul_le_mul h h h0 (by omega)
theorem sq_lt {a b : Int} (h0 : 0 ≤ a) (h : a < b) : a * a < b * b := by
  have h1 : (a + 1) * (a + 1) ≤ b * b := sq_le (by omega) (by omega)
  have h2 : (a + 1) * (a + 1) = a * a + a + a + 1 := by rw [Int.add_mul, Int.mul_add]; omega
  omega
theorem lt_of_sq {a b : Int} (h0 : 0 ≤ b) (h : a * a < b * b) : a < b := by
  rcases Int.lt_or_le a b with h1 | h1
  · exact h1
  · have := sq_le h0 h1
    omega
theorem le_of_sq {a b : Int} (h0 : 0 ≤ b) (h : a * a ≤ b * b) : a ≤ b := by
  rcases Int.lt_or_le b a with h1 | h1
  · have := sq_lt h0 h1
    omega
  · exact h1
theorem IsRoot.mono {n m a b : Int} (h : IsRoot n a) (k : IsRoot m b) (hn : n ≤ m) : a ≤ b := by
  have h1 := lt_of_sq (a := a) (b := b + 1) (by have := k.1; omega) (by have := h.2.1; have := k.2.2; omega)
  omega
theorem IsRoot.unique {n a b : Int} (h : IsRoot n a) (k : IsRoot n b) : a = b := by
  have h1 := h.mono k (Int.le_refl n)
  have h2 := k.mono h (Int.le_refl n)
  omega
/-- The root's last k digits, behind r. -/
def digI (n : Int) : Nat → Int → Int
  | 0, r => r
  | k + 1, r => if (r + 2 ^ k) * (r + 2 ^ k) ≤ n then digI n k (r + 2 ^ k) else digI n k r
theorem digI_is (n : Int) : ∀ (k : Nat) (r : Int), 0 ≤ r → r * r ≤ n → n < (r + 2 ^ k) * (r + 2 ^ k) → IsRoot n (digI n k r)
  | 0, r, h0, h1, h2 => ⟨h0, h1, by show n < (r + 1) * (r + 1); simpa using h2⟩
  | k + 1, r, h0, h1, h2 => by
    have hp : (0 : Int) < 2 ^ k := Int.pow_pos (by decide)
    rw [show r + (2 : Int) ^ (k + 1) = r + 2 ^ k + 2 ^ k by rw [Int.pow_succ]; omega] at h2
    unfold digI
    split
    · exact digI_is n k (r + 2 ^ k) (by omega) (by assumption) h2
    · exact digI_is n k r h0 h1 (by omega)
/-- The root. -/
def rootI (n : Int) : Int := digI n n.toNat 0
theorem rootI_spec {n : Int} (h : 0 ≤ n) : IsRoot n (rootI n) := by
  refine digI_is n n.toNat 0 (by omega) (by omega) ?_
  have h1 : n.toNat < 2 ^ n.toNat := Nat.lt_two_pow_self
  have h2 : (2 : Int) ^ n.toNat = ((2 ^ n.toNat : Nat) : Int) := by rw [Int.natCast_pow]; rfl
  have h3 : n < (2 : Int) ^ n.toNat := by omega
  have h4 : (2 : Int) ^ n.toNat * 1 ≤ 2 ^ n.toNat * 2 ^ n.toNat := Int.mul_le_mul_of_nonneg_left (by omega) (by omega)
  rw [Int.zero_add]
  omega
theorem rootI_eq {n r : Int} (h : IsRoot n r) : rootI n = r := (rootI_spec (by have := h.2.1; have := Int.mul_nonneg h.1 h.1; omega)).unique h
theorem rootI_mono {n m : Int} (h0 : 0 ≤ n) (h : n ≤ m) : rootI n ≤ rootI m := (rootI_spec h0).mono (rootI_spec (by omega)) h
theorem rootI_nonneg {n : Int} (h0 : 0 ≤ n) : 0 ≤ rootI n := (rootI_spec h0).1
theorem rootI_u32 {n : Int} (h0 : 0 ≤ n) (h1 : n ≤ 18446744073709551615) : 0 ≤ rootI n ∧ rootI n ≤ 4294967295 := by
  have h := rootI_spec h0
  have h2 := lt_of_sq (a := rootI n) (b := 4294967296) (by omega) (by have := h.2.1; omega)
  exact ⟨h.1, by omega⟩

end Go.Proofs.YtgmahpkhdnabjaaGreat

/-
  The walks of the document's answer for numbers, each against the same Lean functions. What the dump lacks is left out.
-/
namespace Go.Proofs.YtgmahpkhdnabjaaGreat
open Go.RowKit
set_option linter.unusedSimpArgs false
set_option linter.unusedVariables false

theorem refRaw_any (n : Int) (w : World) (h : I64 n) :
    Calls Tryz.prog 68 #[.int .i64 n] w fun e w' => e = .returned (.int .i32 (rawI n)) ∧ w' = w := by
  go_enter Tryz.func68, Tryz.ntmps68
  unfold I64 at h
  go_wp2
  all_goals go_ret
  all_goals refine ⟨?_, rfl⟩
  all_goals simp [rawI, clampI]
  all_goals omega

theorem refOf_any (n : Int) (w : World) (h : I64 n) :
    Calls Tryz.prog 42 #[.int .i64 n] w fun e w' => e = .returned (.int .i32 (rawI (65536 * n))) ∧ w' = w := by
  go_enter Tryz.func42, Tryz.ntmps42
  unfold I64 at h
  by_cases h1 : 40000 < n
  · go_wp2
    go_ret
    refine ⟨?_, rfl⟩
    simp [rawI, clampI]
    omega
  · by_cases h2 : n < -40000
    · go_wp2
      go_ret
      refine ⟨?_, rfl⟩
      simp [rawI, clampI]
      omega
    · go_wp2_with fail
      refine (refRaw_any _ _ (by unfold I64; omega)).mono ?_
      rintro e w1 ⟨rfl, rfl⟩
      go_wp2
      go_ret
      exact ⟨by simp [Int.mul_comm], rfl⟩

theorem down_any (n : Int) (w : World) (h : -4611686018427387904 ≤ n ∧ n ≤ 4611686018460942336) :
    Calls Tryz.prog 133 #[.int .i64 n, .int .i64 65536] w fun e w' => e = .returned (.int .i64 (n / 65536)) ∧ w' = w := by
  go_enter Tryz.func133, Tryz.ntmps133
  have h2 : 65536 * n.tdiv 65536 + n.tmod 65536 = n := Int.mul_tdiv_add_tmod n 65536
  have h3 : n.tmod 65536 < 65536 := Int.tmod_lt_of_pos n (by omega)
  have h4 : -65536 < n.tmod 65536 := Int.lt_tmod_of_pos n (by omega)
  have hq : -140737488355328 ≤ n.tdiv 65536 ∧ n.tdiv 65536 ≤ 140737488355328 := by omega
  have H2 := hide h2
  clear h2
  go_wp2
  all_goals go_ret
  all_goals refine ⟨?_, rfl⟩
  all_goals have h2 := unhide H2
  all_goals simp
  all_goals omega

theorem refAdd_any (a b : Int) (w : World) (ha : I32 a) (hb : I32 b) :
    Calls Tryz.prog 86 #[.int .i32 a, .int .i32 b] w fun e w' => e = .returned (.int .i32 (addI a b)) ∧ w' = w := by
  go_enter Tryz.func86, Tryz.ntmps86
  unfold I32 at ha hb
  go_wp2_with fail
  refine (refRaw_any _ _ (by unfold I64; omega)).mono ?_
  rintro e w1 ⟨rfl, rfl⟩
  go_wp2
  go_ret
  exact ⟨rfl, rfl⟩

theorem refSub_any (a b : Int) (w : World) (ha : I32 a) (hb : I32 b) :
    Calls Tryz.prog 90 #[.int .i32 a, .int .i32 b] w fun e w' => e = .returned (.int .i32 (subI a b)) ∧ w' = w := by
  go_enter Tryz.func90, Tryz.ntmps90
  unfold I32 at ha hb
  go_wp2_with fail
  refine (refRaw_any _ _ (by unfold I64; omega)).mono ?_
  rintro e w1 ⟨rfl, rfl⟩
  go_wp2
  go_ret
  exact ⟨rfl, rfl⟩

theorem refNeg_any (a : Int) (w : World) (ha : I32 a) :
    Calls Tryz.prog 63 #[.int .i32 a] w fun e w' => e = .returned (.int .i32 (negI a)) ∧ w' = w := by
  go_enter Tryz.func63, Tryz.ntmps63
  unfold I32 at ha
  go_wp2_with fail
  refine (refRaw_any _ _ (by unfold I64; omega)).mono ?_
  rintro e w1 ⟨rfl, rfl⟩
  go_wp2
  go_ret
  exact ⟨rfl, rfl⟩

theorem refAbs_any (a : Int) (w : World) (ha : I32 a) :
    Calls Tryz.prog 138 #[.int .i32 a] w fun e w' => e = .returned (.int .i32 (absI a)) ∧ w' = w := by
  go_enter Tryz.func138, Tryz.ntmps138
  unfold I32 at ha
  by_cases h1 : a < 0
  · go_wp2_with fail
    refine (refNeg_any _ _ ha).mono ?_
    rintro e w1 ⟨rfl, rfl⟩
    have hn : absI a = negI a := by unfold absI negI; congr 1; omega
    go_wp2
    go_ret
    exact ⟨by simp [hn], rfl⟩
  · have hn : absI a = a := by unfold absI rawI clampI; omega
    go_wp2
    go_ret
    exact ⟨by simp [hn], rfl⟩

theorem refMul_any (a b : Int) (w : World) (ha : I32 a) (hb : I32 b) :
    Calls Tryz.prog 91 #[.int .i32 a, .int .i32 b] w fun e w' => e = .returned (.int .i32 (mulI a b)) ∧ w' = w := by
  go_enter Tryz.func91, Tryz.ntmps91
  unfold I32 at ha hb
  have hm := mul_i32 ha hb
  go_wp2_with fail
  refine (down_any _ _ (by omega)).mono ?_
  rintro e w1 ⟨rfl, rfl⟩
  go_wp2_with fail
  refine (refRaw_any _ _ (by unfold I64; omega)).mono ?_
  rintro e w1 ⟨rfl, rfl⟩
  go_wp2
  go_ret
  exact ⟨rfl, rfl⟩

theorem quo_up {n d : Int} (hn : 0 ≤ n) (hd : 0 < d) : (n + d / 2) / d = if d ≤ 2 * (n % d) then n / d + 1 else n / d := by
  have h1 : d * (n / d) + n % d = n := Int.mul_ediv_add_emod n d
  have h2 := Int.emod_lt_of_pos n hd
  have h3 := Int.emod_nonneg n (by omega : d ≠ 0)
  generalize n / d = q at *
  generalize n % d = r at *
  have e : n + d / 2 = (r + d / 2) + d * q := by omega
  rw [e, Int.add_mul_ediv_left _ _ (by omega)]
  split
  · have : (r + d / 2) / d = 1 := by
      have h : r + d / 2 = (r + d / 2 - d) + d * 1 := by omega
      rw [h, Int.add_mul_ediv_left _ _ (by omega), Int.ediv_eq_zero_of_lt (by omega) (by omega)]
      omega
    omega
  · have : (r + d / 2) / d = 0 := Int.ediv_eq_zero_of_lt (by omega) (by omega)
    omega

/-- The quotient of 2^16 x by y, a half rounded up. -/
def upQ (x y : Int) : Int := if y ≤ 2 * (x * 65536 % y) then x * 65536 / y + 1 else x * 65536 / y
theorem upQ_parts (x y : Int) (hx : 0 ≤ x ∧ x ≤ 2147483648) (hy : 0 < y) : 0 ≤ x * 65536 / y ∧ x * 65536 / y ≤ 140737488355328 ∧ 0 ≤ x * 65536 % y ∧ x * 65536 % y < y := by
  refine ⟨Int.ediv_nonneg (by omega) (by omega), ?_, Int.emod_nonneg _ (by omega), Int.emod_lt_of_pos _ hy⟩
  have : x * 65536 / y < 140737488355329 := by
    refine Int.ediv_lt_of_lt_mul (by omega) ?_
    have : (140737488355329 : Int) * 1 ≤ 140737488355329 * y := by omega
    omega
  omega
theorem near_upQ (a b : Int) (h : b ≠ 0) : nearI a b = upQ a.natAbs b.natAbs := by
  unfold nearI upQ
  rw [quo_up (by omega) (by omega)]

set_option maxHeartbeats 1000000 in
theorem refDiv_pp (x y : Int) (w : World) (hx : 0 ≤ x ∧ x ≤ 2147483648) (hy : 0 < y ∧ y ≤ 2147483648) :
    Calls Tryz.prog 84 #[.int .i32 x, .int .i32 y] w fun e w' => e = .returned (.int .i32 (rawI (upQ x y))) ∧ w' = w := by
  have hq := upQ_parts x y (by omega) hy.1
  have hu : Hid (upQ x y = if y ≤ 2 * (x * 65536 % y) then x * 65536 / y + 1 else x * 65536 / y) := rfl
  have hb0 : (y == 0) = false := by simp; omega
  have hz : (y == 0) = false := by simp; omega
  have dx : decide (x * 65536 < 0) = false := by simp; omega
  have dy : decide (y < 0) = false := by simp; omega
  go_enter Tryz.func84, Tryz.ntmps84
  by_cases h2 : y ≤ 2 * (x * 65536 % y)
  · have e : upQ x y = x * 65536 / y + 1 := by rw [unhide hu, if_pos h2]
    have HE := hide e
    clear e
    go_wp2_with fail
    refine (refRaw_any _ _ (by unfold I64; omega)).mono ?_
    rintro e w1 ⟨rfl, rfl⟩
    go_wp2
    go_ret
    refine ⟨?_, rfl⟩
    rw [unhide HE]
    first | rfl | (simp; done) | (simp only [Ending.returned.injEq, Value.int.injEq, true_and]; simp; congr 1; omega)
  · have e : upQ x y = x * 65536 / y := by rw [unhide hu, if_neg h2]
    have HE := hide e
    clear e
    go_wp2_with fail
    refine (refRaw_any _ _ (by unfold I64; omega)).mono ?_
    rintro e w1 ⟨rfl, rfl⟩
    go_wp2
    go_ret
    refine ⟨?_, rfl⟩
    rw [unhide HE]
    first | rfl | (simp; done) | (simp only [Ending.returned.injEq, Value.int.injEq, true_and]; simp; congr 1; omega)

set_option maxHeartbeats 1000000 in
theorem refDiv_pn (x y : Int) (w : World) (hx : 0 ≤ x ∧ x ≤ 2147483648) (hy : 0 < y ∧ y ≤ 2147483648) :
    Calls Tryz.prog 84 #[.int .i32 x, .int .i32 (-y)] w fun e w' => e = .returned (.int .i32 (rawI (-upQ x y))) ∧ w' = w := by
  have hq := upQ_parts x y (by omega) hy.1
  have hu : Hid (upQ x y = if y ≤ 2 * (x * 65536 % y) then x * 65536 / y + 1 else x * 65536 / y) := rfl
  have hb0 : ((-y) == 0) = false := by simp; omega
  have hz : (y == 0) = false := by simp; omega
  have dx : decide (x * 65536 < 0) = false := by simp; omega
  have dy : decide (-y < 0) = true := by simp; omega
  go_enter Tryz.func84, Tryz.ntmps84
  by_cases h2 : y ≤ 2 * (x * 65536 % y)
  · have e : upQ x y = x * 65536 / y + 1 := by rw [unhide hu, if_pos h2]
    have HE := hide e
    clear e
    go_wp2_with fail
    refine (refRaw_any _ _ (by unfold I64; omega)).mono ?_
    rintro e w1 ⟨rfl, rfl⟩
    go_wp2
    go_ret
    refine ⟨?_, rfl⟩
    rw [unhide HE]
    first | rfl | (simp; done) | (simp only [Ending.returned.injEq, Value.int.injEq, true_and]; simp; congr 1; omega)
  · have e : upQ x y = x * 65536 / y := by rw [unhide hu, if_neg h2]
    have HE := hide e
    clear e
    go_wp2_with fail
    refine (refRaw_any _ _ (by unfold I64; omega)).mono ?_
    rintro e w1 ⟨rfl, rfl⟩
    go_wp2
    go_ret
    refine ⟨?_, rfl⟩
    rw [unhide HE]
    first | rfl | (simp; done) | (simp only [Ending.returned.injEq, Value.int.injEq, true_and]; simp; congr 1; omega)

set_option maxHeartbeats 1000000 in
theorem refDiv_np (x y : Int) (w : World) (hx : 0 < x ∧ x ≤ 2147483648) (hy : 0 < y ∧ y ≤ 2147483648) :
    Calls Tryz.prog 84 #[.int .i32 (-x), .int .i32 y] w fun e w' => e = .returned (.int .i32 (rawI (-upQ x y))) ∧ w' = w := by
  have hq := upQ_parts x y (by omega) hy.1
  have hu : Hid (upQ x y = if y ≤ 2 * (x * 65536 % y) then x * 65536 / y + 1 else x * 65536 / y) := rfl
  have hb0 : (y == 0) = false := by simp; omega
  have hz : (y == 0) = false := by simp; omega
  have dx : decide (-(x * 65536) < 0) = true := by simp; omega
  have dy : decide (y < 0) = false := by simp; omega
  have dx2 : decide (-x * 65536 < 0) = true := by simp; omega
  have t1 : (-x * 65536).tdiv y = -(x * 65536 / y) := by rw [Int.neg_mul, Int.neg_tdiv, Int.tdiv_eq_ediv_of_nonneg (by omega)]
  have t2 : (-x * 65536).tmod y = -(x * 65536 % y) := by rw [Int.neg_mul, Int.neg_tmod, Int.tmod_eq_emod_of_nonneg (by omega)]
  go_enter Tryz.func84, Tryz.ntmps84
  by_cases h2 : y ≤ 2 * (x * 65536 % y)
  · have e : upQ x y = x * 65536 / y + 1 := by rw [unhide hu, if_pos h2]
    have HE := hide e
    clear e
    go_wp2_with fail
    refine (refRaw_any _ _ (by unfold I64; omega)).mono ?_
    rintro e w1 ⟨rfl, rfl⟩
    go_wp2
    go_ret
    refine ⟨?_, rfl⟩
    rw [unhide HE]
    first | rfl | (simp; done) | (simp only [Ending.returned.injEq, Value.int.injEq, true_and]; simp; congr 1; omega)
  · have e : upQ x y = x * 65536 / y := by rw [unhide hu, if_neg h2]
    have HE := hide e
    clear e
    go_wp2_with fail
    refine (refRaw_any _ _ (by unfold I64; omega)).mono ?_
    rintro e w1 ⟨rfl, rfl⟩
    go_wp2
    go_ret
    refine ⟨?_, rfl⟩
    rw [unhide HE]
    first | rfl | (simp; done) | (simp only [Ending.returned.injEq, Value.int.injEq, true_and]; simp; congr 1; omega)

set_option maxHeartbeats 1000000 in
theorem refDiv_nn (x y : Int) (w : World) (hx : 0 < x ∧ x ≤ 2147483648) (hy : 0 < y ∧ y ≤ 2147483648) :
    Calls Tryz.prog 84 #[.int .i32 (-x), .int .i32 (-y)] w fun e w' => e = .returned (.int .i32 (rawI (upQ x y))) ∧ w' = w := by
  have hq := upQ_parts x y (by omega) hy.1
  have hu : Hid (upQ x y = if y ≤ 2 * (x * 65536 % y) then x * 65536 / y + 1 else x * 65536 / y) := rfl
  have hb0 : ((-y) == 0) = false := by simp; omega
  have hz : (y == 0) = false := by simp; omega
  have dx : decide (-(x * 65536) < 0) = true := by simp; omega
  have dy : decide (-y < 0) = true := by simp; omega
  have dx2 : decide (-x * 65536 < 0) = true := by simp; omega
  have t1 : (-x * 65536).tdiv y = -(x * 65536 / y) := by rw [Int.neg_mul, Int.neg_tdiv, Int.tdiv_eq_ediv_of_nonneg (by omega)]
  have t2 : (-x * 65536).tmod y = -(x * 65536 % y) := by rw [Int.neg_mul, Int.neg_tmod, Int.tmod_eq_emod_of_nonneg (by omega)]
  go_enter Tryz.func84, Tryz.ntmps84
  by_cases h2 : y ≤ 2 * (x * 65536 % y)
  · have e : upQ x y = x * 65536 / y + 1 := by rw [unhide hu, if_pos h2]
    have HE := hide e
    clear e
    go_wp2_with fail
    refine (refRaw_any _ _ (by unfold I64; omega)).mono ?_
    rintro e w1 ⟨rfl, rfl⟩
    go_wp2
    go_ret
    refine ⟨?_, rfl⟩
    rw [unhide HE]
    first | rfl | (simp; done) | (simp only [Ending.returned.injEq, Value.int.injEq, true_and]; simp; congr 1; omega)
  · have e : upQ x y = x * 65536 / y := by rw [unhide hu, if_neg h2]
    have HE := hide e
    clear e
    go_wp2_with fail
    refine (refRaw_any _ _ (by unfold I64; omega)).mono ?_
    rintro e w1 ⟨rfl, rfl⟩
    go_wp2
    go_ret
    refine ⟨?_, rfl⟩
    rw [unhide HE]
    first | rfl | (simp; done) | (simp only [Ending.returned.injEq, Value.int.injEq, true_and]; simp; congr 1; omega)

theorem refDiv_any (a b : Int) (w : World) (ha : I32 a) (hb : I32 b) :
    Calls Tryz.prog 84 #[.int .i32 a, .int .i32 b] w fun e w' => e = .returned (.int .i32 (divI a b)) ∧ w' = w := by
  unfold I32 at ha hb
  by_cases h0 : b = 0
  · subst h0
    go_enter Tryz.func84, Tryz.ntmps84
    go_wp2
    all_goals go_ret
    all_goals refine ⟨?_, rfl⟩
    all_goals simp [divI, overI]
    all_goals omega
  · have hd : divI a b = rawI (if (decide (a < 0)) = (decide (b < 0)) then upQ a.natAbs b.natAbs else -upQ a.natAbs b.natAbs) := by
      simp only [divI, h0, if_false, near_upQ a b h0]
    rw [hd]
    by_cases h1 : a < 0 <;> by_cases h2 : b < 0
    · have h := refDiv_nn (-a) (-b) w (by omega) (by omega)
      rw [show (a.natAbs : Int) = -a by omega, show (b.natAbs : Int) = -b by omega]
      simpa [h1, h2] using h
    · have h := refDiv_np (-a) b w (by omega) (by omega)
      rw [show (a.natAbs : Int) = -a by omega, show (b.natAbs : Int) = b by omega]
      simpa [h1, h2] using h
    · have h := refDiv_pn a (-b) w (by omega) (by omega)
      rw [show (a.natAbs : Int) = a by omega, show (b.natAbs : Int) = -b by omega]
      simpa [h1, h2] using h
    · have h := refDiv_pp a b w (by omega) (by omega)
      rw [show (a.natAbs : Int) = a by omega, show (b.natAbs : Int) = b by omega]
      simpa [h1, h2] using h

theorem refFloor_any (a : Int) (w : World) (ha : I32 a) :
    Calls Tryz.prog 92 #[.int .i32 a] w fun e w' => e = .returned (.int .i32 (floorI a)) ∧ w' = w := by
  go_enter Tryz.func92, Tryz.ntmps92
  unfold I32 at ha
  go_wp2_with fail
  refine (down_any _ _ (by omega)).mono ?_
  rintro e w1 ⟨rfl, rfl⟩
  go_wp2_with fail
  refine (refRaw_any _ _ (by unfold I64; omega)).mono ?_
  rintro e w1 ⟨rfl, rfl⟩
  have hn : rawI (a / 65536 * 65536) = floorI a := rawI_id (by unfold I32; omega)
  rw [hn]
  go_wp2
  go_ret
  exact ⟨rfl, rfl⟩

theorem refFract_any (a : Int) (w : World) (ha : I32 a) :
    Calls Tryz.prog 139 #[.int .i32 a] w fun e w' => e = .returned (.int .i32 (fractI a)) ∧ w' = w := by
  go_enter Tryz.func139, Tryz.ntmps139
  unfold I32 at ha
  go_wp2_with fail
  refine (refFloor_any _ _ ha).mono ?_
  rintro e w1 ⟨rfl, rfl⟩
  go_wp2_with fail
  refine (refSub_any _ _ _ ha (floorI_i32 ha)).mono ?_
  rintro e w1 ⟨rfl, rfl⟩
  go_wp2
  go_ret
  exact ⟨rfl, rfl⟩

end Go.Proofs.YtgmahpkhdnabjaaGreat
