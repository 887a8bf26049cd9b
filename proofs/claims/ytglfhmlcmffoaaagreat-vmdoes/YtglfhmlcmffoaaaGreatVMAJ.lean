/- Several texts in one. -/
import Derived.Test.YtglfhmlcmffoaaaGreatLemJ
import Derived.Lib.SliceRun
import Derived.Deep.Upon
import Derived.Test.YtglfhmlcmffoaaaGreatMYJ
import Derived.Test.YtglfhmlcmffoaaaGreatVEJ
/-
  The machine of registers: truth; each number of a vector by a function (byOne, byTwo).
-/
namespace Go.Proofs.YtglfhmlcmffoaaaGreat
open Go.RowKit
set_option linter.unusedVariables false
set_option linter.unusedSimpArgs false

/-- The vector of what holds or does not. -/
def truI (b : Bool) : Nat → Int := fun i => if i = 0 then (if b then 1 else 0) else 0
theorem truI_i32 (b : Bool) (i : Nat) : I32 (truI b i) := by
  unfold truI I32
  repeat' split
  all_goals omega

set_option maxHeartbeats 1000000 in
theorem truth_any (b : Bool) (w : World) : Calls Tryz.prog 65 #[.bool b] w fun e w' => e = .returned (.agg #[.int .i32 (truI b 0), .int .i32 (truI b 1), .int .i32 (truI b 2), .int .i32 (truI b 3)]) ∧ Ext w w' := by
  have B0 : Blk (w.alloc (.cells #[.int .i32 (nul 0), .int .i32 (nul 1), .int .i32 (nul 2), .int .i32 (nul 3)] 28)) w.heap.size #[.int .i32 (nul 0), .int .i32 (nul 1), .int .i32 (nul 2), .int .i32 (nul 3)] 28 := Blk.new w _ _
  obtain ⟨f0, f1, f2, f3⟩ := B0.free4
  obtain ⟨c0, c1, c2, c3⟩ := B0.vec4
  have HB := hide B0
  clear B0
  go_enter Tryz.func65, Tryz.ntmps65
  cases b
  case false =>
    go_wp2
    refine bodyPost_ret (v := .agg #[.int .i32 (truI false 0), .int .i32 (truI false 1), .int .i32 (truI false 2), .int .i32 (truI false 3)]) (by simp [results, Tryz.results65, go_sem, truI]) rfl ⟨rfl, ?_⟩
    exact (Ext.refl w).alloc _
  case true =>
    go_wp2
    refine bodyPost_ret (v := .agg #[.int .i32 (truI true 0), .int .i32 (truI true 1), .int .i32 (truI true 2), .int .i32 (truI true 3)]) (by simp [results, Tryz.results65, go_sem, truI]) rfl ⟨rfl, ?_⟩
    exact (Ext.refl w).alloc _

/-- The first k numbers by f, the others as they are. -/
def mixN (k : Int) (f : Nat → Int) (a : Nat → Int) : Nat → Int := fun i => if (i : Int) < k then f i else a i
theorem mixN_zero (f a : Nat → Int) (i : Nat) : mixN (0 : Nat) f a i = a i := by unfold mixN; rw [if_neg (by omega)]
theorem mixN_at (f a : Nat → Int) (k : Nat) : mixN k f a k = a k := by unfold mixN; rw [if_neg (by omega)]
theorem mixN_set (f a : Nat → Int) (k : Nat) (hk : k < 4) : (#[.int .i32 (mixN k f a 0), .int .i32 (mixN k f a 1), .int .i32 (mixN k f a 2), .int .i32 (mixN k f a 3)] : Array Value).setIfInBounds k (.int .i32 (f k)) = #[.int .i32 (mixN ((k : Int) + 1) f a 0), .int .i32 (mixN ((k : Int) + 1) f a 1), .int .i32 (mixN ((k : Int) + 1) f a 2), .int .i32 (mixN ((k : Int) + 1) f a 3)] := by
  rcases (by omega : k = 0 ∨ k = 1 ∨ k = 2 ∨ k = 3) with rfl | rfl | rfl | rfl <;> simp [mixN]
theorem cut_mixN (n : Int) (f a : Nat → Int) : cut n (mixN n f a) = cut n f := cut_congr fun i hi => by unfold mixN; rw [if_pos hi]

theorem eqVC {a b : Nat → Int} (h : ∀ i, i < 4 → a i = b i) : (#[.int .i32 (a 0), .int .i32 (a 1), .int .i32 (a 2), .int .i32 (a 3)] : Array Value) = #[.int .i32 (b 0), .int .i32 (b 1), .int .i32 (b 2), .int .i32 (b 3)] := by rw [h 0 (by omega), h 1 (by omega), h 2 (by omega), h 3 (by omega)]

theorem zeroFix (w : World) : (zeroValue 26).run Tryz.prog w = .ok (.int .i32 0) w := by kernel_rfl

/-- 'clear(a[k:])' on a vector. -/
theorem wpList_clear4 {w : World} {ops : Array Oper} {rest : List Oper} {o : Oper} {a : Act} {Q : Exit → Act → World → Prop} (hgd : o.guard = none) (hd : o.dst = none) (s : Operand)
    (ho : o.op = .call { callee := .builtin .clear, args := #[s], argTypes := #[101] }) (b k c : Nat) (f : Nat → Int) (t : TypeId) (hs : (k < 4 ∧ a.eval s = .slice (some ⟨b, k, none⟩) (4 - k) c) ∨ (k = 4 ∧ ∃ ad, a.eval s = .slice (some ad) 0 c))
    (hB : Blk w b #[.int .i32 (f 0), .int .i32 (f 1), .int .i32 (f 2), .int .i32 (f 3)] t) (h : ∀ w2, Blk w2 b #[.int .i32 (cut k f 0), .int .i32 (cut k f 1), .int .i32 (cut k f 2), .int .i32 (cut k f 3)] t → w.grownBy w2 (some b) → wpList Tryz.prog ops Q rest a w2) :
    wpList Tryz.prog ops Q (o :: rest) a w := by
  have hrun : ∃ v, a.eval s = v ∧ ∃ w2, (Builtin.clear_ #[101] o.type #[v]).run Tryz.prog w = .ok (.tuple #[]) w2 ∧ Blk w2 b #[.int .i32 (cut k f 0), .int .i32 (cut k f 1), .int .i32 (cut k f 2), .int .i32 (cut k f 3)] t ∧ w.grownBy w2 (some b) := by
    rcases hs with ⟨h4, hs⟩ | ⟨rfl, ad, hs⟩
    case inr =>
      refine ⟨_, hs, w, ?_, ?_, World.grownBy.refl _ _⟩
      · simp [Builtin.clear_, run_underlying Tryz.underlying101, zeroFix, Builtin.zeroCells, go_sem]
      · rw [eqVC (a := cut ((4 : Nat) : Int) f) (b := f) (fun i hi => by unfold cut; rw [if_pos (by omega)])]
        exact hB
    case inl =>
      have hr := Lib.run_clear_slice (P := Tryz.prog) w 101 26 o.type (.int .i32 0) Tryz.underlying101 zeroFix rfl rfl b k (4 - k) c (by omega) (fun j hj => by rw [hB.vec (k + j) (by omega)]; rfl) (fun j hj => hB.free _)
      refine ⟨_, hs, _, hr, ?_, ?_⟩
      · rcases (by omega : k = 0 ∨ k = 1 ∨ k = 2 ∨ k = 3) with rfl | rfl | rfl | rfl
        · have := (((hB.set 0 (.int .i32 0)).set 1 (.int .i32 0)).set 2 (.int .i32 0)).set 3 (.int .i32 0)
          simpa [World.setCells, List.replicate, cut] using this
        · have := ((hB.set 1 (.int .i32 0)).set 2 (.int .i32 0)).set 3 (.int .i32 0)
          simpa [World.setCells, List.replicate, cut] using this
        · have := (hB.set 2 (.int .i32 0)).set 3 (.int .i32 0)
          simpa [World.setCells, List.replicate, cut] using this
        · have := hB.set 3 (.int .i32 0)
          simpa [World.setCells, List.replicate, cut] using this
      · rcases (by omega : k = 0 ∨ k = 1 ∨ k = 2 ∨ k = 3) with rfl | rfl | rfl | rfl
        · exact (((grownBy_set w b 0 _).trans (grownBy_set _ b 1 _)).trans (grownBy_set _ b 2 _)).trans (grownBy_set _ b 3 _)
        · exact ((grownBy_set w b 1 _).trans (grownBy_set _ b 2 _)).trans (grownBy_set _ b 3 _)
        · exact (grownBy_set w b 2 _).trans (grownBy_set _ b 3 _)
        · exact grownBy_set w b 3 _
  obtain ⟨v, hs, w2, hr, hB2, hg⟩ := hrun
  refine wpList_plain hgd fun _ hK => ?_
  unfold Oper.wp execOp
  simp only [ho, resolve, invoke, builtin, Sem.run_bind, Sem.run_pure, Result.andThen_ok, List.map_toArray, List.map_cons, List.map_nil, hs, hr]
  refine hK _ _ ?_
  rw [hd]
  exact h w2 hB2 hg

set_option maxHeartbeats 2000000 in
theorem byOne_any (n : Int) (g : FuncId) (f : Int → Int) (a : Nat → Int) (w : World) (h1 : 1 ≤ n) (h4 : n ≤ 4)
    (eg : ∀ args w, (callFunc g args).run Tryz.prog w = .ok (.enter g args) w)
    (hf : ∀ (x : Int) (W : World), I32 x → Calls Tryz.prog g #[.int .i32 x] W fun e w' => e = .returned (.int .i32 (f x)) ∧ Ext W w') (Ia : ∀ i, I32 (a i)) :
    Calls Tryz.prog 104 #[.int .i64 n, .agg #[.int .i32 (a 0), .int .i32 (a 1), .int .i32 (a 2), .int .i32 (a 3)], .func (.func g) #[] #[]] w fun e w' => e = .returned (.agg #[.int .i32 (cut n (fun i => f (a i)) 0), .int .i32 (cut n (fun i => f (a i)) 1), .int .i32 (cut n (fun i => f (a i)) 2), .int .i32 (cut n (fun i => f (a i)) 3)]) ∧ Ext w w' := by
  have HF := hide hf
  have HI := hide Ia
  clear hf Ia
  have B0 : Hid (Blk ((w.alloc (.cells #[.int .i32 (a 0), .int .i32 (a 1), .int .i32 (a 2), .int .i32 (a 3)] 28)).alloc (.cells #[.int .i32 (nul 0), .int .i32 (nul 1), .int .i32 (nul 2), .int .i32 (nul 3)] 28)) w.heap.size #[.int .i32 (a 0), .int .i32 (a 1), .int .i32 (a 2), .int .i32 (a 3)] 28) := (Blk.new w _ _).alloc _
  have B1 : Hid (Blk ((w.alloc (.cells #[.int .i32 (a 0), .int .i32 (a 1), .int .i32 (a 2), .int .i32 (a 3)] 28)).alloc (.cells #[.int .i32 (nul 0), .int .i32 (nul 1), .int .i32 (nul 2), .int .i32 (nul 3)] 28)) (w.heap.size + 1) #[.int .i32 (nul 0), .int .i32 (nul 1), .int .i32 (nul 2), .int .i32 (nul 3)] 28) := Blk.at (by simp)
  go_enter Tryz.func104, Tryz.ntmps104
  go_wp2
  go_loopw [9] (fun i wr => ∃ k : Nat, (k : Int) ≤ n ∧ i = .int .i64 k ∧ Blk wr w.heap.size #[.int .i32 (mixN k (fun i => f (a i)) a 0), .int .i32 (mixN k (fun i => f (a i)) a 1), .int .i32 (mixN k (fun i => f (a i)) a 2), .int .i32 (mixN k (fun i => f (a i)) a 3)] 28 ∧ Blk wr (w.heap.size + 1) #[.int .i32 (nul 0), .int .i32 (nul 1), .int .i32 (nul 2), .int .i32 (nul 3)] 28 ∧ Ext w wr) (fun i _ => n.toNat - (intOf i).toNat)
  case atStart => exact ⟨0, by omega, rfl, by simp only [mixN_zero]; exact unhide B0, unhide B1, ((Ext.refl w).alloc _).alloc _⟩
  case round =>
    obtain ⟨k, hk, rfl, hb0, hb1, hx⟩ := hrel
    clear B0 B1
    have D := hide (And.intro hb0 (And.intro hb1 hx))
    clear hb0 hb1 hx
    by_cases hlt : (k : Int) < n
    · have hk4 : k < 4 := by omega
      have hk4i : (k : Int) < 4 := by omega
      have ck := (unhide D).1.vec k hk4
      rw [mixN_at] at ck
      go_wp2_with (go_at_fn g; refine (unhide HF (a k) _ (unhide HI k)).mono ?_; rintro e w1 ⟨rfl, hx1⟩; have D1 := hide (And.intro ((unhide D).1.ext hx1) (And.intro ((unhide D).2.1.ext hx1) ((unhide D).2.2.trans hx1))); have c1 := (unhide D1).1.vec k hk4; have f1 := (unhide D1).1.free k; clear D hx1)
      go_roundw
      case rel =>
        refine ⟨k + 1, by omega, by go_num, ?_, (unhide D1).2.1.other k _ (by omega), ext_set (unhide D1).2.2 (by omega)⟩
        have := (unhide D1).1.set k (.int .i32 (f (a k)))
        rw [mixN_set (fun i => f (a i)) a k hk4] at this
        exact this
      case measure => simp [intOf]; omega
    · have hkn : n = (k : Int) := by omega
      subst hkn
      have hk4 : k ≤ 4 := by omega
      have hk4i : (k : Int) ≤ 4 := by omega
      have hnn : (4 : Int) - (k : Int) = ((4 - k : Nat) : Int) := by omega
      by_cases h44 : k = 4
      · subst h44
        go_wp2_with (refine wpList_clear4 rfl rfl (.tmp 21) rfl w.heap.size 4 0 _ 28 (.inr ⟨rfl, _, by rfl⟩) (unhide D).1 ?_; intro w2 hb2 hg2; have D2 := hide (And.intro hb2 (And.intro (((unhide D).2.1).grown hg2 (by omega)) (below_grown (unhide D).2.2 hg2 (unhide D).2.2.size (Nat.le_refl _)))); clear hb2 hg2 D; obtain ⟨c0, c1, c2, c3⟩ := (unhide D2).1.vec4; obtain ⟨g0, g1, g2, g3⟩ := (unhide D2).2.1.free4; obtain ⟨r0, r1, r2, r3⟩ := (unhide D2).2.1.vec4)
        obtain ⟨q0, q1, q2, q3⟩ := lay4 (unhide D2).2.1 (.int .i32 (cut (4 : Int) (mixN (4 : Int) (fun i => f (a i)) a) 0)) (.int .i32 (cut (4 : Int) (mixN (4 : Int) (fun i => f (a i)) a) 1)) (.int .i32 (cut (4 : Int) (mixN (4 : Int) (fun i => f (a i)) a) 2)) (.int .i32 (cut (4 : Int) (mixN (4 : Int) (fun i => f (a i)) a) 3))
        refine bodyPost_ret (v := .agg #[.int .i32 (cut (4 : Int) (mixN (4 : Int) (fun i => f (a i)) a) 0), .int .i32 (cut (4 : Int) (mixN (4 : Int) (fun i => f (a i)) a) 1), .int .i32 (cut (4 : Int) (mixN (4 : Int) (fun i => f (a i)) a) 2), .int .i32 (cut (4 : Int) (mixN (4 : Int) (fun i => f (a i)) a) 3)]) (by simp [results, Tryz.results104, go_sem, q0, q1, q2, q3]) rfl ⟨?_, ext_set4 (unhide D2).2.2 (by omega)⟩
        rw [cut_mixN]
      · have h44' : ¬ 4 = k := fun e => h44 e.symm
        have hlt4 : k < 4 := by omega
        go_wp2_with (refine wpList_clear4 rfl rfl (.tmp 21) rfl w.heap.size k (4 - k) _ 28 (.inl ⟨hlt4, by first | rfl | simp [Act.eval, h44']⟩) (unhide D).1 ?_; intro w2 hb2 hg2; have D2 := hide (And.intro hb2 (And.intro (((unhide D).2.1).grown hg2 (by omega)) (below_grown (unhide D).2.2 hg2 (unhide D).2.2.size (Nat.le_refl _)))); clear hb2 hg2 D; obtain ⟨c0, c1, c2, c3⟩ := (unhide D2).1.vec4; obtain ⟨g0, g1, g2, g3⟩ := (unhide D2).2.1.free4; obtain ⟨r0, r1, r2, r3⟩ := (unhide D2).2.1.vec4)
        obtain ⟨q0, q1, q2, q3⟩ := lay4 (unhide D2).2.1 (.int .i32 (cut (k : Int) (mixN (k : Int) (fun i => f (a i)) a) 0)) (.int .i32 (cut (k : Int) (mixN (k : Int) (fun i => f (a i)) a) 1)) (.int .i32 (cut (k : Int) (mixN (k : Int) (fun i => f (a i)) a) 2)) (.int .i32 (cut (k : Int) (mixN (k : Int) (fun i => f (a i)) a) 3))
        refine bodyPost_ret (v := .agg #[.int .i32 (cut (k : Int) (mixN (k : Int) (fun i => f (a i)) a) 0), .int .i32 (cut (k : Int) (mixN (k : Int) (fun i => f (a i)) a) 1), .int .i32 (cut (k : Int) (mixN (k : Int) (fun i => f (a i)) a) 2), .int .i32 (cut (k : Int) (mixN (k : Int) (fun i => f (a i)) a) 3)]) (by simp [results, Tryz.results104, go_sem, q0, q1, q2, q3]) rfl ⟨?_, ext_set4 (unhide D2).2.2 (by omega)⟩
        rw [cut_mixN]
set_option maxRecDepth 10000 in
set_option maxHeartbeats 2000000 in
theorem byTwo_any (n : Int) (g : FuncId) (f : Int → Int → Int) (a b : Nat → Int) (w : World) (h1 : 1 ≤ n) (h4 : n ≤ 4)
    (eg : ∀ args w, (callFunc g args).run Tryz.prog w = .ok (.enter g args) w)
    (hf : ∀ (x y : Int) (W : World), I32 x → I32 y → Calls Tryz.prog g #[.int .i32 x, .int .i32 y] W fun e w' => e = .returned (.int .i32 (f x y)) ∧ Ext W w') (Ia : ∀ i, I32 (a i)) (Ib : ∀ i, I32 (b i)) :
    Calls Tryz.prog 99 #[.int .i64 n, .agg #[.int .i32 (a 0), .int .i32 (a 1), .int .i32 (a 2), .int .i32 (a 3)], .agg #[.int .i32 (b 0), .int .i32 (b 1), .int .i32 (b 2), .int .i32 (b 3)], .func (.func g) #[] #[]] w fun e w' => e = .returned (.agg #[.int .i32 (cut n (fun i => f (a i) (b i)) 0), .int .i32 (cut n (fun i => f (a i) (b i)) 1), .int .i32 (cut n (fun i => f (a i) (b i)) 2), .int .i32 (cut n (fun i => f (a i) (b i)) 3)]) ∧ Ext w w' := by
  have HF := hide hf
  have HI := hide (And.intro Ia Ib)
  clear hf Ia Ib
  have B0 : Hid (Blk (((w.alloc (.cells #[.int .i32 (a 0), .int .i32 (a 1), .int .i32 (a 2), .int .i32 (a 3)] 28)).alloc (.cells #[.int .i32 (b 0), .int .i32 (b 1), .int .i32 (b 2), .int .i32 (b 3)] 28)).alloc (.cells #[.int .i32 (nul 0), .int .i32 (nul 1), .int .i32 (nul 2), .int .i32 (nul 3)] 28)) w.heap.size #[.int .i32 (a 0), .int .i32 (a 1), .int .i32 (a 2), .int .i32 (a 3)] 28) := ((Blk.new w _ _).alloc _).alloc _
  have B2 : Hid (Blk (((w.alloc (.cells #[.int .i32 (a 0), .int .i32 (a 1), .int .i32 (a 2), .int .i32 (a 3)] 28)).alloc (.cells #[.int .i32 (b 0), .int .i32 (b 1), .int .i32 (b 2), .int .i32 (b 3)] 28)).alloc (.cells #[.int .i32 (nul 0), .int .i32 (nul 1), .int .i32 (nul 2), .int .i32 (nul 3)] 28)) (w.heap.size + 1) #[.int .i32 (b 0), .int .i32 (b 1), .int .i32 (b 2), .int .i32 (b 3)] 28) := (Blk.at (by simp)).alloc _
  have B1 : Hid (Blk (((w.alloc (.cells #[.int .i32 (a 0), .int .i32 (a 1), .int .i32 (a 2), .int .i32 (a 3)] 28)).alloc (.cells #[.int .i32 (b 0), .int .i32 (b 1), .int .i32 (b 2), .int .i32 (b 3)] 28)).alloc (.cells #[.int .i32 (nul 0), .int .i32 (nul 1), .int .i32 (nul 2), .int .i32 (nul 3)] 28)) (w.heap.size + 1 + 1) #[.int .i32 (nul 0), .int .i32 (nul 1), .int .i32 (nul 2), .int .i32 (nul 3)] 28) := Blk.at (by simp)
  go_enter Tryz.func99, Tryz.ntmps99
  go_wp2
  go_loopw [11] (fun i wr => ∃ k : Nat, (k : Int) ≤ n ∧ i = .int .i64 k ∧ Blk wr w.heap.size #[.int .i32 (mixN k (fun i => f (a i) (b i)) a 0), .int .i32 (mixN k (fun i => f (a i) (b i)) a 1), .int .i32 (mixN k (fun i => f (a i) (b i)) a 2), .int .i32 (mixN k (fun i => f (a i) (b i)) a 3)] 28 ∧ Blk wr (w.heap.size + 1) #[.int .i32 (b 0), .int .i32 (b 1), .int .i32 (b 2), .int .i32 (b 3)] 28 ∧ Blk wr (w.heap.size + 1 + 1) #[.int .i32 (nul 0), .int .i32 (nul 1), .int .i32 (nul 2), .int .i32 (nul 3)] 28 ∧ Ext w wr) (fun i _ => n.toNat - (intOf i).toNat)
  case atStart => exact ⟨0, by omega, rfl, by simp only [mixN_zero]; exact unhide B0, unhide B2, unhide B1, (((Ext.refl w).alloc _).alloc _).alloc _⟩
  case round =>
    obtain ⟨k, hk, rfl, hb0, hb2, hb1, hx⟩ := hrel
    clear B0 B1 B2
    have D := hide (And.intro hb0 (And.intro hb1 hx))
    have DB := hide hb2
    clear hb0 hb1 hb2 hx
    by_cases hlt : (k : Int) < n
    · have hk4 : k < 4 := by omega
      have hk4i : (k : Int) < 4 := by omega
      have ck := (unhide D).1.vec k hk4
      rw [mixN_at] at ck
      have cb := (unhide DB).vec k hk4
      go_wp2
      go_region_with (first | (go_at_fn g; refine (unhide HF (a k) (b k) _ ((unhide HI).1 k) ((unhide HI).2 k)).mono ?_; rintro e w1 ⟨rfl, hx1⟩; have bx : Ext wr w1 := ((Ext.refl _).drew).trans hx1; have D1 := hide (And.intro ((unhide D).1.ext bx) (And.intro ((unhide D).2.1.ext bx) ((unhide D).2.2.trans bx))); have DB1 := hide ((unhide DB).ext bx); have c1 := (unhide D1).1.vec k hk4; have f1 := (unhide D1).1.free k; clear hx1))
      all_goals
        go_wp2
        go_roundw
        case rel =>
          refine ⟨k + 1, by omega, by go_num, ?_, (unhide DB1).other k _ (by omega), (unhide D1).2.1.other k _ (by omega), ext_set (unhide D1).2.2 (by omega)⟩
          have := (unhide D1).1.set k (.int .i32 (f (a k) (b k)))
          rw [mixN_set (fun i => f (a i) (b i)) a k hk4] at this
          exact this
        case measure => simp [intOf]; omega
    · have hkn : n = (k : Int) := by omega
      subst hkn
      have hk4 : k ≤ 4 := by omega
      have hk4i : (k : Int) ≤ 4 := by omega
      have hnn : (4 : Int) - (k : Int) = ((4 - k : Nat) : Int) := by omega
      by_cases h44 : k = 4
      · subst h44
        go_wp2_with (refine wpList_clear4 rfl rfl (.tmp 26) rfl w.heap.size 4 0 _ 28 (.inr ⟨rfl, _, by rfl⟩) (unhide D).1 ?_; intro w2 hb2 hg2; have D2 := hide (And.intro hb2 (And.intro (((unhide D).2.1).grown hg2 (by omega)) (below_grown (unhide D).2.2 hg2 (unhide D).2.2.size (Nat.le_refl _)))); clear hb2 hg2 D; obtain ⟨c0, c1, c2, c3⟩ := (unhide D2).1.vec4; obtain ⟨g0, g1, g2, g3⟩ := (unhide D2).2.1.free4; obtain ⟨r0, r1, r2, r3⟩ := (unhide D2).2.1.vec4)
        obtain ⟨q0, q1, q2, q3⟩ := lay4 (unhide D2).2.1 (.int .i32 (cut (4 : Int) (mixN (4 : Int) (fun i => f (a i) (b i)) a) 0)) (.int .i32 (cut (4 : Int) (mixN (4 : Int) (fun i => f (a i) (b i)) a) 1)) (.int .i32 (cut (4 : Int) (mixN (4 : Int) (fun i => f (a i) (b i)) a) 2)) (.int .i32 (cut (4 : Int) (mixN (4 : Int) (fun i => f (a i) (b i)) a) 3))
        refine bodyPost_ret (v := .agg #[.int .i32 (cut (4 : Int) (mixN (4 : Int) (fun i => f (a i) (b i)) a) 0), .int .i32 (cut (4 : Int) (mixN (4 : Int) (fun i => f (a i) (b i)) a) 1), .int .i32 (cut (4 : Int) (mixN (4 : Int) (fun i => f (a i) (b i)) a) 2), .int .i32 (cut (4 : Int) (mixN (4 : Int) (fun i => f (a i) (b i)) a) 3)]) (by simp [results, Tryz.results99, go_sem, q0, q1, q2, q3]) rfl ⟨?_, ext_set4 (unhide D2).2.2 (by omega)⟩
        rw [cut_mixN]
      · have h44' : ¬ 4 = k := fun e => h44 e.symm
        have hlt4 : k < 4 := by omega
        go_wp2_with (refine wpList_clear4 rfl rfl (.tmp 26) rfl w.heap.size k (4 - k) _ 28 (.inl ⟨hlt4, by first | rfl | simp [Act.eval, h44']⟩) (unhide D).1 ?_; intro w2 hb2 hg2; have D2 := hide (And.intro hb2 (And.intro (((unhide D).2.1).grown hg2 (by omega)) (below_grown (unhide D).2.2 hg2 (unhide D).2.2.size (Nat.le_refl _)))); clear hb2 hg2 D; obtain ⟨c0, c1, c2, c3⟩ := (unhide D2).1.vec4; obtain ⟨g0, g1, g2, g3⟩ := (unhide D2).2.1.free4; obtain ⟨r0, r1, r2, r3⟩ := (unhide D2).2.1.vec4)
        obtain ⟨q0, q1, q2, q3⟩ := lay4 (unhide D2).2.1 (.int .i32 (cut (k : Int) (mixN (k : Int) (fun i => f (a i) (b i)) a) 0)) (.int .i32 (cut (k : Int) (mixN (k : Int) (fun i => f (a i) (b i)) a) 1)) (.int .i32 (cut (k : Int) (mixN (k : Int) (fun i => f (a i) (b i)) a) 2)) (.int .i32 (cut (k : Int) (mixN (k : Int) (fun i => f (a i) (b i)) a) 3))
        refine bodyPost_ret (v := .agg #[.int .i32 (cut (k : Int) (mixN (k : Int) (fun i => f (a i) (b i)) a) 0), .int .i32 (cut (k : Int) (mixN (k : Int) (fun i => f (a i) (b i)) a) 1), .int .i32 (cut (k : Int) (mixN (k : Int) (fun i => f (a i) (b i)) a) 2), .int .i32 (cut (k : Int) (mixN (k : Int) (fun i => f (a i) (b i)) a) 3)]) (by simp [results, Tryz.results99, go_sem, q0, q1, q2, q3]) rfl ⟨?_, ext_set4 (unhide D2).2.2 (by omega)⟩
        rw [cut_mixN]
end Go.Proofs.YtglfhmlcmffoaaaGreat

/-
  The machine of registers: what functions do to whole numbers (ofInts), which are vec's (ofTwo, ofOne), which are maths' (ofMaths). Written by mkvm.py.
-/
namespace Go.Proofs.YtglfhmlcmffoaaaGreat
open Go.RowKit
set_option linter.unusedVariables false
set_option linter.unusedSimpArgs false

/-- A number, modulo 2 to the power 32. -/
def w32 (x : Int) : Int := wrap32 x
theorem w32_i32 (x : Int) : I32 (w32 x) := by unfold w32 I32 wrap32; omega
/-- How often y goes into x, towards 0; 0 of y being 0. -/
def quoI (x y : Int) : Int := if y = 0 then 0 else w32 (x.tdiv y)
theorem quoI_i32 (x y : Int) : I32 (quoI x y) := by
  unfold quoI
  split
  · unfold I32; omega
  · exact w32_i32 _
/-- What a function does to whole numbers. -/
def oiI (fn n : Int) (a b : Nat → Int) : Nat → Int :=
  if fn = 24 then cut n (fun i => w32 (a i + b i)) else if fn = 25 then cut n (fun i => w32 (a i - b i)) else if fn = 26 then cut n (fun i => w32 (a i * b i)) else if fn = 27 then cut n (fun i => quoI (a i) (b i)) else cut n (fun i => w32 (-(a i)))
theorem oiI_i32 (fn n : Int) (a b : Nat → Int) (i : Nat) : I32 (oiI fn n a b i) := by
  unfold oiI
  split; exact cut_i32 (fun i => w32_i32 _) i
  split; exact cut_i32 (fun i => w32_i32 _) i
  split; exact cut_i32 (fun i => w32_i32 _) i
  split; exact cut_i32 (fun i => quoI_i32 _ _) i
  exact cut_i32 (fun i => w32_i32 _) i

theorem oi1_any (x y : Int) (w : World) (hx : I32 x) (hy : I32 y) : Calls Tryz.prog 100 #[.int .i32 x, .int .i32 y] w fun e w' => e = .returned (.int .i32 (w32 (x + y))) ∧ Ext w w' := by
  clear hx hy
  have HW := hide (show wrap32 (x + y) = w32 (x + y) from rfl)
  go_enter Tryz.func100, Tryz.ntmps100
  go_wp2
  go_ret
  exact ⟨by first | rfl | (rw [← unhide HW]; rfl) | simp [w32], Ext.refl _⟩
theorem oi1_enters : ∀ args w, (callFunc 100 args).run Tryz.prog w = .ok (.enter 100 args) w := enters_of Tryz.func100 (by kernel_rfl) rfl

theorem oi2_any (x y : Int) (w : World) (hx : I32 x) (hy : I32 y) : Calls Tryz.prog 101 #[.int .i32 x, .int .i32 y] w fun e w' => e = .returned (.int .i32 (w32 (x - y))) ∧ Ext w w' := by
  clear hx hy
  have HW := hide (show wrap32 (x - y) = w32 (x - y) from rfl)
  go_enter Tryz.func101, Tryz.ntmps101
  go_wp2
  go_ret
  exact ⟨by first | rfl | (rw [← unhide HW]; rfl) | simp [w32], Ext.refl _⟩
theorem oi2_enters : ∀ args w, (callFunc 101 args).run Tryz.prog w = .ok (.enter 101 args) w := enters_of Tryz.func101 (by kernel_rfl) rfl

theorem oi3_any (x y : Int) (w : World) (hx : I32 x) (hy : I32 y) : Calls Tryz.prog 102 #[.int .i32 x, .int .i32 y] w fun e w' => e = .returned (.int .i32 (w32 (x * y))) ∧ Ext w w' := by
  clear hx hy
  have HW := hide (show wrap32 (x * y) = w32 (x * y) from rfl)
  go_enter Tryz.func102, Tryz.ntmps102
  go_wp2
  go_ret
  exact ⟨by first | rfl | (rw [← unhide HW]; rfl) | simp [w32], Ext.refl _⟩
theorem oi3_enters : ∀ args w, (callFunc 102 args).run Tryz.prog w = .ok (.enter 102 args) w := enters_of Tryz.func102 (by kernel_rfl) rfl

theorem oi5_any (x : Int) (w : World) (hx : I32 x) : Calls Tryz.prog 105 #[.int .i32 x] w fun e w' => e = .returned (.int .i32 (w32 (-x))) ∧ Ext w w' := by
  clear hx
  go_enter Tryz.func105, Tryz.ntmps105
  go_wp2
  go_ret
  exact ⟨by first | rfl | simp [w32], Ext.refl _⟩
theorem oi5_enters : ∀ args w, (callFunc 105 args).run Tryz.prog w = .ok (.enter 105 args) w := enters_of Tryz.func105 (by kernel_rfl) rfl

theorem quotient_any (x y : Int) (w : World) (hx : I32 x) (hy : I32 y) : Calls Tryz.prog 103 #[.int .i32 x, .int .i32 y] w fun e w' => e = .returned (.int .i32 (quoI x y)) ∧ Ext w w' := by
  clear hx hy
  by_cases h : y = 0
  · subst h
    have E : Hid (quoI x 0 = 0) := rfl
    go_enter Tryz.func103, Tryz.ntmps103
    go_wp2
    go_ret
    rw [unhide E]
    exact ⟨rfl, Ext.refl _⟩
  · have E : Hid (quoI x y = w32 (x.tdiv y)) := if_neg h
    have d : (y == 0) = false := by simp [h]
    go_enter Tryz.func103, Tryz.ntmps103
    go_wp2
    go_ret
    rw [unhide E]
    exact ⟨by first | rfl | simp [w32], Ext.refl _⟩
theorem quotient_enters : ∀ args w, (callFunc 103 args).run Tryz.prog w = .ok (.enter 103 args) w := enters_of Tryz.func103 (by kernel_rfl) rfl

set_option maxRecDepth 10000 in
set_option maxHeartbeats 4000000 in
theorem ofInts_any (fn n : Int) (a b : Nat → Int) (w : World) (h1 : 1 ≤ n) (h4 : n ≤ 4) (Ia : ∀ i, I32 (a i)) (Ib : ∀ i, I32 (b i)) :
    Calls Tryz.prog 67 #[.int .i64 fn, .int .i64 n, .agg #[.int .i32 (a 0), .int .i32 (a 1), .int .i32 (a 2), .int .i32 (a 3)], .agg #[.int .i32 (b 0), .int .i32 (b 1), .int .i32 (b 2), .int .i32 (b 3)]] w fun e w' => e = .returned (.agg #[.int .i32 (oiI fn n a b 0), .int .i32 (oiI fn n a b 1), .int .i32 (oiI fn n a b 2), .int .i32 (oiI fn n a b 3)]) ∧ Ext w w' := by
  have HI := hide (And.intro Ia Ib)
  clear Ia Ib
  have HB := hide (show Blk (((w.alloc (.cells #[.int .i32 (a 0), .int .i32 (a 1), .int .i32 (a 2), .int .i32 (a 3)] 28)).alloc (.cells #[.int .i32 (b 0), .int .i32 (b 1), .int .i32 (b 2), .int .i32 (b 3)] 28)).alloc (.cells #[.int .i32 (nul 0), .int .i32 (nul 1), .int .i32 (nul 2), .int .i32 (nul 3)] 28)) (w.heap.size + 1 + 1) #[.int .i32 (nul 0), .int .i32 (nul 1), .int .i32 (nul 2), .int .i32 (nul 3)] 28 ∧ Ext w (((w.alloc (.cells #[.int .i32 (a 0), .int .i32 (a 1), .int .i32 (a 2), .int .i32 (a 3)] 28)).alloc (.cells #[.int .i32 (b 0), .int .i32 (b 1), .int .i32 (b 2), .int .i32 (b 3)] 28)).alloc (.cells #[.int .i32 (nul 0), .int .i32 (nul 1), .int .i32 (nul 2), .int .i32 (nul 3)] 28)) from ⟨Blk.at (by simp), ((((Ext.refl w).alloc _).alloc _).alloc _)⟩)
  by_cases e24 : fn = 24
  case pos =>
    subst e24
    have E : Hid (oiI 24 n a b = cut n (fun i => w32 (a i + b i))) := rfl
    go_enter Tryz.func67, Tryz.ntmps67
    go_wp2_with (go_at_call 99; refine (byTwo_any n 100 (fun x y => w32 (x + y)) a b _ h1 h4 oi1_enters (fun x y W hx hy => oi1_any x y W hx hy) (unhide HI).1 (unhide HI).2).mono ?_; rintro e w1 ⟨rfl, hx⟩; have R := hide (And.intro ((unhide HB).1.ext hx) ((unhide HB).2.trans hx)); clear hx HB; obtain ⟨r0, r1, r2, r3⟩ := (unhide R).1.vec4; obtain ⟨f0, f1, f2, f3⟩ := (unhide R).1.free4)
    obtain ⟨q0, q1, q2, q3⟩ := lay4 (unhide R).1 (.int .i32 ((cut n (fun i => w32 (a i + b i))) 0)) (.int .i32 ((cut n (fun i => w32 (a i + b i))) 1)) (.int .i32 ((cut n (fun i => w32 (a i + b i))) 2)) (.int .i32 ((cut n (fun i => w32 (a i + b i))) 3))
    refine bodyPost_ret (v := .agg #[.int .i32 ((cut n (fun i => w32 (a i + b i))) 0), .int .i32 ((cut n (fun i => w32 (a i + b i))) 1), .int .i32 ((cut n (fun i => w32 (a i + b i))) 2), .int .i32 ((cut n (fun i => w32 (a i + b i))) 3)]) (by simp [results, Tryz.results67, go_sem, q0, q1, q2, q3]) rfl ⟨by rw [unhide E], ext_set4 (unhide R).2 (by omega)⟩
  case neg =>
  have d24 : (fn == 24) = false := by simp [e24]
  by_cases e25 : fn = 25
  case pos =>
    subst e25
    have E : Hid (oiI 25 n a b = cut n (fun i => w32 (a i - b i))) := rfl
    go_enter Tryz.func67, Tryz.ntmps67
    go_wp2_with (go_at_call 99; refine (byTwo_any n 101 (fun x y => w32 (x - y)) a b _ h1 h4 oi2_enters (fun x y W hx hy => oi2_any x y W hx hy) (unhide HI).1 (unhide HI).2).mono ?_; rintro e w1 ⟨rfl, hx⟩; have R := hide (And.intro ((unhide HB).1.ext hx) ((unhide HB).2.trans hx)); clear hx HB; obtain ⟨r0, r1, r2, r3⟩ := (unhide R).1.vec4; obtain ⟨f0, f1, f2, f3⟩ := (unhide R).1.free4)
    obtain ⟨q0, q1, q2, q3⟩ := lay4 (unhide R).1 (.int .i32 ((cut n (fun i => w32 (a i - b i))) 0)) (.int .i32 ((cut n (fun i => w32 (a i - b i))) 1)) (.int .i32 ((cut n (fun i => w32 (a i - b i))) 2)) (.int .i32 ((cut n (fun i => w32 (a i - b i))) 3))
    refine bodyPost_ret (v := .agg #[.int .i32 ((cut n (fun i => w32 (a i - b i))) 0), .int .i32 ((cut n (fun i => w32 (a i - b i))) 1), .int .i32 ((cut n (fun i => w32 (a i - b i))) 2), .int .i32 ((cut n (fun i => w32 (a i - b i))) 3)]) (by simp [results, Tryz.results67, go_sem, q0, q1, q2, q3]) rfl ⟨by rw [unhide E], ext_set4 (unhide R).2 (by omega)⟩
  case neg =>
  have d25 : (fn == 25) = false := by simp [e25]
  by_cases e26 : fn = 26
  case pos =>
    subst e26
    have E : Hid (oiI 26 n a b = cut n (fun i => w32 (a i * b i))) := rfl
    go_enter Tryz.func67, Tryz.ntmps67
    go_wp2_with (go_at_call 99; refine (byTwo_any n 102 (fun x y => w32 (x * y)) a b _ h1 h4 oi3_enters (fun x y W hx hy => oi3_any x y W hx hy) (unhide HI).1 (unhide HI).2).mono ?_; rintro e w1 ⟨rfl, hx⟩; have R := hide (And.intro ((unhide HB).1.ext hx) ((unhide HB).2.trans hx)); clear hx HB; obtain ⟨r0, r1, r2, r3⟩ := (unhide R).1.vec4; obtain ⟨f0, f1, f2, f3⟩ := (unhide R).1.free4)
    obtain ⟨q0, q1, q2, q3⟩ := lay4 (unhide R).1 (.int .i32 ((cut n (fun i => w32 (a i * b i))) 0)) (.int .i32 ((cut n (fun i => w32 (a i * b i))) 1)) (.int .i32 ((cut n (fun i => w32 (a i * b i))) 2)) (.int .i32 ((cut n (fun i => w32 (a i * b i))) 3))
    refine bodyPost_ret (v := .agg #[.int .i32 ((cut n (fun i => w32 (a i * b i))) 0), .int .i32 ((cut n (fun i => w32 (a i * b i))) 1), .int .i32 ((cut n (fun i => w32 (a i * b i))) 2), .int .i32 ((cut n (fun i => w32 (a i * b i))) 3)]) (by simp [results, Tryz.results67, go_sem, q0, q1, q2, q3]) rfl ⟨by rw [unhide E], ext_set4 (unhide R).2 (by omega)⟩
  case neg =>
  have d26 : (fn == 26) = false := by simp [e26]
  by_cases e27 : fn = 27
  case pos =>
    subst e27
    have E : Hid (oiI 27 n a b = cut n (fun i => quoI (a i) (b i))) := rfl
    go_enter Tryz.func67, Tryz.ntmps67
    go_wp2_with (go_at_call 99; refine (byTwo_any n 103 (quoI) a b _ h1 h4 quotient_enters (fun x y W hx hy => quotient_any x y W hx hy) (unhide HI).1 (unhide HI).2).mono ?_; rintro e w1 ⟨rfl, hx⟩; have R := hide (And.intro ((unhide HB).1.ext hx) ((unhide HB).2.trans hx)); clear hx HB; obtain ⟨r0, r1, r2, r3⟩ := (unhide R).1.vec4; obtain ⟨f0, f1, f2, f3⟩ := (unhide R).1.free4)
    obtain ⟨q0, q1, q2, q3⟩ := lay4 (unhide R).1 (.int .i32 ((cut n (fun i => quoI (a i) (b i))) 0)) (.int .i32 ((cut n (fun i => quoI (a i) (b i))) 1)) (.int .i32 ((cut n (fun i => quoI (a i) (b i))) 2)) (.int .i32 ((cut n (fun i => quoI (a i) (b i))) 3))
    refine bodyPost_ret (v := .agg #[.int .i32 ((cut n (fun i => quoI (a i) (b i))) 0), .int .i32 ((cut n (fun i => quoI (a i) (b i))) 1), .int .i32 ((cut n (fun i => quoI (a i) (b i))) 2), .int .i32 ((cut n (fun i => quoI (a i) (b i))) 3)]) (by simp [results, Tryz.results67, go_sem, q0, q1, q2, q3]) rfl ⟨by rw [unhide E], ext_set4 (unhide R).2 (by omega)⟩
  case neg =>
  have d27 : (fn == 27) = false := by simp [e27]
  have E : Hid (oiI fn n a b = cut n (fun i => w32 (-(a i)))) := by unfold oiI; rw [if_neg e24, if_neg e25, if_neg e26, if_neg e27]; trivial
  clear e24 e25 e26 e27
  go_enter Tryz.func67, Tryz.ntmps67
  go_wp2_with (go_at_call 104; refine (byOne_any n 105 (fun x => w32 (-x)) a _ h1 h4 oi5_enters (fun x W hx => oi5_any x W hx) (unhide HI).1).mono ?_; rintro e w1 ⟨rfl, hx⟩; have R := hide (And.intro ((unhide HB).1.ext hx) ((unhide HB).2.trans hx)); clear hx HB; obtain ⟨r0, r1, r2, r3⟩ := (unhide R).1.vec4; obtain ⟨f0, f1, f2, f3⟩ := (unhide R).1.free4)
  obtain ⟨q0, q1, q2, q3⟩ := lay4 (unhide R).1 (.int .i32 ((cut n (fun i => w32 (-(a i)))) 0)) (.int .i32 ((cut n (fun i => w32 (-(a i)))) 1)) (.int .i32 ((cut n (fun i => w32 (-(a i)))) 2)) (.int .i32 ((cut n (fun i => w32 (-(a i)))) 3))
  refine bodyPost_ret (v := .agg #[.int .i32 ((cut n (fun i => w32 (-(a i)))) 0), .int .i32 ((cut n (fun i => w32 (-(a i)))) 1), .int .i32 ((cut n (fun i => w32 (-(a i)))) 2), .int .i32 ((cut n (fun i => w32 (-(a i)))) 3)]) (by simp [results, Tryz.results67, go_sem, q0, q1, q2, q3]) rfl ⟨by rw [unhide E], ext_set4 (unhide R).2 (by omega)⟩
def ofTwoN (fn : Int) : Option Int := if fn = 24 then some 0 else if fn = 25 then some 1 else if fn = 26 then some 2 else if fn = 27 then some 3 else if fn = 12 then some 4 else if fn = 13 then some 5 else if fn = 14 then some 6 else if fn = 16 then some 7 else none
set_option maxHeartbeats 1000000 in
theorem ofTwo_some (fn op : Int) (w : World) (h : ofTwoN fn = some op) : Calls Tryz.prog 152 #[.int .i64 fn] w fun e w' => e = .returned (.tuple #[.int .i64 op, .bool true]) ∧ w' = w := by
  unfold ofTwoN at h
  by_cases e24 : fn = 24
  case pos =>
    subst e24
    obtain rfl : 0 = op := by simpa using h
    clear h
    go_enter Tryz.func152, Tryz.ntmps152
    go_wp2
    refine bodyPost_ret (v := .tuple #[.int .i64 0, .bool true]) (by simp [results, Tryz.results152, go_sem]) rfl ⟨rfl, rfl⟩
  case neg =>
  rw [if_neg e24] at h
  by_cases e25 : fn = 25
  case pos =>
    subst e25
    obtain rfl : 1 = op := by simpa using h
    clear h
    go_enter Tryz.func152, Tryz.ntmps152
    go_wp2
    refine bodyPost_ret (v := .tuple #[.int .i64 1, .bool true]) (by simp [results, Tryz.results152, go_sem]) rfl ⟨rfl, rfl⟩
  case neg =>
  rw [if_neg e25] at h
  by_cases e26 : fn = 26
  case pos =>
    subst e26
    obtain rfl : 2 = op := by simpa using h
    clear h
    go_enter Tryz.func152, Tryz.ntmps152
    go_wp2
    refine bodyPost_ret (v := .tuple #[.int .i64 2, .bool true]) (by simp [results, Tryz.results152, go_sem]) rfl ⟨rfl, rfl⟩
  case neg =>
  rw [if_neg e26] at h
  by_cases e27 : fn = 27
  case pos =>
    subst e27
    obtain rfl : 3 = op := by simpa using h
    clear h
    go_enter Tryz.func152, Tryz.ntmps152
    go_wp2
    refine bodyPost_ret (v := .tuple #[.int .i64 3, .bool true]) (by simp [results, Tryz.results152, go_sem]) rfl ⟨rfl, rfl⟩
  case neg =>
  rw [if_neg e27] at h
  by_cases e12 : fn = 12
  case pos =>
    subst e12
    obtain rfl : 4 = op := by simpa using h
    clear h
    go_enter Tryz.func152, Tryz.ntmps152
    go_wp2
    refine bodyPost_ret (v := .tuple #[.int .i64 4, .bool true]) (by simp [results, Tryz.results152, go_sem]) rfl ⟨rfl, rfl⟩
  case neg =>
  rw [if_neg e12] at h
  by_cases e13 : fn = 13
  case pos =>
    subst e13
    obtain rfl : 5 = op := by simpa using h
    clear h
    go_enter Tryz.func152, Tryz.ntmps152
    go_wp2
    refine bodyPost_ret (v := .tuple #[.int .i64 5, .bool true]) (by simp [results, Tryz.results152, go_sem]) rfl ⟨rfl, rfl⟩
  case neg =>
  rw [if_neg e13] at h
  by_cases e14 : fn = 14
  case pos =>
    subst e14
    obtain rfl : 6 = op := by simpa using h
    clear h
    go_enter Tryz.func152, Tryz.ntmps152
    go_wp2
    refine bodyPost_ret (v := .tuple #[.int .i64 6, .bool true]) (by simp [results, Tryz.results152, go_sem]) rfl ⟨rfl, rfl⟩
  case neg =>
  rw [if_neg e14] at h
  by_cases e16 : fn = 16
  case pos =>
    subst e16
    obtain rfl : 7 = op := by simpa using h
    clear h
    go_enter Tryz.func152, Tryz.ntmps152
    go_wp2
    refine bodyPost_ret (v := .tuple #[.int .i64 7, .bool true]) (by simp [results, Tryz.results152, go_sem]) rfl ⟨rfl, rfl⟩
  case neg =>
  rw [if_neg e16] at h
  cases h

set_option maxHeartbeats 1000000 in
theorem ofTwo_none (fn : Int) (w : World) (h : ofTwoN fn = none) : Calls Tryz.prog 152 #[.int .i64 fn] w fun e w' => e = .returned (.tuple #[.int .i64 0, .bool false]) ∧ w' = w := by
  unfold ofTwoN at h
  by_cases e24 : fn = 24
  case pos => rw [if_pos e24] at h; cases h
  case neg =>
  rw [if_neg e24] at h
  have d24 : (fn == 24) = false := by simp [e24]
  by_cases e25 : fn = 25
  case pos => rw [if_pos e25] at h; cases h
  case neg =>
  rw [if_neg e25] at h
  have d25 : (fn == 25) = false := by simp [e25]
  by_cases e26 : fn = 26
  case pos => rw [if_pos e26] at h; cases h
  case neg =>
  rw [if_neg e26] at h
  have d26 : (fn == 26) = false := by simp [e26]
  by_cases e27 : fn = 27
  case pos => rw [if_pos e27] at h; cases h
  case neg =>
  rw [if_neg e27] at h
  have d27 : (fn == 27) = false := by simp [e27]
  by_cases e12 : fn = 12
  case pos => rw [if_pos e12] at h; cases h
  case neg =>
  rw [if_neg e12] at h
  have d12 : (fn == 12) = false := by simp [e12]
  by_cases e13 : fn = 13
  case pos => rw [if_pos e13] at h; cases h
  case neg =>
  rw [if_neg e13] at h
  have d13 : (fn == 13) = false := by simp [e13]
  by_cases e14 : fn = 14
  case pos => rw [if_pos e14] at h; cases h
  case neg =>
  rw [if_neg e14] at h
  have d14 : (fn == 14) = false := by simp [e14]
  by_cases e16 : fn = 16
  case pos => rw [if_pos e16] at h; cases h
  case neg =>
  rw [if_neg e16] at h
  have d16 : (fn == 16) = false := by simp [e16]
  clear h e24 e25 e26 e27 e12 e13 e14 e16
  go_enter Tryz.func152, Tryz.ntmps152
  go_wp2
  refine bodyPost_ret (v := .tuple #[.int .i64 0, .bool false]) (by simp [results, Tryz.results152, go_sem]) rfl ⟨rfl, rfl⟩
theorem ofTwoN_in {fn op : Int} (h : ofTwoN fn = some op) : 0 ≤ op ∧ op ≤ 7 := by
  unfold ofTwoN at h
  repeat' split at h
  all_goals simp at h
  all_goals omega

def ofOneN (fn : Int) : Option Int := if fn = 28 then some 0 else if fn = 1 then some 1 else if fn = 2 then some 2 else if fn = 3 then some 3 else if fn = 4 then some 4 else none
set_option maxHeartbeats 1000000 in
theorem ofOne_some (fn op : Int) (w : World) (h : ofOneN fn = some op) : Calls Tryz.prog 153 #[.int .i64 fn] w fun e w' => e = .returned (.tuple #[.int .i64 op, .bool true]) ∧ w' = w := by
  unfold ofOneN at h
  by_cases e28 : fn = 28
  case pos =>
    subst e28
    obtain rfl : 0 = op := by simpa using h
    clear h
    go_enter Tryz.func153, Tryz.ntmps153
    go_wp2
    refine bodyPost_ret (v := .tuple #[.int .i64 0, .bool true]) (by simp [results, Tryz.results153, go_sem]) rfl ⟨rfl, rfl⟩
  case neg =>
  rw [if_neg e28] at h
  by_cases e1 : fn = 1
  case pos =>
    subst e1
    obtain rfl : 1 = op := by simpa using h
    clear h
    go_enter Tryz.func153, Tryz.ntmps153
    go_wp2
    refine bodyPost_ret (v := .tuple #[.int .i64 1, .bool true]) (by simp [results, Tryz.results153, go_sem]) rfl ⟨rfl, rfl⟩
  case neg =>
  rw [if_neg e1] at h
  by_cases e2 : fn = 2
  case pos =>
    subst e2
    obtain rfl : 2 = op := by simpa using h
    clear h
    go_enter Tryz.func153, Tryz.ntmps153
    go_wp2
    refine bodyPost_ret (v := .tuple #[.int .i64 2, .bool true]) (by simp [results, Tryz.results153, go_sem]) rfl ⟨rfl, rfl⟩
  case neg =>
  rw [if_neg e2] at h
  by_cases e3 : fn = 3
  case pos =>
    subst e3
    obtain rfl : 3 = op := by simpa using h
    clear h
    go_enter Tryz.func153, Tryz.ntmps153
    go_wp2
    refine bodyPost_ret (v := .tuple #[.int .i64 3, .bool true]) (by simp [results, Tryz.results153, go_sem]) rfl ⟨rfl, rfl⟩
  case neg =>
  rw [if_neg e3] at h
  by_cases e4 : fn = 4
  case pos =>
    subst e4
    obtain rfl : 4 = op := by simpa using h
    clear h
    go_enter Tryz.func153, Tryz.ntmps153
    go_wp2
    refine bodyPost_ret (v := .tuple #[.int .i64 4, .bool true]) (by simp [results, Tryz.results153, go_sem]) rfl ⟨rfl, rfl⟩
  case neg =>
  rw [if_neg e4] at h
  cases h

set_option maxHeartbeats 1000000 in
theorem ofOne_none (fn : Int) (w : World) (h : ofOneN fn = none) : Calls Tryz.prog 153 #[.int .i64 fn] w fun e w' => e = .returned (.tuple #[.int .i64 0, .bool false]) ∧ w' = w := by
  unfold ofOneN at h
  by_cases e28 : fn = 28
  case pos => rw [if_pos e28] at h; cases h
  case neg =>
  rw [if_neg e28] at h
  have d28 : (fn == 28) = false := by simp [e28]
  by_cases e1 : fn = 1
  case pos => rw [if_pos e1] at h; cases h
  case neg =>
  rw [if_neg e1] at h
  have d1 : (fn == 1) = false := by simp [e1]
  by_cases e2 : fn = 2
  case pos => rw [if_pos e2] at h; cases h
  case neg =>
  rw [if_neg e2] at h
  have d2 : (fn == 2) = false := by simp [e2]
  by_cases e3 : fn = 3
  case pos => rw [if_pos e3] at h; cases h
  case neg =>
  rw [if_neg e3] at h
  have d3 : (fn == 3) = false := by simp [e3]
  by_cases e4 : fn = 4
  case pos => rw [if_pos e4] at h; cases h
  case neg =>
  rw [if_neg e4] at h
  have d4 : (fn == 4) = false := by simp [e4]
  clear h e28 e1 e2 e3 e4
  go_enter Tryz.func153, Tryz.ntmps153
  go_wp2
  refine bodyPost_ret (v := .tuple #[.int .i64 0, .bool false]) (by simp [results, Tryz.results153, go_sem]) rfl ⟨rfl, rfl⟩
theorem ofOneN_in {fn op : Int} (h : ofOneN fn = some op) : 0 ≤ op ∧ op ≤ 4 := by
  unfold ofOneN at h
  repeat' split at h
  all_goals simp at h
  all_goals omega

def mtI (fn n : Int) (a b : Nat → Int) : Nat → Int := if fn = 5 then cut n (fun i => sqrtI (a i)) else if fn = 6 then cut n (fun i => invI (a i)) else if fn = 7 then cut n (fun i => exp2I (a i)) else if fn = 8 then cut n (fun i => log2I (a i)) else if fn = 9 then cut n (fun i => sinI (a i)) else if fn = 10 then cut n (fun i => cosI (a i)) else cut n (fun i => powerI (a i) (b i))
theorem mt5_any (x : Int) (w : World) (h : I32 x) : Calls Tryz.prog 183 #[.int .i32 x] w fun e w' => e = .returned (.int .i32 (sqrtI x)) ∧ Ext w w' := by
  refine (sqrt_any x w h).mono ?_
  rintro e w1 ⟨rfl, rfl⟩
  exact ⟨rfl, Ext.refl _⟩
theorem mt5_enters : ∀ args w, (callFunc 183 args).run Tryz.prog w = .ok (.enter 183 args) w := enters_of Tryz.func183 (by kernel_rfl) rfl
theorem mt6_any (x : Int) (w : World) (h : I32 x) : Calls Tryz.prog 184 #[.int .i32 x] w fun e w' => e = .returned (.int .i32 (invI x)) ∧ Ext w w' := by
  refine (invSqrt_any x w h).mono ?_
  rintro e w1 ⟨rfl, rfl⟩
  exact ⟨rfl, Ext.refl _⟩
theorem mt6_enters : ∀ args w, (callFunc 184 args).run Tryz.prog w = .ok (.enter 184 args) w := enters_of Tryz.func184 (by kernel_rfl) rfl
theorem mt7_any (x : Int) (w : World) (h : I32 x) : Calls Tryz.prog 185 #[.int .i32 x] w fun e w' => e = .returned (.int .i32 (exp2I x)) ∧ Ext w w' := by
  refine (exp2_any x w h).mono ?_
  rintro e w1 ⟨rfl, hx⟩
  exact ⟨rfl, hx⟩
theorem mt7_enters : ∀ args w, (callFunc 185 args).run Tryz.prog w = .ok (.enter 185 args) w := enters_of Tryz.func185 (by kernel_rfl) rfl
theorem mt8_any (x : Int) (w : World) (h : I32 x) : Calls Tryz.prog 186 #[.int .i32 x] w fun e w' => e = .returned (.int .i32 (log2I x)) ∧ Ext w w' := by
  refine (log2_any x w h).mono ?_
  rintro e w1 ⟨rfl, m, rfl⟩
  exact ⟨rfl, (Ext.refl _).drewN _⟩
theorem mt8_enters : ∀ args w, (callFunc 186 args).run Tryz.prog w = .ok (.enter 186 args) w := enters_of Tryz.func186 (by kernel_rfl) rfl
theorem mt9_any (x : Int) (w : World) (h : I32 x) : Calls Tryz.prog 187 #[.int .i32 x] w fun e w' => e = .returned (.int .i32 (sinI x)) ∧ Ext w w' := by
  refine (sin_any x w h).mono ?_
  rintro e w1 ⟨rfl, rfl⟩
  exact ⟨rfl, Ext.refl _⟩
theorem mt9_enters : ∀ args w, (callFunc 187 args).run Tryz.prog w = .ok (.enter 187 args) w := enters_of Tryz.func187 (by kernel_rfl) rfl
theorem mt10_any (x : Int) (w : World) (h : I32 x) : Calls Tryz.prog 188 #[.int .i32 x] w fun e w' => e = .returned (.int .i32 (cosI x)) ∧ Ext w w' := by
  refine (cos_any x w h).mono ?_
  rintro e w1 ⟨rfl, rfl⟩
  exact ⟨rfl, Ext.refl _⟩
theorem mt10_enters : ∀ args w, (callFunc 188 args).run Tryz.prog w = .ok (.enter 188 args) w := enters_of Tryz.func188 (by kernel_rfl) rfl
theorem mtp_enters : ∀ args w, (callFunc 189 args).run Tryz.prog w = .ok (.enter 189 args) w := enters_of Tryz.func189 (by kernel_rfl) rfl

set_option maxRecDepth 10000 in
set_option maxHeartbeats 4000000 in
theorem ofMaths_any (fn n : Int) (a b : Nat → Int) (w : World) (h1 : 1 ≤ n) (h4 : n ≤ 4) (Ia : ∀ i, I32 (a i)) (Ib : ∀ i, I32 (b i)) :
    Calls Tryz.prog 155 #[.int .i64 fn, .int .i64 n, .agg #[.int .i32 (a 0), .int .i32 (a 1), .int .i32 (a 2), .int .i32 (a 3)], .agg #[.int .i32 (b 0), .int .i32 (b 1), .int .i32 (b 2), .int .i32 (b 3)]] w fun e w' => e = .returned (.agg #[.int .i32 (mtI fn n a b 0), .int .i32 (mtI fn n a b 1), .int .i32 (mtI fn n a b 2), .int .i32 (mtI fn n a b 3)]) ∧ Ext w w' := by
  have HI := hide (And.intro Ia Ib)
  clear Ia Ib
  have HB := hide (show Blk (((w.alloc (.cells #[.int .i32 (a 0), .int .i32 (a 1), .int .i32 (a 2), .int .i32 (a 3)] 28)).alloc (.cells #[.int .i32 (b 0), .int .i32 (b 1), .int .i32 (b 2), .int .i32 (b 3)] 28)).alloc (.cells #[.int .i32 (nul 0), .int .i32 (nul 1), .int .i32 (nul 2), .int .i32 (nul 3)] 28)) (w.heap.size + 1 + 1) #[.int .i32 (nul 0), .int .i32 (nul 1), .int .i32 (nul 2), .int .i32 (nul 3)] 28 ∧ Ext w (((w.alloc (.cells #[.int .i32 (a 0), .int .i32 (a 1), .int .i32 (a 2), .int .i32 (a 3)] 28)).alloc (.cells #[.int .i32 (b 0), .int .i32 (b 1), .int .i32 (b 2), .int .i32 (b 3)] 28)).alloc (.cells #[.int .i32 (nul 0), .int .i32 (nul 1), .int .i32 (nul 2), .int .i32 (nul 3)] 28)) from ⟨Blk.at (by simp), ((((Ext.refl w).alloc _).alloc _).alloc _)⟩)
  by_cases e5 : fn = 5
  case pos =>
    subst e5
    have E : Hid (mtI 5 n a b = cut n (fun i => sqrtI (a i))) := rfl
    go_enter Tryz.func155, Tryz.ntmps155
    go_wp2_with (go_at_call 104; refine (byOne_any n 183 sqrtI a _ h1 h4 mt5_enters (fun x W hx => mt5_any x W hx) (unhide HI).1).mono ?_; rintro e w1 ⟨rfl, hx⟩; have R := hide (And.intro ((unhide HB).1.ext hx) ((unhide HB).2.trans hx)); clear hx HB; obtain ⟨r0, r1, r2, r3⟩ := (unhide R).1.vec4; obtain ⟨f0, f1, f2, f3⟩ := (unhide R).1.free4)
    obtain ⟨q0, q1, q2, q3⟩ := lay4 (unhide R).1 (.int .i32 ((cut n (fun i => sqrtI (a i))) 0)) (.int .i32 ((cut n (fun i => sqrtI (a i))) 1)) (.int .i32 ((cut n (fun i => sqrtI (a i))) 2)) (.int .i32 ((cut n (fun i => sqrtI (a i))) 3))
    refine bodyPost_ret (v := .agg #[.int .i32 ((cut n (fun i => sqrtI (a i))) 0), .int .i32 ((cut n (fun i => sqrtI (a i))) 1), .int .i32 ((cut n (fun i => sqrtI (a i))) 2), .int .i32 ((cut n (fun i => sqrtI (a i))) 3)]) (by simp [results, Tryz.results155, go_sem, q0, q1, q2, q3]) rfl ⟨by rw [unhide E], ext_set4 (unhide R).2 (by omega)⟩
  case neg =>
  have d5 : (fn == 5) = false := by simp [e5]
  by_cases e6 : fn = 6
  case pos =>
    subst e6
    have E : Hid (mtI 6 n a b = cut n (fun i => invI (a i))) := rfl
    go_enter Tryz.func155, Tryz.ntmps155
    go_wp2_with (go_at_call 104; refine (byOne_any n 184 invI a _ h1 h4 mt6_enters (fun x W hx => mt6_any x W hx) (unhide HI).1).mono ?_; rintro e w1 ⟨rfl, hx⟩; have R := hide (And.intro ((unhide HB).1.ext hx) ((unhide HB).2.trans hx)); clear hx HB; obtain ⟨r0, r1, r2, r3⟩ := (unhide R).1.vec4; obtain ⟨f0, f1, f2, f3⟩ := (unhide R).1.free4)
    obtain ⟨q0, q1, q2, q3⟩ := lay4 (unhide R).1 (.int .i32 ((cut n (fun i => invI (a i))) 0)) (.int .i32 ((cut n (fun i => invI (a i))) 1)) (.int .i32 ((cut n (fun i => invI (a i))) 2)) (.int .i32 ((cut n (fun i => invI (a i))) 3))
    refine bodyPost_ret (v := .agg #[.int .i32 ((cut n (fun i => invI (a i))) 0), .int .i32 ((cut n (fun i => invI (a i))) 1), .int .i32 ((cut n (fun i => invI (a i))) 2), .int .i32 ((cut n (fun i => invI (a i))) 3)]) (by simp [results, Tryz.results155, go_sem, q0, q1, q2, q3]) rfl ⟨by rw [unhide E], ext_set4 (unhide R).2 (by omega)⟩
  case neg =>
  have d6 : (fn == 6) = false := by simp [e6]
  by_cases e7 : fn = 7
  case pos =>
    subst e7
    have E : Hid (mtI 7 n a b = cut n (fun i => exp2I (a i))) := rfl
    go_enter Tryz.func155, Tryz.ntmps155
    go_wp2_with (go_at_call 104; refine (byOne_any n 185 exp2I a _ h1 h4 mt7_enters (fun x W hx => mt7_any x W hx) (unhide HI).1).mono ?_; rintro e w1 ⟨rfl, hx⟩; have R := hide (And.intro ((unhide HB).1.ext hx) ((unhide HB).2.trans hx)); clear hx HB; obtain ⟨r0, r1, r2, r3⟩ := (unhide R).1.vec4; obtain ⟨f0, f1, f2, f3⟩ := (unhide R).1.free4)
    obtain ⟨q0, q1, q2, q3⟩ := lay4 (unhide R).1 (.int .i32 ((cut n (fun i => exp2I (a i))) 0)) (.int .i32 ((cut n (fun i => exp2I (a i))) 1)) (.int .i32 ((cut n (fun i => exp2I (a i))) 2)) (.int .i32 ((cut n (fun i => exp2I (a i))) 3))
    refine bodyPost_ret (v := .agg #[.int .i32 ((cut n (fun i => exp2I (a i))) 0), .int .i32 ((cut n (fun i => exp2I (a i))) 1), .int .i32 ((cut n (fun i => exp2I (a i))) 2), .int .i32 ((cut n (fun i => exp2I (a i))) 3)]) (by simp [results, Tryz.results155, go_sem, q0, q1, q2, q3]) rfl ⟨by rw [unhide E], ext_set4 (unhide R).2 (by omega)⟩
  case neg =>
  have d7 : (fn == 7) = false := by simp [e7]
  by_cases e8 : fn = 8
  case pos =>
    subst e8
    have E : Hid (mtI 8 n a b = cut n (fun i => log2I (a i))) := rfl
    go_enter Tryz.func155, Tryz.ntmps155
    go_wp2_with (go_at_call 104; refine (byOne_any n 186 log2I a _ h1 h4 mt8_enters (fun x W hx => mt8_any x W hx) (unhide HI).1).mono ?_; rintro e w1 ⟨rfl, hx⟩; have R := hide (And.intro ((unhide HB).1.ext hx) ((unhide HB).2.trans hx)); clear hx HB; obtain ⟨r0, r1, r2, r3⟩ := (unhide R).1.vec4; obtain ⟨f0, f1, f2, f3⟩ := (unhide R).1.free4)
    obtain ⟨q0, q1, q2, q3⟩ := lay4 (unhide R).1 (.int .i32 ((cut n (fun i => log2I (a i))) 0)) (.int .i32 ((cut n (fun i => log2I (a i))) 1)) (.int .i32 ((cut n (fun i => log2I (a i))) 2)) (.int .i32 ((cut n (fun i => log2I (a i))) 3))
    refine bodyPost_ret (v := .agg #[.int .i32 ((cut n (fun i => log2I (a i))) 0), .int .i32 ((cut n (fun i => log2I (a i))) 1), .int .i32 ((cut n (fun i => log2I (a i))) 2), .int .i32 ((cut n (fun i => log2I (a i))) 3)]) (by simp [results, Tryz.results155, go_sem, q0, q1, q2, q3]) rfl ⟨by rw [unhide E], ext_set4 (unhide R).2 (by omega)⟩
  case neg =>
  have d8 : (fn == 8) = false := by simp [e8]
  by_cases e9 : fn = 9
  case pos =>
    subst e9
    have E : Hid (mtI 9 n a b = cut n (fun i => sinI (a i))) := rfl
    go_enter Tryz.func155, Tryz.ntmps155
    go_wp2_with (go_at_call 104; refine (byOne_any n 187 sinI a _ h1 h4 mt9_enters (fun x W hx => mt9_any x W hx) (unhide HI).1).mono ?_; rintro e w1 ⟨rfl, hx⟩; have R := hide (And.intro ((unhide HB).1.ext hx) ((unhide HB).2.trans hx)); clear hx HB; obtain ⟨r0, r1, r2, r3⟩ := (unhide R).1.vec4; obtain ⟨f0, f1, f2, f3⟩ := (unhide R).1.free4)
    obtain ⟨q0, q1, q2, q3⟩ := lay4 (unhide R).1 (.int .i32 ((cut n (fun i => sinI (a i))) 0)) (.int .i32 ((cut n (fun i => sinI (a i))) 1)) (.int .i32 ((cut n (fun i => sinI (a i))) 2)) (.int .i32 ((cut n (fun i => sinI (a i))) 3))
    refine bodyPost_ret (v := .agg #[.int .i32 ((cut n (fun i => sinI (a i))) 0), .int .i32 ((cut n (fun i => sinI (a i))) 1), .int .i32 ((cut n (fun i => sinI (a i))) 2), .int .i32 ((cut n (fun i => sinI (a i))) 3)]) (by simp [results, Tryz.results155, go_sem, q0, q1, q2, q3]) rfl ⟨by rw [unhide E], ext_set4 (unhide R).2 (by omega)⟩
  case neg =>
  have d9 : (fn == 9) = false := by simp [e9]
  by_cases e10 : fn = 10
  case pos =>
    subst e10
    have E : Hid (mtI 10 n a b = cut n (fun i => cosI (a i))) := rfl
    go_enter Tryz.func155, Tryz.ntmps155
    go_wp2_with (go_at_call 104; refine (byOne_any n 188 cosI a _ h1 h4 mt10_enters (fun x W hx => mt10_any x W hx) (unhide HI).1).mono ?_; rintro e w1 ⟨rfl, hx⟩; have R := hide (And.intro ((unhide HB).1.ext hx) ((unhide HB).2.trans hx)); clear hx HB; obtain ⟨r0, r1, r2, r3⟩ := (unhide R).1.vec4; obtain ⟨f0, f1, f2, f3⟩ := (unhide R).1.free4)
    obtain ⟨q0, q1, q2, q3⟩ := lay4 (unhide R).1 (.int .i32 ((cut n (fun i => cosI (a i))) 0)) (.int .i32 ((cut n (fun i => cosI (a i))) 1)) (.int .i32 ((cut n (fun i => cosI (a i))) 2)) (.int .i32 ((cut n (fun i => cosI (a i))) 3))
    refine bodyPost_ret (v := .agg #[.int .i32 ((cut n (fun i => cosI (a i))) 0), .int .i32 ((cut n (fun i => cosI (a i))) 1), .int .i32 ((cut n (fun i => cosI (a i))) 2), .int .i32 ((cut n (fun i => cosI (a i))) 3)]) (by simp [results, Tryz.results155, go_sem, q0, q1, q2, q3]) rfl ⟨by rw [unhide E], ext_set4 (unhide R).2 (by omega)⟩
  case neg =>
  have d10 : (fn == 10) = false := by simp [e10]
  have E : Hid (mtI fn n a b = cut n (fun i => powerI (a i) (b i))) := by unfold mtI; rw [if_neg e5, if_neg e6, if_neg e7, if_neg e8, if_neg e9, if_neg e10]; trivial
  clear e5 e6 e7 e8 e9 e10
  go_enter Tryz.func155, Tryz.ntmps155
  go_wp2_with (go_at_call 99; refine (byTwo_any n 189 powerI a b _ h1 h4 mtp_enters (fun x y W hx hy => powOf_any x y W hx hy) (unhide HI).1 (unhide HI).2).mono ?_; rintro e w1 ⟨rfl, hx⟩; have R := hide (And.intro ((unhide HB).1.ext hx) ((unhide HB).2.trans hx)); clear hx HB; obtain ⟨r0, r1, r2, r3⟩ := (unhide R).1.vec4; obtain ⟨f0, f1, f2, f3⟩ := (unhide R).1.free4)
  obtain ⟨q0, q1, q2, q3⟩ := lay4 (unhide R).1 (.int .i32 ((cut n (fun i => powerI (a i) (b i))) 0)) (.int .i32 ((cut n (fun i => powerI (a i) (b i))) 1)) (.int .i32 ((cut n (fun i => powerI (a i) (b i))) 2)) (.int .i32 ((cut n (fun i => powerI (a i) (b i))) 3))
  refine bodyPost_ret (v := .agg #[.int .i32 ((cut n (fun i => powerI (a i) (b i))) 0), .int .i32 ((cut n (fun i => powerI (a i) (b i))) 1), .int .i32 ((cut n (fun i => powerI (a i) (b i))) 2), .int .i32 ((cut n (fun i => powerI (a i) (b i))) 3)]) (by simp [results, Tryz.results155, go_sem, q0, q1, q2, q3]) rfl ⟨by rw [unhide E], ext_set4 (unhide R).2 (by omega)⟩
end Go.Proofs.YtglfhmlcmffoaaaGreat

/-
  The machine of registers: what functions do to floats (byComponent, ofFloats). Written by mkvm.py.
-/
namespace Go.Proofs.YtglfhmlcmffoaaaGreat
open Go.RowKit
set_option linter.unusedVariables false
set_option linter.unusedSimpArgs false

/-- What a function does to floats by component. -/
def bcI (fn n : Int) (a b : Nat → Int) : Nat → Int :=
  match ofTwoN fn with
  | some op => cut n (fun i => twoI op (a i) (b i))
  | none => match ofOneN fn with
    | some op => cut n (fun i => oneI op (a i))
    | none => mtI fn n a b

set_option maxRecDepth 10000 in
set_option maxHeartbeats 4000000 in
theorem byComponent_any (fn n : Int) (a b : Nat → Int) (w : World) (h1 : 1 ≤ n) (h4 : n ≤ 4) (Ia : ∀ i, I32 (a i)) (Ib : ∀ i, I32 (b i)) :
    Calls Tryz.prog 112 #[.int .i64 fn, .int .i64 n, .agg #[.int .i32 (a 0), .int .i32 (a 1), .int .i32 (a 2), .int .i32 (a 3)], .agg #[.int .i32 (b 0), .int .i32 (b 1), .int .i32 (b 2), .int .i32 (b 3)]] w fun e w' => e = .returned (.agg #[.int .i32 (bcI fn n a b 0), .int .i32 (bcI fn n a b 1), .int .i32 (bcI fn n a b 2), .int .i32 (bcI fn n a b 3)]) ∧ Ext w w' := by
  have HI := hide (And.intro Ia Ib)
  clear Ia Ib
  have HB := hide (show Blk (((w.alloc (.cells #[.int .i32 (a 0), .int .i32 (a 1), .int .i32 (a 2), .int .i32 (a 3)] 28)).alloc (.cells #[.int .i32 (b 0), .int .i32 (b 1), .int .i32 (b 2), .int .i32 (b 3)] 28)).alloc (.cells #[.int .i32 (nul 0), .int .i32 (nul 1), .int .i32 (nul 2), .int .i32 (nul 3)] 28)) (w.heap.size + 1 + 1) #[.int .i32 (nul 0), .int .i32 (nul 1), .int .i32 (nul 2), .int .i32 (nul 3)] 28 ∧ Ext w (((w.alloc (.cells #[.int .i32 (a 0), .int .i32 (a 1), .int .i32 (a 2), .int .i32 (a 3)] 28)).alloc (.cells #[.int .i32 (b 0), .int .i32 (b 1), .int .i32 (b 2), .int .i32 (b 3)] 28)).alloc (.cells #[.int .i32 (nul 0), .int .i32 (nul 1), .int .i32 (nul 2), .int .i32 (nul 3)] 28)) from ⟨Blk.at (by simp), ((((Ext.refl w).alloc _).alloc _).alloc _)⟩)
  cases h2 : ofTwoN fn with
  | some op =>
    have E : Hid (bcI fn n a b = cut n (fun i => twoI op (a i) (b i))) := by unfold bcI; rw [h2]; trivial
    have hop := ofTwoN_in h2
    have H2 := hide h2
    clear h2
    go_enter Tryz.func112, Tryz.ntmps112
    go_wp2_with (first
      | (go_at_call 152; refine (ofTwo_some _ op _ (unhide H2)).mono ?_; rintro e w1 ⟨rfl, rfl⟩)
      | (go_at_call 146; refine (two_any op n a b _ hop.1 hop.2 h1 h4 (unhide HI).1 (unhide HI).2).mono ?_; rintro e w1 ⟨rfl, hx⟩; have R := hide (And.intro ((unhide HB).1.ext hx) ((unhide HB).2.trans hx)); clear hx HB; have R2 := hide (And.intro ((unhide R).1.alloc (.cells #[.int .i32 (cut n (fun i => twoI op (a i) (b i)) 0), .int .i32 (cut n (fun i => twoI op (a i) (b i)) 1), .int .i32 (cut n (fun i => twoI op (a i) (b i)) 2), .int .i32 (cut n (fun i => twoI op (a i) (b i)) 3)] 28)) ((unhide R).2.alloc (.cells #[.int .i32 (cut n (fun i => twoI op (a i) (b i)) 0), .int .i32 (cut n (fun i => twoI op (a i) (b i)) 1), .int .i32 (cut n (fun i => twoI op (a i) (b i)) 2), .int .i32 (cut n (fun i => twoI op (a i) (b i)) 3)] 28))); obtain ⟨r0, r1, r2, r3⟩ := (unhide R2).1.vec4; obtain ⟨f0, f1, f2, f3⟩ := (unhide R2).1.free4))
    obtain ⟨q0, q1, q2, q3⟩ := lay4 (unhide R2).1 (.int .i32 ((cut n (fun i => twoI op (a i) (b i))) 0)) (.int .i32 ((cut n (fun i => twoI op (a i) (b i))) 1)) (.int .i32 ((cut n (fun i => twoI op (a i) (b i))) 2)) (.int .i32 ((cut n (fun i => twoI op (a i) (b i))) 3))
    refine bodyPost_ret (v := .agg #[.int .i32 ((cut n (fun i => twoI op (a i) (b i))) 0), .int .i32 ((cut n (fun i => twoI op (a i) (b i))) 1), .int .i32 ((cut n (fun i => twoI op (a i) (b i))) 2), .int .i32 ((cut n (fun i => twoI op (a i) (b i))) 3)]) (by simp [results, Tryz.results112, go_sem, q0, q1, q2, q3]) rfl ⟨by rw [unhide E], ext_set4 (unhide R2).2 (by omega)⟩
  | none =>
    have H2 := hide h2
    cases h3 : ofOneN fn with
    | some op =>
      have E : Hid (bcI fn n a b = cut n (fun i => oneI op (a i))) := by unfold bcI; rw [h2, h3]; trivial
      have hop := ofOneN_in h3
      have H3 := hide h3
      clear h2 h3
      go_enter Tryz.func112, Tryz.ntmps112
      go_wp2_with (first
        | (go_at_call 152; refine (ofTwo_none _ _ (unhide H2)).mono ?_; rintro e w1 ⟨rfl, rfl⟩)
        | (go_at_call 153; refine (ofOne_some _ op _ (unhide H3)).mono ?_; rintro e w1 ⟨rfl, rfl⟩)
        | (go_at_call 154; refine (one_any op n a _ hop.1 hop.2 h1 h4 (unhide HI).1).mono ?_; rintro e w1 ⟨rfl, hx⟩; have R := hide (And.intro ((unhide HB).1.ext hx) ((unhide HB).2.trans hx)); clear hx HB; have R2 := hide (And.intro ((unhide R).1.alloc (.cells #[.int .i32 (cut n (fun i => oneI op (a i)) 0), .int .i32 (cut n (fun i => oneI op (a i)) 1), .int .i32 (cut n (fun i => oneI op (a i)) 2), .int .i32 (cut n (fun i => oneI op (a i)) 3)] 28)) ((unhide R).2.alloc (.cells #[.int .i32 (cut n (fun i => oneI op (a i)) 0), .int .i32 (cut n (fun i => oneI op (a i)) 1), .int .i32 (cut n (fun i => oneI op (a i)) 2), .int .i32 (cut n (fun i => oneI op (a i)) 3)] 28))); obtain ⟨r0, r1, r2, r3⟩ := (unhide R2).1.vec4; obtain ⟨f0, f1, f2, f3⟩ := (unhide R2).1.free4))
      obtain ⟨q0, q1, q2, q3⟩ := lay4 (unhide R2).1 (.int .i32 ((cut n (fun i => oneI op (a i))) 0)) (.int .i32 ((cut n (fun i => oneI op (a i))) 1)) (.int .i32 ((cut n (fun i => oneI op (a i))) 2)) (.int .i32 ((cut n (fun i => oneI op (a i))) 3))
      refine bodyPost_ret (v := .agg #[.int .i32 ((cut n (fun i => oneI op (a i))) 0), .int .i32 ((cut n (fun i => oneI op (a i))) 1), .int .i32 ((cut n (fun i => oneI op (a i))) 2), .int .i32 ((cut n (fun i => oneI op (a i))) 3)]) (by simp [results, Tryz.results112, go_sem, q0, q1, q2, q3]) rfl ⟨by rw [unhide E], ext_set4 (unhide R2).2 (by omega)⟩
    | none =>
      have E : Hid (bcI fn n a b = mtI fn n a b) := by unfold bcI; rw [h2, h3]; trivial
      have H3 := hide h3
      clear h2 h3
      go_enter Tryz.func112, Tryz.ntmps112
      go_wp2_with (first
        | (go_at_call 152; refine (ofTwo_none _ _ (unhide H2)).mono ?_; rintro e w1 ⟨rfl, rfl⟩)
        | (go_at_call 153; refine (ofOne_none _ _ (unhide H3)).mono ?_; rintro e w1 ⟨rfl, rfl⟩)
        | (go_at_call 155; refine (ofMaths_any fn n a b _ h1 h4 (unhide HI).1 (unhide HI).2).mono ?_; rintro e w1 ⟨rfl, hx⟩; have R := hide (And.intro ((unhide HB).1.ext hx) ((unhide HB).2.trans hx)); clear hx HB; obtain ⟨r0, r1, r2, r3⟩ := (unhide R).1.vec4; obtain ⟨f0, f1, f2, f3⟩ := (unhide R).1.free4))
      obtain ⟨q0, q1, q2, q3⟩ := lay4 (unhide R).1 (.int .i32 ((mtI fn n a b) 0)) (.int .i32 ((mtI fn n a b) 1)) (.int .i32 ((mtI fn n a b) 2)) (.int .i32 ((mtI fn n a b) 3))
      refine bodyPost_ret (v := .agg #[.int .i32 ((mtI fn n a b) 0), .int .i32 ((mtI fn n a b) 1), .int .i32 ((mtI fn n a b) 2), .int .i32 ((mtI fn n a b) 3)]) (by simp [results, Tryz.results112, go_sem, q0, q1, q2, q3]) rfl ⟨by rw [unhide E], ext_set4 (unhide R).2 (by omega)⟩

/-- A number alone. -/
def fstI (x : Int) : Nat → Int := fun i => if i = 0 then x else 0
def crsI (a b : Nat → Int) : Nat → Int := fun i => if i = 0 then crossI a b 1 2 else if i = 1 then crossI a b 2 0 else if i = 2 then crossI a b 0 1 else 0
/-- What a function does to floats. -/
def ofI (fn n : Int) (a b c : Nat → Int) : Nat → Int :=
  if fn = 17 then cut n (fun i => addI (a i) (mulI (subI (b i) (a i)) (c i)))
  else if fn = 18 then cut n (fun i => clampI (a i) (b i) (c i))
  else if fn = 19 then fstI (sumI (cut n (fun i => mulI (a i) (b i))) 4)
  else if fn = 20 then fstI (lengthI a n)
  else if fn = 21 then crsI a b
  else if fn = 11 then unitI a n
  else bcI fn n a b

set_option maxRecDepth 10000 in
set_option maxHeartbeats 8000000 in
theorem ofFloats_any (fn n : Int) (a b c : Nat → Int) (w : World) (h1 : 1 ≤ n) (h4 : n ≤ 4) (Ia : ∀ i, I32 (a i)) (Ib : ∀ i, I32 (b i)) (Ic : ∀ i, I32 (c i)) :
    Calls Tryz.prog 68 #[.int .i64 fn, .int .i64 n, .agg #[.int .i32 (a 0), .int .i32 (a 1), .int .i32 (a 2), .int .i32 (a 3)], .agg #[.int .i32 (b 0), .int .i32 (b 1), .int .i32 (b 2), .int .i32 (b 3)], .agg #[.int .i32 (c 0), .int .i32 (c 1), .int .i32 (c 2), .int .i32 (c 3)]] w fun e w' => e = .returned (.agg #[.int .i32 (ofI fn n a b c 0), .int .i32 (ofI fn n a b c 1), .int .i32 (ofI fn n a b c 2), .int .i32 (ofI fn n a b c 3)]) ∧ Ext w w' := by
  have HI := hide (And.intro Ia (And.intro Ib Ic))
  clear Ia Ib Ic
  have HB := hide (show Blk (((((w.alloc (.cells #[.int .i32 (a 0), .int .i32 (a 1), .int .i32 (a 2), .int .i32 (a 3)] 28)).alloc (.cells #[.int .i32 (b 0), .int .i32 (b 1), .int .i32 (b 2), .int .i32 (b 3)] 28)).alloc (.cells #[.int .i32 (c 0), .int .i32 (c 1), .int .i32 (c 2), .int .i32 (c 3)] 28)).alloc (.cells #[.int .i32 (nul 0), .int .i32 (nul 1), .int .i32 (nul 2), .int .i32 (nul 3)] 28)).alloc (.cells #[.int .i32 (nul 0), .int .i32 (nul 1), .int .i32 (nul 2), .int .i32 (nul 3)] 28)) (w.heap.size + 1 + 1 + 1) #[.int .i32 (nul 0), .int .i32 (nul 1), .int .i32 (nul 2), .int .i32 (nul 3)] 28 ∧ Blk (((((w.alloc (.cells #[.int .i32 (a 0), .int .i32 (a 1), .int .i32 (a 2), .int .i32 (a 3)] 28)).alloc (.cells #[.int .i32 (b 0), .int .i32 (b 1), .int .i32 (b 2), .int .i32 (b 3)] 28)).alloc (.cells #[.int .i32 (c 0), .int .i32 (c 1), .int .i32 (c 2), .int .i32 (c 3)] 28)).alloc (.cells #[.int .i32 (nul 0), .int .i32 (nul 1), .int .i32 (nul 2), .int .i32 (nul 3)] 28)).alloc (.cells #[.int .i32 (nul 0), .int .i32 (nul 1), .int .i32 (nul 2), .int .i32 (nul 3)] 28)) (w.heap.size + 1 + 1 + 1 + 1) #[.int .i32 (nul 0), .int .i32 (nul 1), .int .i32 (nul 2), .int .i32 (nul 3)] 28 ∧ Ext w (((((w.alloc (.cells #[.int .i32 (a 0), .int .i32 (a 1), .int .i32 (a 2), .int .i32 (a 3)] 28)).alloc (.cells #[.int .i32 (b 0), .int .i32 (b 1), .int .i32 (b 2), .int .i32 (b 3)] 28)).alloc (.cells #[.int .i32 (c 0), .int .i32 (c 1), .int .i32 (c 2), .int .i32 (c 3)] 28)).alloc (.cells #[.int .i32 (nul 0), .int .i32 (nul 1), .int .i32 (nul 2), .int .i32 (nul 3)] 28)).alloc (.cells #[.int .i32 (nul 0), .int .i32 (nul 1), .int .i32 (nul 2), .int .i32 (nul 3)] 28)) from ⟨(Blk.at (by simp)).alloc _, Blk.at (by simp), ((((((Ext.refl w).alloc _).alloc _).alloc _).alloc _).alloc _)⟩)
  by_cases e17 : fn = 17
  case pos =>
    subst e17
    have E : Hid (ofI 17 n a b c = cut n (fun i => addI (a i) (mulI (subI (b i) (a i)) (c i)))) := rfl
    go_enter Tryz.func68, Tryz.ntmps68
    go_wp2_with (go_at_call 106; refine (mixV_any n a b c _ h1 h4 (unhide HI).1 (unhide HI).2.1 (unhide HI).2.2).mono ?_; rintro e w1 ⟨rfl, hx⟩; have R := hide (And.intro ((unhide HB).1.ext hx) (And.intro ((unhide HB).2.1.ext hx) ((unhide HB).2.2.trans hx))); clear hx HB; obtain ⟨s0, s1, s2, s3⟩ := (unhide R).2.1.vec4; obtain ⟨g0, g1, g2, g3⟩ := (unhide R).2.1.free4; obtain ⟨r0, r1, r2, r3⟩ := (unhide R).1.vec4; obtain ⟨f0, f1, f2, f3⟩ := (unhide R).1.free4; obtain ⟨p0, p1, p2, p3⟩ := lay4 (unhide R).2.1 (.int .i32 (cut n (fun i => addI (a i) (mulI (subI (b i) (a i)) (c i))) 0)) (.int .i32 (cut n (fun i => addI (a i) (mulI (subI (b i) (a i)) (c i))) 1)) (.int .i32 (cut n (fun i => addI (a i) (mulI (subI (b i) (a i)) (c i))) 2)) (.int .i32 (cut n (fun i => addI (a i) (mulI (subI (b i) (a i)) (c i))) 3)))
    obtain ⟨q0, q1, q2, q3⟩ := lay4 (a := nul) (((((unhide R).1.other (r := (w.heap.size + 1 + 1 + 1 + 1)) 0 (.int .i32 (cut n (fun i => addI (a i) (mulI (subI (b i) (a i)) (c i))) 0)) (by omega)).other (r := (w.heap.size + 1 + 1 + 1 + 1)) 1 (.int .i32 (cut n (fun i => addI (a i) (mulI (subI (b i) (a i)) (c i))) 1)) (by omega)).other (r := (w.heap.size + 1 + 1 + 1 + 1)) 2 (.int .i32 (cut n (fun i => addI (a i) (mulI (subI (b i) (a i)) (c i))) 2)) (by omega)).other (r := (w.heap.size + 1 + 1 + 1 + 1)) 3 (.int .i32 (cut n (fun i => addI (a i) (mulI (subI (b i) (a i)) (c i))) 3)) (by omega)) (.int .i32 (cut n (fun i => addI (a i) (mulI (subI (b i) (a i)) (c i))) 0)) (.int .i32 (cut n (fun i => addI (a i) (mulI (subI (b i) (a i)) (c i))) 1)) (.int .i32 (cut n (fun i => addI (a i) (mulI (subI (b i) (a i)) (c i))) 2)) (.int .i32 (cut n (fun i => addI (a i) (mulI (subI (b i) (a i)) (c i))) 3))
    refine bodyPost_ret (v := .agg #[.int .i32 (cut n (fun i => addI (a i) (mulI (subI (b i) (a i)) (c i))) 0), .int .i32 (cut n (fun i => addI (a i) (mulI (subI (b i) (a i)) (c i))) 1), .int .i32 (cut n (fun i => addI (a i) (mulI (subI (b i) (a i)) (c i))) 2), .int .i32 (cut n (fun i => addI (a i) (mulI (subI (b i) (a i)) (c i))) 3)]) (by simp [results, Tryz.results68, go_sem, q0, q1, q2, q3]) rfl ⟨by rw [unhide E] <;> rfl, ext_set4 (ext_set4 (unhide R).2.2 (by omega)) (by omega)⟩
  case neg =>
  have d17 : (fn == 17) = false := by simp [e17]
  by_cases e18 : fn = 18
  case pos =>
    subst e18
    have E : Hid (ofI 18 n a b c = cut n (fun i => clampI (a i) (b i) (c i))) := rfl
    go_enter Tryz.func68, Tryz.ntmps68
    go_wp2_with (go_at_call 107; refine (clampV_any n a b c _ h1 h4).mono ?_; rintro e w1 ⟨rfl, hx⟩; have R := hide (And.intro ((unhide HB).1.ext hx) (And.intro ((unhide HB).2.1.ext hx) ((unhide HB).2.2.trans hx))); clear hx HB; obtain ⟨s0, s1, s2, s3⟩ := (unhide R).2.1.vec4; obtain ⟨g0, g1, g2, g3⟩ := (unhide R).2.1.free4; obtain ⟨r0, r1, r2, r3⟩ := (unhide R).1.vec4; obtain ⟨f0, f1, f2, f3⟩ := (unhide R).1.free4; obtain ⟨p0, p1, p2, p3⟩ := lay4 (unhide R).2.1 (.int .i32 (cut n (fun i => clampI (a i) (b i) (c i)) 0)) (.int .i32 (cut n (fun i => clampI (a i) (b i) (c i)) 1)) (.int .i32 (cut n (fun i => clampI (a i) (b i) (c i)) 2)) (.int .i32 (cut n (fun i => clampI (a i) (b i) (c i)) 3)))
    obtain ⟨q0, q1, q2, q3⟩ := lay4 (a := nul) (((((unhide R).1.other (r := (w.heap.size + 1 + 1 + 1 + 1)) 0 (.int .i32 (cut n (fun i => clampI (a i) (b i) (c i)) 0)) (by omega)).other (r := (w.heap.size + 1 + 1 + 1 + 1)) 1 (.int .i32 (cut n (fun i => clampI (a i) (b i) (c i)) 1)) (by omega)).other (r := (w.heap.size + 1 + 1 + 1 + 1)) 2 (.int .i32 (cut n (fun i => clampI (a i) (b i) (c i)) 2)) (by omega)).other (r := (w.heap.size + 1 + 1 + 1 + 1)) 3 (.int .i32 (cut n (fun i => clampI (a i) (b i) (c i)) 3)) (by omega)) (.int .i32 (cut n (fun i => clampI (a i) (b i) (c i)) 0)) (.int .i32 (cut n (fun i => clampI (a i) (b i) (c i)) 1)) (.int .i32 (cut n (fun i => clampI (a i) (b i) (c i)) 2)) (.int .i32 (cut n (fun i => clampI (a i) (b i) (c i)) 3))
    refine bodyPost_ret (v := .agg #[.int .i32 (cut n (fun i => clampI (a i) (b i) (c i)) 0), .int .i32 (cut n (fun i => clampI (a i) (b i) (c i)) 1), .int .i32 (cut n (fun i => clampI (a i) (b i) (c i)) 2), .int .i32 (cut n (fun i => clampI (a i) (b i) (c i)) 3)]) (by simp [results, Tryz.results68, go_sem, q0, q1, q2, q3]) rfl ⟨by rw [unhide E] <;> rfl, ext_set4 (ext_set4 (unhide R).2.2 (by omega)) (by omega)⟩
  case neg =>
  have d18 : (fn == 18) = false := by simp [e18]
  by_cases e19 : fn = 19
  case pos =>
    subst e19
    have E : Hid (ofI 19 n a b c = fstI (sumI (cut n (fun i => mulI (a i) (b i))) 4)) := rfl
    go_enter Tryz.func68, Tryz.ntmps68
    go_wp2_with (go_at_call 108; refine (dot_any n a b _ h1 h4 (unhide HI).1 (unhide HI).2.1).mono ?_; rintro e w1 ⟨rfl, hx⟩; have R := hide (And.intro ((unhide HB).1.ext hx) (And.intro ((unhide HB).2.1.ext hx) ((unhide HB).2.2.trans hx))); clear hx HB; obtain ⟨s0, s1, s2, s3⟩ := (unhide R).2.1.vec4; obtain ⟨g0, g1, g2, g3⟩ := (unhide R).2.1.free4; obtain ⟨r0, r1, r2, r3⟩ := (unhide R).1.vec4; obtain ⟨f0, f1, f2, f3⟩ := (unhide R).1.free4; have p0 : (w1.setCell ⟨(w.heap.size + 1 + 1 + 1 + 1), 0, none⟩ (.int .i32 (sumI (cut n (fun i => mulI (a i) (b i))) 4))).cell? ⟨(w.heap.size + 1 + 1 + 1 + 1), 0, none⟩ = some (.int .i32 (sumI (cut n (fun i => mulI (a i) (b i))) 4)) := ((unhide R).2.1.set 0 _).cell rfl)
    obtain ⟨q0, q1, q2, q3⟩ := lay4 (a := nul) ((unhide R).1.other (r := (w.heap.size + 1 + 1 + 1 + 1)) 0 (.int .i32 (sumI (cut n (fun i => mulI (a i) (b i))) 4)) (by omega)) (.int .i32 (sumI (cut n (fun i => mulI (a i) (b i))) 4)) (.int .i32 (nul 1)) (.int .i32 (nul 2)) (.int .i32 (nul 3))
    refine bodyPost_ret (v := .agg #[.int .i32 (sumI (cut n (fun i => mulI (a i) (b i))) 4), .int .i32 (nul 1), .int .i32 (nul 2), .int .i32 (nul 3)]) (by simp [results, Tryz.results68, go_sem, q0, q1, q2, q3]) rfl ⟨by rw [unhide E] <;> rfl, ext_set4 (ext_set (unhide R).2.2 (by omega)) (by omega)⟩
  case neg =>
  have d19 : (fn == 19) = false := by simp [e19]
  by_cases e20 : fn = 20
  case pos =>
    subst e20
    have E : Hid (ofI 20 n a b c = fstI (lengthI a n)) := rfl
    go_enter Tryz.func68, Tryz.ntmps68
    go_wp2_with (go_at_call 109; refine (length_any a n _ (unhide HI).1).mono ?_; rintro e w1 ⟨rfl, hx⟩; have R := hide (And.intro ((unhide HB).1.ext hx) (And.intro ((unhide HB).2.1.ext hx) ((unhide HB).2.2.trans hx))); clear hx HB; obtain ⟨s0, s1, s2, s3⟩ := (unhide R).2.1.vec4; obtain ⟨g0, g1, g2, g3⟩ := (unhide R).2.1.free4; obtain ⟨r0, r1, r2, r3⟩ := (unhide R).1.vec4; obtain ⟨f0, f1, f2, f3⟩ := (unhide R).1.free4; have p0 : (w1.setCell ⟨(w.heap.size + 1 + 1 + 1 + 1), 0, none⟩ (.int .i32 (lengthI a n))).cell? ⟨(w.heap.size + 1 + 1 + 1 + 1), 0, none⟩ = some (.int .i32 (lengthI a n)) := ((unhide R).2.1.set 0 _).cell rfl)
    obtain ⟨q0, q1, q2, q3⟩ := lay4 (a := nul) ((unhide R).1.other (r := (w.heap.size + 1 + 1 + 1 + 1)) 0 (.int .i32 (lengthI a n)) (by omega)) (.int .i32 (lengthI a n)) (.int .i32 (nul 1)) (.int .i32 (nul 2)) (.int .i32 (nul 3))
    refine bodyPost_ret (v := .agg #[.int .i32 (lengthI a n), .int .i32 (nul 1), .int .i32 (nul 2), .int .i32 (nul 3)]) (by simp [results, Tryz.results68, go_sem, q0, q1, q2, q3]) rfl ⟨by rw [unhide E] <;> rfl, ext_set4 (ext_set (unhide R).2.2 (by omega)) (by omega)⟩
  case neg =>
  have d20 : (fn == 20) = false := by simp [e20]
  by_cases e21 : fn = 21
  case pos =>
    subst e21
    have E : Hid (ofI 21 n a b c = crsI a b) := rfl
    go_enter Tryz.func68, Tryz.ntmps68
    go_wp2_with (go_at_call 110; refine (crossV_any a b _ (unhide HI).1 (unhide HI).2.1).mono ?_; rintro e w1 ⟨rfl, hx⟩; have R := hide (And.intro ((unhide HB).1.ext hx) (And.intro ((unhide HB).2.1.ext hx) ((unhide HB).2.2.trans hx))); clear hx HB; obtain ⟨s0, s1, s2, s3⟩ := (unhide R).2.1.vec4; obtain ⟨g0, g1, g2, g3⟩ := (unhide R).2.1.free4; obtain ⟨r0, r1, r2, r3⟩ := (unhide R).1.vec4; obtain ⟨f0, f1, f2, f3⟩ := (unhide R).1.free4; obtain ⟨p0, p1, p2, p3⟩ := lay4 (unhide R).2.1 (.int .i32 (crossI a b 1 2)) (.int .i32 (crossI a b 2 0)) (.int .i32 (crossI a b 0 1)) (.int .i32 0))
    obtain ⟨q0, q1, q2, q3⟩ := lay4 (a := nul) (((((unhide R).1.other (r := (w.heap.size + 1 + 1 + 1 + 1)) 0 (.int .i32 (crossI a b 1 2)) (by omega)).other (r := (w.heap.size + 1 + 1 + 1 + 1)) 1 (.int .i32 (crossI a b 2 0)) (by omega)).other (r := (w.heap.size + 1 + 1 + 1 + 1)) 2 (.int .i32 (crossI a b 0 1)) (by omega)).other (r := (w.heap.size + 1 + 1 + 1 + 1)) 3 (.int .i32 0) (by omega)) (.int .i32 (crossI a b 1 2)) (.int .i32 (crossI a b 2 0)) (.int .i32 (crossI a b 0 1)) (.int .i32 0)
    refine bodyPost_ret (v := .agg #[.int .i32 (crossI a b 1 2), .int .i32 (crossI a b 2 0), .int .i32 (crossI a b 0 1), .int .i32 0]) (by simp [results, Tryz.results68, go_sem, q0, q1, q2, q3]) rfl ⟨by rw [unhide E] <;> rfl, ext_set4 (ext_set4 (unhide R).2.2 (by omega)) (by omega)⟩
  case neg =>
  have d21 : (fn == 21) = false := by simp [e21]
  by_cases e11 : fn = 11
  case pos =>
    subst e11
    have E : Hid (ofI 11 n a b c = unitI a n) := rfl
    go_enter Tryz.func68, Tryz.ntmps68
    go_wp2_with (go_at_call 111; refine (normalize_any a n _ (unhide HI).1).mono ?_; rintro e w1 ⟨rfl, hx⟩; have R := hide (And.intro ((unhide HB).1.ext hx) (And.intro ((unhide HB).2.1.ext hx) ((unhide HB).2.2.trans hx))); clear hx HB; obtain ⟨s0, s1, s2, s3⟩ := (unhide R).2.1.vec4; obtain ⟨g0, g1, g2, g3⟩ := (unhide R).2.1.free4; obtain ⟨r0, r1, r2, r3⟩ := (unhide R).1.vec4; obtain ⟨f0, f1, f2, f3⟩ := (unhide R).1.free4; obtain ⟨p0, p1, p2, p3⟩ := lay4 (unhide R).2.1 (.int .i32 (unitI a n 0)) (.int .i32 (unitI a n 1)) (.int .i32 (unitI a n 2)) (.int .i32 (unitI a n 3)))
    obtain ⟨q0, q1, q2, q3⟩ := lay4 (a := nul) (((((unhide R).1.other (r := (w.heap.size + 1 + 1 + 1 + 1)) 0 (.int .i32 (unitI a n 0)) (by omega)).other (r := (w.heap.size + 1 + 1 + 1 + 1)) 1 (.int .i32 (unitI a n 1)) (by omega)).other (r := (w.heap.size + 1 + 1 + 1 + 1)) 2 (.int .i32 (unitI a n 2)) (by omega)).other (r := (w.heap.size + 1 + 1 + 1 + 1)) 3 (.int .i32 (unitI a n 3)) (by omega)) (.int .i32 (unitI a n 0)) (.int .i32 (unitI a n 1)) (.int .i32 (unitI a n 2)) (.int .i32 (unitI a n 3))
    refine bodyPost_ret (v := .agg #[.int .i32 (unitI a n 0), .int .i32 (unitI a n 1), .int .i32 (unitI a n 2), .int .i32 (unitI a n 3)]) (by simp [results, Tryz.results68, go_sem, q0, q1, q2, q3]) rfl ⟨by rw [unhide E] <;> rfl, ext_set4 (ext_set4 (unhide R).2.2 (by omega)) (by omega)⟩
  case neg =>
  have d11 : (fn == 11) = false := by simp [e11]
  have E : Hid (ofI fn n a b c = bcI fn n a b) := by unfold ofI; rw [if_neg e17, if_neg e18, if_neg e19, if_neg e20, if_neg e21, if_neg e11]; trivial
  clear e17 e18 e19 e20 e21 e11
  go_enter Tryz.func68, Tryz.ntmps68
  go_wp2_with (go_at_call 112; refine (byComponent_any fn n a b _ h1 h4 (unhide HI).1 (unhide HI).2.1).mono ?_; rintro e w1 ⟨rfl, hx⟩; have R := hide (And.intro ((unhide HB).1.ext hx) ((unhide HB).2.2.trans hx)); clear hx HB; obtain ⟨r0, r1, r2, r3⟩ := (unhide R).1.vec4; obtain ⟨f0, f1, f2, f3⟩ := (unhide R).1.free4)
  obtain ⟨q0, q1, q2, q3⟩ := lay4 (unhide R).1 (.int .i32 ((bcI fn n a b) 0)) (.int .i32 ((bcI fn n a b) 1)) (.int .i32 ((bcI fn n a b) 2)) (.int .i32 ((bcI fn n a b) 3))
  refine bodyPost_ret (v := .agg #[.int .i32 ((bcI fn n a b) 0), .int .i32 ((bcI fn n a b) 1), .int .i32 ((bcI fn n a b) 2), .int .i32 ((bcI fn n a b) 3)]) (by simp [results, Tryz.results68, go_sem, q0, q1, q2, q3]) rfl ⟨by rw [unhide E], ext_set4 (unhide R).2 (by omega)⟩
end Go.Proofs.YtglfhmlcmffoaaaGreat

/-
  Codes, plainly: instructions as sixteen numbers, which may be, what they read and write, what can be come to. Nothing here speaks of the program.
-/
namespace Go.Proofs.YtglfhmlcmffoaaaGreat

/-- A code; an instruction is sixteen numbers: Op, Fn, Base, N, Dst, A, B, C, four of Imm, four of Places. -/
structure Cod where
  stage : Int
  regs : Int
  attr : Int
  unif : Int
  vary : Int
  ins : List (Nat → Int)

def inB (x n : Int) : Bool := decide (0 ≤ x) && decide (x < n)
def fargs (f : Int) : Nat := if (12 ≤ f ∧ f ≤ 16) ∨ f = 19 ∨ f = 21 then 2 else if f = 17 ∨ f = 18 then 3 else 1
/-- How many arguments a function takes of a base. -/
def argsP (f b : Int) : Nat :=
  if 1 ≤ f ∧ f ≤ 21 then (if b = 1 then fargs f else 0)
  else if f = 28 then (if b = 1 ∨ b = 2 then 1 else 0)
  else if 24 ≤ f ∧ f ≤ 32 then (if b = 1 ∨ b = 2 then 2 else 0)
  else if f = 33 ∨ f = 34 then (if b = 1 ∨ b = 2 ∨ b = 3 then 2 else 0)
  else if f = 35 then (if b = 3 then 1 else 0)
  else 0
theorem fargs_le (f : Int) : fargs f ≤ 3 := by unfold fargs; repeat' split
                                               all_goals omega
theorem argsP_le (f b : Int) : argsP f b ≤ 3 := by
  have := fargs_le f
  unfold argsP
  repeat' split
  all_goals omega
/-- The registers that an instruction reads. -/
def readsP (I : Nat → Int) : List Int :=
  if I 0 = 2 ∨ I 0 = 6 ∨ I 0 = 8 then [I 5]
  else if I 0 = 4 ∨ I 0 = 11 then [I 6]
  else if I 0 = 5 then [I 5, I 6, I 7].take (argsP (I 1) (I 2))
  else if I 0 = 7 then [I 5, I 4]
  else if I 0 = 9 then [I 5, I 6]
  else []
def wrB (o : Int) : Bool := decide (o = 1 ∨ o = 2 ∨ o = 3 ∨ o = 5 ∨ o = 6 ∨ o = 7 ∨ o = 8 ∨ o = 9)
/-- The register that an instruction writes. -/
def writI (I : Nat → Int) : Int := if wrB (I 0) then I 4 else 0
/-- Which of the sixteen numbers count. -/
def keeps (I : Nat → Int) : Nat → Bool
  | 0 => true
  | 1 => decide (I 0 = 3 ∨ I 0 = 4 ∨ I 0 = 5 ∨ I 0 = 8)
  | 2 => decide (I 0 = 5 ∨ I 0 = 8)
  | 3 => decide (I 0 = 5 ∨ I 0 = 6 ∨ I 0 = 7 ∨ I 0 = 8)
  | 4 => wrB (I 0)
  | 5 => decide (I 0 = 2 ∨ I 0 = 3 ∨ I 0 = 4 ∨ I 0 = 6 ∨ I 0 = 7 ∨ I 0 = 8 ∨ I 0 = 9 ∨ I 0 = 10 ∨ I 0 = 11) || (decide (I 0 = 5) && decide (1 ≤ argsP (I 1) (I 2)))
  | 6 => decide (I 0 = 4 ∨ I 0 = 9 ∨ I 0 = 11) || (decide (I 0 = 5) && decide (2 ≤ argsP (I 1) (I 2)))
  | 7 => decide (I 0 = 5) && decide (3 ≤ argsP (I 1) (I 2))
  | 8 => decide (I 0 = 1)
  | 9 => decide (I 0 = 1)
  | 10 => decide (I 0 = 1)
  | 11 => decide (I 0 = 1)
  | 12 => decide (I 0 = 6 ∨ I 0 = 7) && decide (0 < I 3)
  | 13 => decide (I 0 = 6 ∨ I 0 = 7) && decide (1 < I 3)
  | 14 => decide (I 0 = 6 ∨ I 0 = 7) && decide (2 < I 3)
  | 15 => decide (I 0 = 6 ∨ I 0 = 7) && decide (3 < I 3)
  | _ => false
def justP (I : Nat → Int) (k : Nat) : Int := if keeps I k then I k else 0
/-- Sixteen numbers, the same. -/
def sameI (I J : Nat → Int) : Bool := I 0 == J 0 && (I 1 == J 1 && (I 2 == J 2 && (I 3 == J 3 && (I 4 == J 4 && (I 5 == J 5 && (I 6 == J 6 && (I 7 == J 7 && (I 8 == J 8 && (I 9 == J 9 && (I 10 == J 10 && (I 11 == J 11 && (I 12 == J 12 && (I 13 == J 13 && (I 14 == J 14 && I 15 == J 15))))))))))))))
def baseB (b : Int) : Bool := b == 1 || (b == 2 || b == 3)
def cntB (n : Int) : Bool := decide (1 ≤ n) && decide (n ≤ 4)
def plcB (I : Nat → Int) : Bool := inB (I 12) 4 && (inB (I 13) 4 && (inB (I 14) 4 && inB (I 15) 4))
/-- Whether a number stands twice. -/
def twB : List Int → Bool
  | [] => false
  | x :: r => r.contains x || twB r
def loadB (C : Cod) (I : Nat → Int) : Bool :=
  if I 1 = 1 then C.stage == 1 && inB (I 5) C.attr
  else if I 1 = 2 then inB (I 5) C.unif
  else if I 1 = 3 then C.stage == 2 && inB (I 5) C.vary
  else if I 1 = 4 ∨ I 1 = 5 ∨ I 1 = 6 then C.stage == 2 && I 5 == 0
  else false
def storB (C : Cod) (I : Nat → Int) : Bool :=
  if I 1 = 1 ∨ I 1 = 2 then C.stage == 1 && I 5 == 0
  else if I 1 = 3 then C.stage == 1 && inB (I 5) C.vary
  else if I 1 = 4 then C.stage == 2 && I 5 == 0
  else false
def plcs (I : Nat → Int) : List Int := [I 12, I 13, I 14, I 15]
/-- Whether the fields that count and name no register may be. -/
def fldB (C : Cod) (n k : Nat) (I : Nat → Int) : Bool :=
  if I 0 = 1 ∨ I 0 = 2 ∨ I 0 = 9 then true
  else if I 0 = 3 then loadB C I
  else if I 0 = 4 then storB C I
  else if I 0 = 5 then decide (0 < argsP (I 1) (I 2)) && cntB (I 3)
  else if I 0 = 6 then cntB (I 3) && plcB I
  else if I 0 = 7 then cntB (I 3) && (plcB I && !twB ((plcs I).take (I 3).toNat))
  else if I 0 = 8 then cntB (I 3) && (baseB (I 2) && baseB (I 1))
  else if I 0 = 10 ∨ I 0 = 11 then decide ((k : Int) < I 5) && decide (I 5 ≤ (n : Int))
  else if I 0 = 12 then C.stage == 2
  else false
def rgsB (C : Cod) (I : Nat → Int) : Bool := (readsP I).all (fun r => inB r C.regs) && (!wrB (I 0) || inB (writI I) C.regs)
/-- May the instruction be at the place k of n? -/
def insB (C : Cod) (n k : Nat) (I : Nat → Int) : Bool := sameI I (justP I) && (rgsB C I && fldB C n k I)
def headB (C : Cod) : Bool :=
  if C.stage = 1 then inB C.regs 1025 && (inB C.attr 9 && (inB C.unif 33 && inB C.vary 5))
  else if C.stage = 2 then inB C.regs 1025 && (inB C.attr 1 && (inB C.unif 33 && inB C.vary 5))
  else false
def zI : Nat → Int := fun _ => 0
/-- May the first m instructions be? -/
def mayTo (C : Cod) (m : Nat) : Bool := (List.range m).all fun k => insB C C.ins.length k (C.ins.getD k zI)
/-- May a code be? -/
def mayP (C : Cod) : Bool := headB C && (decide (C.ins.length ≤ 4096) && mayTo C C.ins.length)
theorem mayTo_succ (C : Cod) (m : Nat) : mayTo C (m + 1) = (mayTo C m && insB C C.ins.length m (C.ins.getD m zI)) := by
  unfold mayTo
  rw [List.range_succ, List.all_append]
  simp
theorem mayTo_false {C : Cod} {k n : Nat} (h : insB C C.ins.length k (C.ins.getD k zI) = false) (hk : k < n) : mayTo C n = false := by
  unfold mayTo
  rw [List.all_eq_false]
  exact ⟨k, List.mem_range.2 hk, by rw [h]; decide⟩
theorem mayTo_at {C : Cod} {k n : Nat} (h : mayTo C n = true) (hk : k < n) : insB C C.ins.length k (C.ins.getD k zI) = true := by
  unfold mayTo at h
  exact List.all_eq_true.1 h k (List.mem_range.2 hk)

/-- Where the instruction at the place k leads to. -/
def nextP (I : Nat → Int) (k : Nat) : List Int :=
  if I 0 = 10 then [I 5] else if I 0 = 11 then [I 5, (k : Int) + 1] else if I 0 = 12 then [] else [(k : Int) + 1]
def markL (r : List Bool) : List Int → List Bool
  | [] => r
  | x :: t => markL (r.set x.toNat true) t
def stepR (r : List Bool) (I : Nat → Int) (k : Nat) : List Bool := if r.getD k false then markL r (nextP I k) else r
/-- What can be come to, the first k instructions done. -/
def reachTo (L : List (Nat → Int)) : Nat → List Bool
  | 0 => (List.replicate (L.length + 1) false).set 0 true
  | k + 1 => stepR (reachTo L k) (L.getD k zI) k
def reachP (L : List (Nat → Int)) : List Bool := reachTo L L.length
theorem markL_len (r : List Bool) (l : List Int) : (markL r l).length = r.length := by
  induction l generalizing r with
  | nil => rfl
  | cons x t ih => rw [markL, ih, List.length_set]
theorem reachTo_len (L : List (Nat → Int)) (k : Nat) : (reachTo L k).length = L.length + 1 := by
  induction k with
  | zero => simp [reachTo]
  | succ k ih =>
    rw [reachTo, stepR]
    split
    · rw [markL_len, ih]
    · exact ih
end Go.Proofs.YtglfhmlcmffoaaaGreat
