/- Several texts in one. -/
import Derived.Test.YtglfhmlcmffoaaaGreatLemJ
import Derived.Lib.SliceRun
import Derived.Deep.Upon
import Derived.Lib.BitFns
import Derived.Lib.ItoaNum
/-
  The machine of registers: truth; each number of a vector by a function (byOne, byTwo).
-/
namespace Go.Proofs.YtglfhmlcmffoaaaGreat
open Go.RowKit
set_option linter.unusedVariables false
set_option linter.unusedSimpArgs false

/-- The vector of what holds or does not. -/
def truI (b : Bool) : Nat → Int := fun i => if i = 0 then (if b then 1 else 0) else 0
theorem truI_i32 (b : Bool) (i : Nat) : I32 (truI b i) := by
  unfold truI I32
  repeat' split
  all_goals omega

set_option maxHeartbeats 1000000 in
theorem truth_any (b : Bool) (w : World) : Calls Tryz.prog 65 #[.bool b] w fun e w' => e = .returned (.agg #[.int .i32 (truI b 0), .int .i32 (truI b 1), .int .i32 (truI b 2), .int .i32 (truI b 3)]) ∧ Ext w w' := by
  have B0 : Blk (w.alloc (.cells #[.int .i32 (nul 0), .int .i32 (nul 1), .int .i32 (nul 2), .int .i32 (nul 3)] 28)) w.heap.size #[.int .i32 (nul 0), .int .i32 (nul 1), .int .i32 (nul 2), .int .i32 (nul 3)] 28 := Blk.new w _ _
  obtain ⟨f0, f1, f2, f3⟩ := B0.free4
  obtain ⟨c0, c1, c2, c3⟩ := B0.vec4
  have HB := hide B0
  clear B0
  go_enter Tryz.func65, Tryz.ntmps65
  cases b
  case false =>
    go_wp2
    refine bodyPost_ret (v := .agg #[.int .i32 (truI false 0), .int .i32 (truI false 1), .int .i32 (truI false 2), .int .i32 (truI false 3)]) (by simp [results, Tryz.results65, go_sem, truI]) rfl ⟨rfl, ?_⟩
    exact (Ext.refl w).alloc _
  case true =>
    go_wp2
    refine bodyPost_ret (v := .agg #[.int .i32 (truI true 0), .int .i32 (truI true 1), .int .i32 (truI true 2), .int .i32 (truI true 3)]) (by simp [results, Tryz.results65, go_sem, truI]) rfl ⟨rfl, ?_⟩
    exact (Ext.refl w).alloc _

/-- The first k numbers by f, the others as they are. -/
def mixN (k : Int) (f : Nat → Int) (a : Nat → Int) : Nat → Int := fun i => if (i : Int) < k then f i else a i
theorem mixN_zero (f a : Nat → Int) (i : Nat) : mixN (0 : Nat) f a i = a i := by unfold mixN; rw [if_neg (by omega)]
theorem mixN_at (f a : Nat → Int) (k : Nat) : mixN k f a k = a k := by unfold mixN; rw [if_neg (by omega)]
theorem mixN_set (f a : Nat → Int) (k : Nat) (hk : k < 4) : (#[.int .i32 (mixN k f a 0), .int .i32 (mixN k f a 1), .int .i32 (mixN k f a 2), .int .i32 (mixN k f a 3)] : Array Value).setIfInBounds k (.int .i32 (f k)) = #[.int .i32 (mixN ((k : Int) + 1) f a 0), .int .i32 (mixN ((k : Int) + 1) f a 1), .int .i32 (mixN ((k : Int) + 1) f a 2), .int .i32 (mixN ((k : Int) + 1) f a 3)] := by
  rcases (by omega : k = 0 ∨ k = 1 ∨ k = 2 ∨ k = 3) with rfl | rfl | rfl | rfl <;> simp [mixN]
theorem cut_mixN (n : Int) (f a : Nat → Int) : cut n (mixN n f a) = cut n f := cut_congr fun i hi => by unfold mixN; rw [if_pos hi]

theorem eqVC {a b : Nat → Int} (h : ∀ i, i < 4 → a i = b i) : (#[.int .i32 (a 0), .int .i32 (a 1), .int .i32 (a 2), .int .i32 (a 3)] : Array Value) = #[.int .i32 (b 0), .int .i32 (b 1), .int .i32 (b 2), .int .i32 (b 3)] := by rw [h 0 (by omega), h 1 (by omega), h 2 (by omega), h 3 (by omega)]

theorem zeroFix (w : World) : (zeroValue 26).run Tryz.prog w = .ok (.int .i32 0) w := by kernel_rfl

/-- 'clear(a[k:])' on a vector. -/
theorem wpList_clear4 {w : World} {ops : Array Oper} {rest : List Oper} {o : Oper} {a : Act} {Q : Exit → Act → World → Prop} (hgd : o.guard = none) (hd : o.dst = none) (s : Operand)
    (ho : o.op = .call { callee := .builtin .clear, args := #[s], argTypes := #[101] }) (b k c : Nat) (f : Nat → Int) (t : TypeId) (hs : (k < 4 ∧ a.eval s = .slice (some ⟨b, k, none⟩) (4 - k) c) ∨ (k = 4 ∧ ∃ ad, a.eval s = .slice (some ad) 0 c))
    (hB : Blk w b #[.int .i32 (f 0), .int .i32 (f 1), .int .i32 (f 2), .int .i32 (f 3)] t) (h : ∀ w2, Blk w2 b #[.int .i32 (cut k f 0), .int .i32 (cut k f 1), .int .i32 (cut k f 2), .int .i32 (cut k f 3)] t → w.grownBy w2 (some b) → wpList Tryz.prog ops Q rest a w2) :
    wpList Tryz.prog ops Q (o :: rest) a w := by
  have hrun : ∃ v, a.eval s = v ∧ ∃ w2, (Builtin.clear_ #[101] o.type #[v]).run Tryz.prog w = .ok (.tuple #[]) w2 ∧ Blk w2 b #[.int .i32 (cut k f 0), .int .i32 (cut k f 1), .int .i32 (cut k f 2), .int .i32 (cut k f 3)] t ∧ w.grownBy w2 (some b) := by
    rcases hs with ⟨h4, hs⟩ | ⟨rfl, ad, hs⟩
    case inr =>
      refine ⟨_, hs, w, ?_, ?_, World.grownBy.refl _ _⟩
      · simp [Builtin.clear_, run_underlying Tryz.underlying101, zeroFix, Builtin.zeroCells, go_sem]
      · rw [eqVC (a := cut ((4 : Nat) : Int) f) (b := f) (fun i hi => by unfold cut; rw [if_pos (by omega)])]
        exact hB
    case inl =>
      have hr := Lib.run_clear_slice (P := Tryz.prog) w 101 26 o.type (.int .i32 0) Tryz.underlying101 zeroFix rfl rfl b k (4 - k) c (by omega) (fun j hj => by rw [hB.vec (k + j) (by omega)]; rfl) (fun j hj => hB.free _)
      refine ⟨_, hs, _, hr, ?_, ?_⟩
      · rcases (by omega : k = 0 ∨ k = 1 ∨ k = 2 ∨ k = 3) with rfl | rfl | rfl | rfl
        · have := (((hB.set 0 (.int .i32 0)).set 1 (.int .i32 0)).set 2 (.int .i32 0)).set 3 (.int .i32 0)
          simpa [World.setCells, List.replicate, cut] using this
        · have := ((hB.set 1 (.int .i32 0)).set 2 (.int .i32 0)).set 3 (.int .i32 0)
          simpa [World.setCells, List.replicate, cut] using this
        · have := (hB.set 2 (.int .i32 0)).set 3 (.int .i32 0)
          simpa [World.setCells, List.replicate, cut] using this
        · have := hB.set 3 (.int .i32 0)
          simpa [World.setCells, List.replicate, cut] using this
      · rcases (by omega : k = 0 ∨ k = 1 ∨ k = 2 ∨ k = 3) with rfl | rfl | rfl | rfl
        · exact (((grownBy_set w b 0 _).trans (grownBy_set _ b 1 _)).trans (grownBy_set _ b 2 _)).trans (grownBy_set _ b 3 _)
        · exact ((grownBy_set w b 1 _).trans (grownBy_set _ b 2 _)).trans (grownBy_set _ b 3 _)
        · exact (grownBy_set w b 2 _).trans (grownBy_set _ b 3 _)
        · exact grownBy_set w b 3 _
  obtain ⟨v, hs, w2, hr, hB2, hg⟩ := hrun
  refine wpList_plain hgd fun _ hK => ?_
  unfold Oper.wp execOp
  simp only [ho, resolve, invoke, builtin, Sem.run_bind, Sem.run_pure, Result.andThen_ok, List.map_toArray, List.map_cons, List.map_nil, hs, hr]
  refine hK _ _ ?_
  rw [hd]
  exact h w2 hB2 hg

set_option maxHeartbeats 2000000 in
theorem byOne_any (n : Int) (g : FuncId) (f : Int → Int) (a : Nat → Int) (w : World) (h1 : 1 ≤ n) (h4 : n ≤ 4)
    (eg : ∀ args w, (callFunc g args).run Tryz.prog w = .ok (.enter g args) w)
    (hf : ∀ (x : Int) (W : World), I32 x → Calls Tryz.prog g #[.int .i32 x] W fun e w' => e = .returned (.int .i32 (f x)) ∧ Ext W w') (Ia : ∀ i, I32 (a i)) :
    Calls Tryz.prog 104 #[.int .i64 n, .agg #[.int .i32 (a 0), .int .i32 (a 1), .int .i32 (a 2), .int .i32 (a 3)], .func (.func g) #[] #[]] w fun e w' => e = .returned (.agg #[.int .i32 (cut n (fun i => f (a i)) 0), .int .i32 (cut n (fun i => f (a i)) 1), .int .i32 (cut n (fun i => f (a i)) 2), .int .i32 (cut n (fun i => f (a i)) 3)]) ∧ Ext w w' := by
  have HF := hide hf
  have HI := hide Ia
  clear hf Ia
  have B0 : Hid (Blk ((w.alloc (.cells #[.int .i32 (a 0), .int .i32 (a 1), .int .i32 (a 2), .int .i32 (a 3)] 28)).alloc (.cells #[.int .i32 (nul 0), .int .i32 (nul 1), .int .i32 (nul 2), .int .i32 (nul 3)] 28)) w.heap.size #[.int .i32 (a 0), .int .i32 (a 1), .int .i32 (a 2), .int .i32 (a 3)] 28) := (Blk.new w _ _).alloc _
  have B1 : Hid (Blk ((w.alloc (.cells #[.int .i32 (a 0), .int .i32 (a 1), .int .i32 (a 2), .int .i32 (a 3)] 28)).alloc (.cells #[.int .i32 (nul 0), .int .i32 (nul 1), .int .i32 (nul 2), .int .i32 (nul 3)] 28)) (w.heap.size + 1) #[.int .i32 (nul 0), .int .i32 (nul 1), .int .i32 (nul 2), .int .i32 (nul 3)] 28) := Blk.at (by simp)
  go_enter Tryz.func104, Tryz.ntmps104
  go_wp2
  go_loopw [9] (fun i wr => ∃ k : Nat, (k : Int) ≤ n ∧ i = .int .i64 k ∧ Blk wr w.heap.size #[.int .i32 (mixN k (fun i => f (a i)) a 0), .int .i32 (mixN k (fun i => f (a i)) a 1), .int .i32 (mixN k (fun i => f (a i)) a 2), .int .i32 (mixN k (fun i => f (a i)) a 3)] 28 ∧ Blk wr (w.heap.size + 1) #[.int .i32 (nul 0), .int .i32 (nul 1), .int .i32 (nul 2), .int .i32 (nul 3)] 28 ∧ Ext w wr) (fun i _ => n.toNat - (intOf i).toNat)
  case atStart => exact ⟨0, by omega, rfl, by simp only [mixN_zero]; exact unhide B0, unhide B1, ((Ext.refl w).alloc _).alloc _⟩
  case round =>
    obtain ⟨k, hk, rfl, hb0, hb1, hx⟩ := hrel
    clear B0 B1
    have D := hide (And.intro hb0 (And.intro hb1 hx))
    clear hb0 hb1 hx
    by_cases hlt : (k : Int) < n
    · have hk4 : k < 4 := by omega
      have hk4i : (k : Int) < 4 := by omega
      have ck := (unhide D).1.vec k hk4
      rw [mixN_at] at ck
      go_wp2_with (go_at_fn g; refine (unhide HF (a k) _ (unhide HI k)).mono ?_; rintro e w1 ⟨rfl, hx1⟩; have D1 := hide (And.intro ((unhide D).1.ext hx1) (And.intro ((unhide D).2.1.ext hx1) ((unhide D).2.2.trans hx1))); have c1 := (unhide D1).1.vec k hk4; have f1 := (unhide D1).1.free k; clear D hx1)
      go_roundw
      case rel =>
        refine ⟨k + 1, by omega, by go_num, ?_, (unhide D1).2.1.other k _ (by omega), ext_set (unhide D1).2.2 (by omega)⟩
        have := (unhide D1).1.set k (.int .i32 (f (a k)))
        rw [mixN_set (fun i => f (a i)) a k hk4] at this
        exact this
      case measure => simp [intOf]; omega
    · have hkn : n = (k : Int) := by omega
      subst hkn
      have hk4 : k ≤ 4 := by omega
      have hk4i : (k : Int) ≤ 4 := by omega
      have hnn : (4 : Int) - (k : Int) = ((4 - k : Nat) : Int) := by omega
      by_cases h44 : k = 4
      · subst h44
        go_wp2_with (refine wpList_clear4 rfl rfl (.tmp 21) rfl w.heap.size 4 0 _ 28 (.inr ⟨rfl, _, by rfl⟩) (unhide D).1 ?_; intro w2 hb2 hg2; have D2 := hide (And.intro hb2 (And.intro (((unhide D).2.1).grown hg2 (by omega)) (below_grown (unhide D).2.2 hg2 (unhide D).2.2.size (Nat.le_refl _)))); clear hb2 hg2 D; obtain ⟨c0, c1, c2, c3⟩ := (unhide D2).1.vec4; obtain ⟨g0, g1, g2, g3⟩ := (unhide D2).2.1.free4; obtain ⟨r0, r1, r2, r3⟩ := (unhide D2).2.1.vec4)
        obtain ⟨q0, q1, q2, q3⟩ := lay4 (unhide D2).2.1 (.int .i32 (cut (4 : Int) (mixN (4 : Int) (fun i => f (a i)) a) 0)) (.int .i32 (cut (4 : Int) (mixN (4 : Int) (fun i => f (a i)) a) 1)) (.int .i32 (cut (4 : Int) (mixN (4 : Int) (fun i => f (a i)) a) 2)) (.int .i32 (cut (4 : Int) (mixN (4 : Int) (fun i => f (a i)) a) 3))
        refine bodyPost_ret (v := .agg #[.int .i32 (cut (4 : Int) (mixN (4 : Int) (fun i => f (a i)) a) 0), .int .i32 (cut (4 : Int) (mixN (4 : Int) (fun i => f (a i)) a) 1), .int .i32 (cut (4 : Int) (mixN (4 : Int) (fun i => f (a i)) a) 2), .int .i32 (cut (4 : Int) (mixN (4 : Int) (fun i => f (a i)) a) 3)]) (by simp [results, Tryz.results104, go_sem, q0, q1, q2, q3]) rfl ⟨?_, ext_set4 (unhide D2).2.2 (by omega)⟩
        rw [cut_mixN]
      · have h44' : ¬ 4 = k := fun e => h44 e.symm
        have hlt4 : k < 4 := by omega
        go_wp2_with (refine wpList_clear4 rfl rfl (.tmp 21) rfl w.heap.size k (4 - k) _ 28 (.inl ⟨hlt4, by first | rfl | simp [Act.eval, h44']⟩) (unhide D).1 ?_; intro w2 hb2 hg2; have D2 := hide (And.intro hb2 (And.intro (((unhide D).2.1).grown hg2 (by omega)) (below_grown (unhide D).2.2 hg2 (unhide D).2.2.size (Nat.le_refl _)))); clear hb2 hg2 D; obtain ⟨c0, c1, c2, c3⟩ := (unhide D2).1.vec4; obtain ⟨g0, g1, g2, g3⟩ := (unhide D2).2.1.free4; obtain ⟨r0, r1, r2, r3⟩ := (unhide D2).2.1.vec4)
        obtain ⟨q0, q1, q2, q3⟩ := lay4 (unhide D2).2.1 (.int .i32 (cut (k : Int) (mixN (k : Int) (fun i => f (a i)) a) 0)) (.int .i32 (cut (k : Int) (mixN (k : Int) (fun i => f (a i)) a) 1)) (.int .i32 (cut (k : Int) (mixN (k : Int) (fun i => f (a i)) a) 2)) (.int .i32 (cut (k : Int) (mixN (k : Int) (fun i => f (a i)) a) 3))
        refine bodyPost_ret (v := .agg #[.int .i32 (cut (k : Int) (mixN (k : Int) (fun i => f (a i)) a) 0), .int .i32 (cut (k : Int) (mixN (k : Int) (fun i => f (a i)) a) 1), .int .i32 (cut (k : Int) (mixN (k : Int) (fun i => f (a i)) a) 2), .int .i32 (cut (k : Int) (mixN (k : Int) (fun i => f (a i)) a) 3)]) (by simp [results, Tryz.results104, go_sem, q0, q1, q2, q3]) rfl ⟨?_, ext_set4 (unhide D2).2.2 (by omega)⟩
        rw [cut_mixN]
set_option maxRecDepth 10000 in
set_option maxHeartbeats 2000000 in
theorem byTwo_any (n : Int) (g : FuncId) (f : Int → Int → Int) (a b : Nat → Int) (w : World) (h1 : 1 ≤ n) (h4 : n ≤ 4)
    (eg : ∀ args w, (callFunc g args).run Tryz.prog w = .ok (.enter g args) w)
    (hf : ∀ (x y : Int) (W : World), I32 x → I32 y → Calls Tryz.prog g #[.int .i32 x, .int .i32 y] W fun e w' => e = .returned (.int .i32 (f x y)) ∧ Ext W w') (Ia : ∀ i, I32 (a i)) (Ib : ∀ i, I32 (b i)) :
    Calls Tryz.prog 99 #[.int .i64 n, .agg #[.int .i32 (a 0), .int .i32 (a 1), .int .i32 (a 2), .int .i32 (a 3)], .agg #[.int .i32 (b 0), .int .i32 (b 1), .int .i32 (b 2), .int .i32 (b 3)], .func (.func g) #[] #[]] w fun e w' => e = .returned (.agg #[.int .i32 (cut n (fun i => f (a i) (b i)) 0), .int .i32 (cut n (fun i => f (a i) (b i)) 1), .int .i32 (cut n (fun i => f (a i) (b i)) 2), .int .i32 (cut n (fun i => f (a i) (b i)) 3)]) ∧ Ext w w' := by
  have HF := hide hf
  have HI := hide (And.intro Ia Ib)
  clear hf Ia Ib
  have B0 : Hid (Blk (((w.alloc (.cells #[.int .i32 (a 0), .int .i32 (a 1), .int .i32 (a 2), .int .i32 (a 3)] 28)).alloc (.cells #[.int .i32 (b 0), .int .i32 (b 1), .int .i32 (b 2), .int .i32 (b 3)] 28)).alloc (.cells #[.int .i32 (nul 0), .int .i32 (nul 1), .int .i32 (nul 2), .int .i32 (nul 3)] 28)) w.heap.size #[.int .i32 (a 0), .int .i32 (a 1), .int .i32 (a 2), .int .i32 (a 3)] 28) := ((Blk.new w _ _).alloc _).alloc _
  have B2 : Hid (Blk (((w.alloc (.cells #[.int .i32 (a 0), .int .i32 (a 1), .int .i32 (a 2), .int .i32 (a 3)] 28)).alloc (.cells #[.int .i32 (b 0), .int .i32 (b 1), .int .i32 (b 2), .int .i32 (b 3)] 28)).alloc (.cells #[.int .i32 (nul 0), .int .i32 (nul 1), .int .i32 (nul 2), .int .i32 (nul 3)] 28)) (w.heap.size + 1) #[.int .i32 (b 0), .int .i32 (b 1), .int .i32 (b 2), .int .i32 (b 3)] 28) := (Blk.at (by simp)).alloc _
  have B1 : Hid (Blk (((w.alloc (.cells #[.int .i32 (a 0), .int .i32 (a 1), .int .i32 (a 2), .int .i32 (a 3)] 28)).alloc (.cells #[.int .i32 (b 0), .int .i32 (b 1), .int .i32 (b 2), .int .i32 (b 3)] 28)).alloc (.cells #[.int .i32 (nul 0), .int .i32 (nul 1), .int .i32 (nul 2), .int .i32 (nul 3)] 28)) (w.heap.size + 1 + 1) #[.int .i32 (nul 0), .int .i32 (nul 1), .int .i32 (nul 2), .int .i32 (nul 3)] 28) := Blk.at (by simp)
  go_enter Tryz.func99, Tryz.ntmps99
  go_wp2
  go_loopw [11] (fun i wr => ∃ k : Nat, (k : Int) ≤ n ∧ i = .int .i64 k ∧ Blk wr w.heap.size #[.int .i32 (mixN k (fun i => f (a i) (b i)) a 0), .int .i32 (mixN k (fun i => f (a i) (b i)) a 1), .int .i32 (mixN k (fun i => f (a i) (b i)) a 2), .int .i32 (mixN k (fun i => f (a i) (b i)) a 3)] 28 ∧ Blk wr (w.heap.size + 1) #[.int .i32 (b 0), .int .i32 (b 1), .int .i32 (b 2), .int .i32 (b 3)] 28 ∧ Blk wr (w.heap.size + 1 + 1) #[.int .i32 (nul 0), .int .i32 (nul 1), .int .i32 (nul 2), .int .i32 (nul 3)] 28 ∧ Ext w wr) (fun i _ => n.toNat - (intOf i).toNat)
  case atStart => exact ⟨0, by omega, rfl, by simp only [mixN_zero]; exact unhide B0, unhide B2, unhide B1, (((Ext.refl w).alloc _).alloc _).alloc _⟩
  case round =>
    obtain ⟨k, hk, rfl, hb0, hb2, hb1, hx⟩ := hrel
    clear B0 B1 B2
    have D := hide (And.intro hb0 (And.intro hb1 hx))
    have DB := hide hb2
    clear hb0 hb1 hb2 hx
    by_cases hlt : (k : Int) < n
    · have hk4 : k < 4 := by omega
      have hk4i : (k : Int) < 4 := by omega
      have ck := (unhide D).1.vec k hk4
      rw [mixN_at] at ck
      have cb := (unhide DB).vec k hk4
      go_wp2
      go_region_with (first | (go_at_fn g; refine (unhide HF (a k) (b k) _ ((unhide HI).1 k) ((unhide HI).2 k)).mono ?_; rintro e w1 ⟨rfl, hx1⟩; have bx : Ext wr w1 := ((Ext.refl _).drew).trans hx1; have D1 := hide (And.intro ((unhide D).1.ext bx) (And.intro ((unhide D).2.1.ext bx) ((unhide D).2.2.trans bx))); have DB1 := hide ((unhide DB).ext bx); have c1 := (unhide D1).1.vec k hk4; have f1 := (unhide D1).1.free k; clear hx1))
      all_goals
        go_wp2
        go_roundw
        case rel =>
          refine ⟨k + 1, by omega, by go_num, ?_, (unhide DB1).other k _ (by omega), (unhide D1).2.1.other k _ (by omega), ext_set (unhide D1).2.2 (by omega)⟩
          have := (unhide D1).1.set k (.int .i32 (f (a k) (b k)))
          rw [mixN_set (fun i => f (a i) (b i)) a k hk4] at this
          exact this
        case measure => simp [intOf]; omega
    · have hkn : n = (k : Int) := by omega
      subst hkn
      have hk4 : k ≤ 4 := by omega
      have hk4i : (k : Int) ≤ 4 := by omega
      have hnn : (4 : Int) - (k : Int) = ((4 - k : Nat) : Int) := by omega
      by_cases h44 : k = 4
      · subst h44
        go_wp2_with (refine wpList_clear4 rfl rfl (.tmp 26) rfl w.heap.size 4 0 _ 28 (.inr ⟨rfl, _, by rfl⟩) (unhide D).1 ?_; intro w2 hb2 hg2; have D2 := hide (And.intro hb2 (And.intro (((unhide D).2.1).grown hg2 (by omega)) (below_grown (unhide D).2.2 hg2 (unhide D).2.2.size (Nat.le_refl _)))); clear hb2 hg2 D; obtain ⟨c0, c1, c2, c3⟩ := (unhide D2).1.vec4; obtain ⟨g0, g1, g2, g3⟩ := (unhide D2).2.1.free4; obtain ⟨r0, r1, r2, r3⟩ := (unhide D2).2.1.vec4)
        obtain ⟨q0, q1, q2, q3⟩ := lay4 (unhide D2).2.1 (.int .i32 (cut (4 : Int) (mixN (4 : Int) (fun i => f (a i) (b i)) a) 0)) (.int .i32 (cut (4 : Int) (mixN (4 : Int) (fun i => f (a i) (b i)) a) 1)) (.int .i32 (cut (4 : Int) (mixN (4 : Int) (fun i => f (a i) (b i)) a) 2)) (.int .i32 (cut (4 : Int) (mixN (4 : Int) (fun i => f (a i) (b i)) a) 3))
        refine bodyPost_ret (v := .agg #[.int .i32 (cut (4 : Int) (mixN (4 : Int) (fun i => f (a i) (b i)) a) 0), .int .i32 (cut (4 : Int) (mixN (4 : Int) (fun i => f (a i) (b i)) a) 1), .int .i32 (cut (4 : Int) (mixN (4 : Int) (fun i => f (a i) (b i)) a) 2), .int .i32 (cut (4 : Int) (mixN (4 : Int) (fun i => f (a i) (b i)) a) 3)]) (by simp [results, Tryz.results99, go_sem, q0, q1, q2, q3]) rfl ⟨?_, ext_set4 (unhide D2).2.2 (by omega)⟩
        rw [cut_mixN]
      · have h44' : ¬ 4 = k := fun e => h44 e.symm
        have hlt4 : k < 4 := by omega
        go_wp2_with (refine wpList_clear4 rfl rfl (.tmp 26) rfl w.heap.size k (4 - k) _ 28 (.inl ⟨hlt4, by first | rfl | simp [Act.eval, h44']⟩) (unhide D).1 ?_; intro w2 hb2 hg2; have D2 := hide (And.intro hb2 (And.intro (((unhide D).2.1).grown hg2 (by omega)) (below_grown (unhide D).2.2 hg2 (unhide D).2.2.size (Nat.le_refl _)))); clear hb2 hg2 D; obtain ⟨c0, c1, c2, c3⟩ := (unhide D2).1.vec4; obtain ⟨g0, g1, g2, g3⟩ := (unhide D2).2.1.free4; obtain ⟨r0, r1, r2, r3⟩ := (unhide D2).2.1.vec4)
        obtain ⟨q0, q1, q2, q3⟩ := lay4 (unhide D2).2.1 (.int .i32 (cut (k : Int) (mixN (k : Int) (fun i => f (a i) (b i)) a) 0)) (.int .i32 (cut (k : Int) (mixN (k : Int) (fun i => f (a i) (b i)) a) 1)) (.int .i32 (cut (k : Int) (mixN (k : Int) (fun i => f (a i) (b i)) a) 2)) (.int .i32 (cut (k : Int) (mixN (k : Int) (fun i => f (a i) (b i)) a) 3))
        refine bodyPost_ret (v := .agg #[.int .i32 (cut (k : Int) (mixN (k : Int) (fun i => f (a i) (b i)) a) 0), .int .i32 (cut (k : Int) (mixN (k : Int) (fun i => f (a i) (b i)) a) 1), .int .i32 (cut (k : Int) (mixN (k : Int) (fun i => f (a i) (b i)) a) 2), .int .i32 (cut (k : Int) (mixN (k : Int) (fun i => f (a i) (b i)) a) 3)]) (by simp [results, Tryz.results99, go_sem, q0, q1, q2, q3]) rfl ⟨?_, ext_set4 (unhide D2).2.2 (by omega)⟩
        rw [cut_mixN]
end Go.Proofs.YtglfhmlcmffoaaaGreat

/-
  Plain facts on whole roots, on powers of 2 digit by digit and on logarithms. Nothing here speaks of the program.
-/
namespace Go.Proofs.YtglfhmlcmffoaaaGreat
set_option linter.unusedVariables false

/-- r is the greatest whole number whose square is not above n. -/
def IsRoot (n r : Int) : Prop := 0 ≤ r ∧ r * r ≤ n ∧ n < (r + 1) * (r + 1)

theorem sq_le {a b : Int} (h0 : 0 ≤ a) (h : a ≤ b) : a * a ≤ b * b := Int.mul_le_mul h h h0 (by omega)
theorem sq_lt {a b : Int} (h0 : 0 ≤ a) (h : a < b) : a * a < b * b := by
  have h1 : (a + 1) * (a + 1) ≤ b * b := sq_le (by omega) (by omega)
  have h2 : (a + 1) * (a + 1) = a * a + a + a + 1 := by rw [Int.add_mul, Int.mul_add]; omega
  omega
theorem lt_of_sq {a b : Int} (h0 : 0 ≤ b) (h : a * a < b * b) : a < b := by
  rcases Int.lt_or_le a b with h1 | h1
  · exact h1
  · have := sq_le h0 h1
    omega
theorem le_of_sq {a b : Int} (h0 : 0 ≤ b) (h : a * a ≤ b * b) : a ≤ b := by
  rcases Int.lt_or_le b a with h1 | h1
  · have := sq_lt h0 h1
    omega
  · exact h1
theorem IsRoot.mono {n m a b : Int} (h : IsRoot n a) (k : IsRoot m b) (hn : n ≤ m) : a ≤ b := by
  have h1 := lt_of_sq (a := a) (b := b + 1) (by have := k.1; omega) (by have := h.2.1; have := k.2.2; omega)
  omega
theorem IsRoot.unique {n a b : Int} (h : IsRoot n a) (k : IsRoot n b) : a = b := by
  have h1 := h.mono k (Int.le_refl n)
  have h2 := k.mono h (Int.le_refl n)
  omega
/-- The root's last k digits, behind r. -/
def digI (n : Int) : Nat → Int → Int
  | 0, r => r
  | k + 1, r => if (r + 2 ^ k) * (r + 2 ^ k) ≤ n then digI n k (r + 2 ^ k) else digI n k r
theorem digI_is (n : Int) : ∀ (k : Nat) (r : Int), 0 ≤ r → r * r ≤ n → n < (r + 2 ^ k) * (r + 2 ^ k) → IsRoot n (digI n k r)
  | 0, r, h0, h1, h2 => ⟨h0, h1, by show n < (r + 1) * (r + 1); simpa using h2⟩
  | k + 1, r, h0, h1, h2 => by
    have hp : (0 : Int) < 2 ^ k := Int.pow_pos (by decide)
    rw [show r + (2 : Int) ^ (k + 1) = r + 2 ^ k + 2 ^ k by rw [Int.pow_succ]; omega] at h2
    unfold digI
    split
    · exact digI_is n k (r + 2 ^ k) (by omega) (by assumption) h2
    · exact digI_is n k r h0 h1 (by omega)
/-- The root. -/
def rootI (n : Int) : Int := digI n n.toNat 0
theorem rootI_spec {n : Int} (h : 0 ≤ n) : IsRoot n (rootI n) := by
  refine digI_is n n.toNat 0 (by omega) (by omega) ?_
  have h1 : n.toNat < 2 ^ n.toNat := Nat.lt_two_pow_self
  have h2 : (2 : Int) ^ n.toNat = ((2 ^ n.toNat : Nat) : Int) := by rw [Int.natCast_pow]; rfl
  have h3 : n < (2 : Int) ^ n.toNat := by omega
  have h4 : (2 : Int) ^ n.toNat * 1 ≤ 2 ^ n.toNat * 2 ^ n.toNat := Int.mul_le_mul_of_nonneg_left (by omega) (by omega)
  rw [Int.zero_add]
  omega
theorem rootI_eq {n r : Int} (h : IsRoot n r) : rootI n = r := (rootI_spec (by have := h.2.1; have := Int.mul_nonneg h.1 h.1; omega)).unique h
theorem rootI_mono {n m : Int} (h0 : 0 ≤ n) (h : n ≤ m) : rootI n ≤ rootI m := (rootI_spec h0).mono (rootI_spec (by omega)) h
theorem rootI_nonneg {n : Int} (h0 : 0 ≤ n) : 0 ≤ rootI n := (rootI_spec h0).1
theorem rootI_u32 {n : Int} (h0 : 0 ≤ n) (h1 : n ≤ 18446744073709551615) : 0 ≤ rootI n ∧ rootI n ≤ 4294967295 := by
  have h := rootI_spec h0
  have h2 := lt_of_sq (a := rootI n) (b := 4294967296) (by omega) (by have := h.2.1; omega)
  exact ⟨h.1, by omega⟩

end Go.Proofs.YtglfhmlcmffoaaaGreat

/-
  The walks of the document's answer for numbers, each against the same Lean functions. What the dump lacks is left out.
-/
namespace Go.Proofs.YtglfhmlcmffoaaaGreat
open Go.RowKit
set_option linter.unusedSimpArgs false
set_option linter.unusedVariables false

theorem refRaw_any (n : Int) (w : World) (h : I64 n) :
    Calls Tryz.prog 81 #[.int .i64 n] w fun e w' => e = .returned (.int .i32 (rawI n)) ∧ w' = w := by
  go_enter Tryz.func81, Tryz.ntmps81
  unfold I64 at h
  go_wp2
  all_goals go_ret
  all_goals refine ⟨?_, rfl⟩
  all_goals simp [rawI, clampI]
  all_goals omega

theorem refOf_any (n : Int) (w : World) (h : I64 n) :
    Calls Tryz.prog 76 #[.int .i64 n] w fun e w' => e = .returned (.int .i32 (rawI (65536 * n))) ∧ w' = w := by
  go_enter Tryz.func76, Tryz.ntmps76
  unfold I64 at h
  by_cases h1 : 40000 < n
  · go_wp2
    go_ret
    refine ⟨?_, rfl⟩
    simp [rawI, clampI]
    omega
  · by_cases h2 : n < -40000
    · go_wp2
      go_ret
      refine ⟨?_, rfl⟩
      simp [rawI, clampI]
      omega
    · go_wp2_with fail
      refine (refRaw_any _ _ (by unfold I64; omega)).mono ?_
      rintro e w1 ⟨rfl, rfl⟩
      go_wp2
      go_ret
      exact ⟨by simp [Int.mul_comm], rfl⟩

theorem down_any (n : Int) (w : World) (h : -4611686018427387904 ≤ n ∧ n ≤ 4611686018460942336) :
    Calls Tryz.prog 124 #[.int .i64 n, .int .i64 65536] w fun e w' => e = .returned (.int .i64 (n / 65536)) ∧ w' = w := by
  go_enter Tryz.func124, Tryz.ntmps124
  have h2 : 65536 * n.tdiv 65536 + n.tmod 65536 = n := Int.mul_tdiv_add_tmod n 65536
  have h3 : n.tmod 65536 < 65536 := Int.tmod_lt_of_pos n (by omega)
  have h4 : -65536 < n.tmod 65536 := Int.lt_tmod_of_pos n (by omega)
  have hq : -140737488355328 ≤ n.tdiv 65536 ∧ n.tdiv 65536 ≤ 140737488355328 := by omega
  have H2 := hide h2
  clear h2
  go_wp2
  all_goals go_ret
  all_goals refine ⟨?_, rfl⟩
  all_goals have h2 := unhide H2
  all_goals simp
  all_goals omega

theorem refAdd_any (a b : Int) (w : World) (ha : I32 a) (hb : I32 b) :
    Calls Tryz.prog 80 #[.int .i32 a, .int .i32 b] w fun e w' => e = .returned (.int .i32 (addI a b)) ∧ w' = w := by
  go_enter Tryz.func80, Tryz.ntmps80
  unfold I32 at ha hb
  go_wp2_with fail
  refine (refRaw_any _ _ (by unfold I64; omega)).mono ?_
  rintro e w1 ⟨rfl, rfl⟩
  go_wp2
  go_ret
  exact ⟨rfl, rfl⟩

theorem refSub_any (a b : Int) (w : World) (ha : I32 a) (hb : I32 b) :
    Calls Tryz.prog 85 #[.int .i32 a, .int .i32 b] w fun e w' => e = .returned (.int .i32 (subI a b)) ∧ w' = w := by
  go_enter Tryz.func85, Tryz.ntmps85
  unfold I32 at ha hb
  go_wp2_with fail
  refine (refRaw_any _ _ (by unfold I64; omega)).mono ?_
  rintro e w1 ⟨rfl, rfl⟩
  go_wp2
  go_ret
  exact ⟨rfl, rfl⟩

theorem refNeg_any (a : Int) (w : World) (ha : I32 a) :
    Calls Tryz.prog 58 #[.int .i32 a] w fun e w' => e = .returned (.int .i32 (negI a)) ∧ w' = w := by
  go_enter Tryz.func58, Tryz.ntmps58
  unfold I32 at ha
  go_wp2_with fail
  refine (refRaw_any _ _ (by unfold I64; omega)).mono ?_
  rintro e w1 ⟨rfl, rfl⟩
  go_wp2
  go_ret
  exact ⟨rfl, rfl⟩

theorem refAbs_any (a : Int) (w : World) (ha : I32 a) :
    Calls Tryz.prog 129 #[.int .i32 a] w fun e w' => e = .returned (.int .i32 (absI a)) ∧ w' = w := by
  go_enter Tryz.func129, Tryz.ntmps129
  unfold I32 at ha
  by_cases h1 : a < 0
  · go_wp2_with fail
    refine (refNeg_any _ _ ha).mono ?_
    rintro e w1 ⟨rfl, rfl⟩
    have hn : absI a = negI a := by unfold absI negI; congr 1; omega
    go_wp2
    go_ret
    exact ⟨by simp [hn], rfl⟩
  · have hn : absI a = a := by unfold absI rawI clampI; omega
    go_wp2
    go_ret
    exact ⟨by simp [hn], rfl⟩

theorem refMul_any (a b : Int) (w : World) (ha : I32 a) (hb : I32 b) :
    Calls Tryz.prog 86 #[.int .i32 a, .int .i32 b] w fun e w' => e = .returned (.int .i32 (mulI a b)) ∧ w' = w := by
  go_enter Tryz.func86, Tryz.ntmps86
  unfold I32 at ha hb
  have hm := mul_i32 ha hb
  go_wp2_with fail
  refine (down_any _ _ (by omega)).mono ?_
  rintro e w1 ⟨rfl, rfl⟩
  go_wp2_with fail
  refine (refRaw_any _ _ (by unfold I64; omega)).mono ?_
  rintro e w1 ⟨rfl, rfl⟩
  go_wp2
  go_ret
  exact ⟨rfl, rfl⟩

theorem quo_up {n d : Int} (hn : 0 ≤ n) (hd : 0 < d) : (n + d / 2) / d = if d ≤ 2 * (n % d) then n / d + 1 else n / d := by
  have h1 : d * (n / d) + n % d = n := Int.mul_ediv_add_emod n d
  have h2 := Int.emod_lt_of_pos n hd
  have h3 := Int.emod_nonneg n (by omega : d ≠ 0)
  generalize n / d = q at *
  generalize n % d = r at *
  have e : n + d / 2 = (r + d / 2) + d * q := by omega
  rw [e, Int.add_mul_ediv_left _ _ (by omega)]
  split
  · have : (r + d / 2) / d = 1 := by
      have h : r + d / 2 = (r + d / 2 - d) + d * 1 := by omega
      rw [h, Int.add_mul_ediv_left _ _ (by omega), Int.ediv_eq_zero_of_lt (by omega) (by omega)]
      omega
    omega
  · have : (r + d / 2) / d = 0 := Int.ediv_eq_zero_of_lt (by omega) (by omega)
    omega

/-- The quotient of 2^16 x by y, a half rounded up. -/
def upQ (x y : Int) : Int := if y ≤ 2 * (x * 65536 % y) then x * 65536 / y + 1 else x * 65536 / y
theorem upQ_parts (x y : Int) (hx : 0 ≤ x ∧ x ≤ 2147483648) (hy : 0 < y) : 0 ≤ x * 65536 / y ∧ x * 65536 / y ≤ 140737488355328 ∧ 0 ≤ x * 65536 % y ∧ x * 65536 % y < y := by
  refine ⟨Int.ediv_nonneg (by omega) (by omega), ?_, Int.emod_nonneg _ (by omega), Int.emod_lt_of_pos _ hy⟩
  have : x * 65536 / y < 140737488355329 := by
    refine Int.ediv_lt_of_lt_mul (by omega) ?_
    have : (140737488355329 : Int) * 1 ≤ 140737488355329 * y := by omega
    omega
  omega
theorem near_upQ (a b : Int) (h : b ≠ 0) : nearI a b = upQ a.natAbs b.natAbs := by
  unfold nearI upQ
  rw [quo_up (by omega) (by omega)]

set_option maxHeartbeats 1000000 in
theorem refDiv_pp (x y : Int) (w : World) (hx : 0 ≤ x ∧ x ≤ 2147483648) (hy : 0 < y ∧ y ≤ 2147483648) :
    Calls Tryz.prog 78 #[.int .i32 x, .int .i32 y] w fun e w' => e = .returned (.int .i32 (rawI (upQ x y))) ∧ w' = w := by
  have hq := upQ_parts x y (by omega) hy.1
  have hu : Hid (upQ x y = if y ≤ 2 * (x * 65536 % y) then x * 65536 / y + 1 else x * 65536 / y) := rfl
  have hb0 : (y == 0) = false := by simp; omega
  have hz : (y == 0) = false := by simp; omega
  have dx : decide (x * 65536 < 0) = false := by simp; omega
  have dy : decide (y < 0) = false := by simp; omega
  go_enter Tryz.func78, Tryz.ntmps78
  by_cases h2 : y ≤ 2 * (x * 65536 % y)
  · have e : upQ x y = x * 65536 / y + 1 := by rw [unhide hu, if_pos h2]
    have HE := hide e
    clear e
    go_wp2_with fail
    refine (refRaw_any _ _ (by unfold I64; omega)).mono ?_
    rintro e w1 ⟨rfl, rfl⟩
    go_wp2
    go_ret
    refine ⟨?_, rfl⟩
    rw [unhide HE]
    first | rfl | (simp; done) | (simp only [Ending.returned.injEq, Value.int.injEq, true_and]; simp; congr 1; omega)
  · have e : upQ x y = x * 65536 / y := by rw [unhide hu, if_neg h2]
    have HE := hide e
    clear e
    go_wp2_with fail
    refine (refRaw_any _ _ (by unfold I64; omega)).mono ?_
    rintro e w1 ⟨rfl, rfl⟩
    go_wp2
    go_ret
    refine ⟨?_, rfl⟩
    rw [unhide HE]
    first | rfl | (simp; done) | (simp only [Ending.returned.injEq, Value.int.injEq, true_and]; simp; congr 1; omega)

set_option maxHeartbeats 1000000 in
theorem refDiv_pn (x y : Int) (w : World) (hx : 0 ≤ x ∧ x ≤ 2147483648) (hy : 0 < y ∧ y ≤ 2147483648) :
    Calls Tryz.prog 78 #[.int .i32 x, .int .i32 (-y)] w fun e w' => e = .returned (.int .i32 (rawI (-upQ x y))) ∧ w' = w := by
  have hq := upQ_parts x y (by omega) hy.1
  have hu : Hid (upQ x y = if y ≤ 2 * (x * 65536 % y) then x * 65536 / y + 1 else x * 65536 / y) := rfl
  have hb0 : ((-y) == 0) = false := by simp; omega
  have hz : (y == 0) = false := by simp; omega
  have dx : decide (x * 65536 < 0) = false := by simp; omega
  have dy : decide (-y < 0) = true := by simp; omega
  go_enter Tryz.func78, Tryz.ntmps78
  by_cases h2 : y ≤ 2 * (x * 65536 % y)
  · have e : upQ x y = x * 65536 / y + 1 := by rw [unhide hu, if_pos h2]
    have HE := hide e
    clear e
    go_wp2_with fail
    refine (refRaw_any _ _ (by unfold I64; omega)).mono ?_
    rintro e w1 ⟨rfl, rfl⟩
    go_wp2
    go_ret
    refine ⟨?_, rfl⟩
    rw [unhide HE]
    first | rfl | (simp; done) | (simp only [Ending.returned.injEq, Value.int.injEq, true_and]; simp; congr 1; omega)
  · have e : upQ x y = x * 65536 / y := by rw [unhide hu, if_neg h2]
    have HE := hide e
    clear e
    go_wp2_with fail
    refine (refRaw_any _ _ (by unfold I64; omega)).mono ?_
    rintro e w1 ⟨rfl, rfl⟩
    go_wp2
    go_ret
    refine ⟨?_, rfl⟩
    rw [unhide HE]
    first | rfl | (simp; done) | (simp only [Ending.returned.injEq, Value.int.injEq, true_and]; simp; congr 1; omega)

set_option maxHeartbeats 1000000 in
theorem refDiv_np (x y : Int) (w : World) (hx : 0 < x ∧ x ≤ 2147483648) (hy : 0 < y ∧ y ≤ 2147483648) :
    Calls Tryz.prog 78 #[.int .i32 (-x), .int .i32 y] w fun e w' => e = .returned (.int .i32 (rawI (-upQ x y))) ∧ w' = w := by
  have hq := upQ_parts x y (by omega) hy.1
  have hu : Hid (upQ x y = if y ≤ 2 * (x * 65536 % y) then x * 65536 / y + 1 else x * 65536 / y) := rfl
  have hb0 : (y == 0) = false := by simp; omega
  have hz : (y == 0) = false := by simp; omega
  have dx : decide (-(x * 65536) < 0) = true := by simp; omega
  have dy : decide (y < 0) = false := by simp; omega
  have dx2 : decide (-x * 65536 < 0) = true := by simp; omega
  have t1 : (-x * 65536).tdiv y = -(x * 65536 / y) := by rw [Int.neg_mul, Int.neg_tdiv, Int.tdiv_eq_ediv_of_nonneg (by omega)]
  have t2 : (-x * 65536).tmod y = -(x * 65536 % y) := by rw [Int.neg_mul, Int.neg_tmod, Int.tmod_eq_emod_of_nonneg (by omega)]
  go_enter Tryz.func78, Tryz.ntmps78
  by_cases h2 : y ≤ 2 * (x * 65536 % y)
  · have e : upQ x y = x * 65536 / y + 1 := by rw [unhide hu, if_pos h2]
    have HE := hide e
    clear e
    go_wp2_with fail
    refine (refRaw_any _ _ (by unfold I64; omega)).mono ?_
    rintro e w1 ⟨rfl, rfl⟩
    go_wp2
    go_ret
    refine ⟨?_, rfl⟩
    rw [unhide HE]
    first | rfl | (simp; done) | (simp only [Ending.returned.injEq, Value.int.injEq, true_and]; simp; congr 1; omega)
  · have e : upQ x y = x * 65536 / y := by rw [unhide hu, if_neg h2]
    have HE := hide e
    clear e
    go_wp2_with fail
    refine (refRaw_any _ _ (by unfold I64; omega)).mono ?_
    rintro e w1 ⟨rfl, rfl⟩
    go_wp2
    go_ret
    refine ⟨?_, rfl⟩
    rw [unhide HE]
    first | rfl | (simp; done) | (simp only [Ending.returned.injEq, Value.int.injEq, true_and]; simp; congr 1; omega)

set_option maxHeartbeats 1000000 in
theorem refDiv_nn (x y : Int) (w : World) (hx : 0 < x ∧ x ≤ 2147483648) (hy : 0 < y ∧ y ≤ 2147483648) :
    Calls Tryz.prog 78 #[.int .i32 (-x), .int .i32 (-y)] w fun e w' => e = .returned (.int .i32 (rawI (upQ x y))) ∧ w' = w := by
  have hq := upQ_parts x y (by omega) hy.1
  have hu : Hid (upQ x y = if y ≤ 2 * (x * 65536 % y) then x * 65536 / y + 1 else x * 65536 / y) := rfl
  have hb0 : ((-y) == 0) = false := by simp; omega
  have hz : (y == 0) = false := by simp; omega
  have dx : decide (-(x * 65536) < 0) = true := by simp; omega
  have dy : decide (-y < 0) = true := by simp; omega
  have dx2 : decide (-x * 65536 < 0) = true := by simp; omega
  have t1 : (-x * 65536).tdiv y = -(x * 65536 / y) := by rw [Int.neg_mul, Int.neg_tdiv, Int.tdiv_eq_ediv_of_nonneg (by omega)]
  have t2 : (-x * 65536).tmod y = -(x * 65536 % y) := by rw [Int.neg_mul, Int.neg_tmod, Int.tmod_eq_emod_of_nonneg (by omega)]
  go_enter Tryz.func78, Tryz.ntmps78
  by_cases h2 : y ≤ 2 * (x * 65536 % y)
  · have e : upQ x y = x * 65536 / y + 1 := by rw [unhide hu, if_pos h2]
    have HE := hide e
    clear e
    go_wp2_with fail
    refine (refRaw_any _ _ (by unfold I64; omega)).mono ?_
    rintro e w1 ⟨rfl, rfl⟩
    go_wp2
    go_ret
    refine ⟨?_, rfl⟩
    rw [unhide HE]
    first | rfl | (simp; done) | (simp only [Ending.returned.injEq, Value.int.injEq, true_and]; simp; congr 1; omega)
  · have e : upQ x y = x * 65536 / y := by rw [unhide hu, if_neg h2]
    have HE := hide e
    clear e
    go_wp2_with fail
    refine (refRaw_any _ _ (by unfold I64; omega)).mono ?_
    rintro e w1 ⟨rfl, rfl⟩
    go_wp2
    go_ret
    refine ⟨?_, rfl⟩
    rw [unhide HE]
    first | rfl | (simp; done) | (simp only [Ending.returned.injEq, Value.int.injEq, true_and]; simp; congr 1; omega)

theorem refDiv_any (a b : Int) (w : World) (ha : I32 a) (hb : I32 b) :
    Calls Tryz.prog 78 #[.int .i32 a, .int .i32 b] w fun e w' => e = .returned (.int .i32 (divI a b)) ∧ w' = w := by
  unfold I32 at ha hb
  by_cases h0 : b = 0
  · subst h0
    go_enter Tryz.func78, Tryz.ntmps78
    go_wp2
    all_goals go_ret
    all_goals refine ⟨?_, rfl⟩
    all_goals simp [divI, overI]
    all_goals omega
  · have hd : divI a b = rawI (if (decide (a < 0)) = (decide (b < 0)) then upQ a.natAbs b.natAbs else -upQ a.natAbs b.natAbs) := by
      simp only [divI, h0, if_false, near_upQ a b h0]
    rw [hd]
    by_cases h1 : a < 0 <;> by_cases h2 : b < 0
    · have h := refDiv_nn (-a) (-b) w (by omega) (by omega)
      rw [show (a.natAbs : Int) = -a by omega, show (b.natAbs : Int) = -b by omega]
      simpa [h1, h2] using h
    · have h := refDiv_np (-a) b w (by omega) (by omega)
      rw [show (a.natAbs : Int) = -a by omega, show (b.natAbs : Int) = b by omega]
      simpa [h1, h2] using h
    · have h := refDiv_pn a (-b) w (by omega) (by omega)
      rw [show (a.natAbs : Int) = a by omega, show (b.natAbs : Int) = -b by omega]
      simpa [h1, h2] using h
    · have h := refDiv_pp a b w (by omega) (by omega)
      rw [show (a.natAbs : Int) = a by omega, show (b.natAbs : Int) = b by omega]
      simpa [h1, h2] using h

theorem refFloor_any (a : Int) (w : World) (ha : I32 a) :
    Calls Tryz.prog 87 #[.int .i32 a] w fun e w' => e = .returned (.int .i32 (floorI a)) ∧ w' = w := by
  go_enter Tryz.func87, Tryz.ntmps87
  unfold I32 at ha
  go_wp2_with fail
  refine (down_any _ _ (by omega)).mono ?_
  rintro e w1 ⟨rfl, rfl⟩
  go_wp2_with fail
  refine (refRaw_any _ _ (by unfold I64; omega)).mono ?_
  rintro e w1 ⟨rfl, rfl⟩
  have hn : rawI (a / 65536 * 65536) = floorI a := rawI_id (by unfold I32; omega)
  rw [hn]
  go_wp2
  go_ret
  exact ⟨rfl, rfl⟩

theorem refFract_any (a : Int) (w : World) (ha : I32 a) :
    Calls Tryz.prog 130 #[.int .i32 a] w fun e w' => e = .returned (.int .i32 (fractI a)) ∧ w' = w := by
  go_enter Tryz.func130, Tryz.ntmps130
  unfold I32 at ha
  go_wp2_with fail
  refine (refFloor_any _ _ ha).mono ?_
  rintro e w1 ⟨rfl, rfl⟩
  go_wp2_with fail
  refine (refSub_any _ _ _ ha (floorI_i32 ha)).mono ?_
  rintro e w1 ⟨rfl, rfl⟩
  go_wp2
  go_ret
  exact ⟨rfl, rfl⟩

end Go.Proofs.YtglfhmlcmffoaaaGreat

/-
  The walks of maths' roots, and of the document's. What the dump lacks is left out.
-/
namespace Go.Proofs.YtglfhmlcmffoaaaGreat
open Go.RowKit
set_option linter.unusedVariables false
set_option linter.unusedSimpArgs false

theorem sq_add (r p : Int) : (r + p + p) * (r + p + p) = (r + 2 * p) * (r + 2 * p) := by rw [show r + p + p = r + 2 * p by omega]

set_option maxHeartbeats 1000000 in
theorem root_any (n : Int) (w : World) (h0 : 0 ≤ n) (h1 : n ≤ 18446744073709551615) :
    Calls Tryz.prog 179 #[.int .u64 n] w fun e w' => e = .returned (.int .u32 (rootI n)) ∧ w' = w := by
  go_enter Tryz.func179, Tryz.ntmps179
  go_wp2
  go_step3
  go_wp2
  go_step3
  go_wp2
  go_loopw [3, 4] (fun s d wr => ∃ (r : Int) (k : Nat), s = .int .u64 r ∧ d = .int .u64 ((2 : Int) ^ k / 2) ∧ 0 ≤ r ∧ r + (2 : Int) ^ k ≤ 4294967296 ∧ r * r ≤ n ∧ n < (r + (2 : Int) ^ k) * (r + (2 : Int) ^ k) ∧ wr = w) (fun _ d _ => (intOf d).toNat)
  case atStart => exact ⟨0, 32, rfl, rfl, by omega, by decide, by omega, by simp; omega, rfl⟩
  case round =>
    obtain ⟨r, k, rfl, rfl, hr0, hr1, hr2, hr3, rfl⟩ := hrel
    cases k with
    | zero =>
      have hR : IsRoot n r := ⟨hr0, hr2, by simpa using hr3⟩
      have HE := hide (rootI_eq hR)
      have hrn : r ≤ 4294967295 := by simp at hr1; omega
      clear hR hr3 hr2 hr1
      go_wp2
      try rw [Exit.noGoto_ret]
      go_ret
      exact ⟨by rw [unhide HE]; rfl, rfl⟩
    | succ k =>
      have hp : (2 : Int) ^ (k + 1) = 2 * (2 : Int) ^ k := by rw [Int.pow_succ]; omega
      have hP : 0 < (2 : Int) ^ k := Int.pow_pos (by decide)
      rw [hp] at hr1 hr3 ⊢
      have hd : 2 * (2 : Int) ^ k / 2 = (2 : Int) ^ k := by omega
      rw [hd]
      have hq := hide (show ∀ x, x = (2 : Int) ^ k → x / 2 = (2 : Int) ^ k / 2 from fun x h => by rw [h])
      generalize hPe : (2 : Int) ^ k = P at *
      have HPe := hide hPe
      clear hPe hp hd
      have hs0 : 0 ≤ (r + P) * (r + P) := Int.mul_nonneg (by omega) (by omega)
      have hs1 : (r + P) * (r + P) < 18446744073709551616 := sq_lt (b := 4294967296) (by omega) (by omega)
      have H3 := hide hr3
      have H2 := hide hr2
      clear hr3 hr2
      have hPd : decide (0 < P) = true := by simp; omega
      have hpd : decide (P > 0) = true := by simp; omega
      by_cases c1 : (r + P) * (r + P) < n
      · have d1 : decide ((r + P) * (r + P) < n) = true := by simp; omega
        go_wp2
        go_roundw
        case rel =>
          refine ⟨r + P, k, rfl, by rw [unhide HPe], by omega, by rw [unhide HPe]; omega, by omega, ?_, trivial⟩
          rw [unhide HPe, sq_add]
          exact unhide H3
        case measure => simp [intOf]; omega
      · have d1 : decide ((r + P) * (r + P) < n) = false := by simp; omega
        by_cases c2 : (r + P) * (r + P) = n
        · have d2 : ((r + P) * (r + P) == n) = true := by simp; omega
          have hR : IsRoot n (r + P) := ⟨by omega, by omega, by have := sq_lt (a := r + P) (b := r + P + 1) (by omega) (by omega); omega⟩
          have HE := hide (rootI_eq hR)
          clear hR c2
          go_wp2
          try rw [Exit.noGoto_ret]
          go_ret
          exact ⟨by rw [unhide HE]; rfl, rfl⟩
        · have d2 : ((r + P) * (r + P) == n) = false := by simp; omega
          go_wp2
          go_roundw
          case rel => exact ⟨r, k, rfl, by rw [unhide HPe], by omega, by rw [unhide HPe]; omega, unhide H2, by rw [unhide HPe]; omega, trivial⟩
          case measure => simp [intOf]; omega

set_option maxHeartbeats 1000000 in
theorem refRoot_any (n : Int) (w : World) (h0 : 0 ≤ n) (h1 : n ≤ 18446744073709551615) :
    Calls Tryz.prog 82 #[.int .u64 n] w fun e w' => e = .returned (.int .u64 (rootI n)) ∧ w' = w := by
  go_enter Tryz.func82, Tryz.ntmps82
  go_wp2
  go_loopw [3, 4] (fun s d wr => ∃ (l h : Int), s = .int .u64 l ∧ d = .int .u64 h ∧ 0 ≤ l ∧ l < h ∧ h ≤ 4294967296 ∧ l * l ≤ n ∧ n < h * h ∧ wr = w) (fun l h _ => (intOf h - intOf l).toNat)
  case atStart => exact ⟨0, 4294967296, rfl, rfl, by omega, by omega, by omega, by omega, by omega, rfl⟩
  case round =>
    obtain ⟨l, h, rfl, rfl, hl0, hlh, hh, hl, hn, rfl⟩ := hrel
    have hm1 : l ≤ (l + h) / 2 := by omega
    have hm2 : (l + h) / 2 < h ∨ h ≤ l + 1 := by omega
    by_cases c0 : 1 < h - l
    · have d0 : decide (1 < h - l) = true := by simp; omega
      have d0' : decide (h - l > 1) = true := by simp; omega
      have hm3 : l < (l + h) / 2 := by omega
      have hm4 : (l + h) / 2 < h := by omega
      generalize hme : (l + h) / 2 = m at *
      have Hm := hide hme
      have hs0 : 0 ≤ m * m := Int.mul_nonneg (by omega) (by omega)
      have hs1 : m * m < 18446744073709551616 := sq_lt (b := 4294967296) (by omega) (by omega)
      by_cases c1 : m * m ≤ n
      · have d1 : decide (m * m ≤ n) = true := by simp; omega
        go_wp2
        go_roundw
        case rel => exact ⟨m, h, by rw [unhide Hm], rfl, by omega, by omega, by omega, by omega, hn, trivial⟩
        case measure => simp [intOf]; omega
      · have d1 : decide (m * m ≤ n) = false := by simp; omega
        go_wp2
        go_roundw
        case rel => exact ⟨l, m, rfl, by rw [unhide Hm], by omega, by omega, by omega, hl, by omega, trivial⟩
        case measure => simp [intOf]; omega
    · have d0 : decide (1 < h - l) = false := by simp; omega
      have d0' : decide (h - l > 1) = false := by simp; omega
      obtain rfl : h = l + 1 := by omega
      have HE := hide (rootI_eq ⟨hl0, hl, hn⟩)
      clear hl hn
      go_wp2
      go_ret
      exact ⟨by rw [unhide HE]; rfl, rfl⟩

/-- The raw of the square root. -/
def sqrtI (x : Int) : Int := if x ≤ 0 then 0 else rawI (rootI (x * 65536))
/-- The raw of one over the square root. -/
def invI (x : Int) : Int := if x ≤ 0 then 2147483647 else rawI (rootI (281474976710656 / x))

theorem ofRoot_any (n : Int) (w : World) (h0 : 0 ≤ n) (h1 : n ≤ 18446744073709551615) :
    Calls Tryz.prog 149 #[.int .u64 n] w fun e w' => e = .returned (.int .i32 (rawI (rootI n))) ∧ w' = w := by
  have hb := rootI_u32 h0 h1
  go_enter Tryz.func149, Tryz.ntmps149
  go_wp2_with fail
  refine (root_any n _ h0 h1).mono ?_
  rintro e w1 ⟨rfl, rfl⟩
  generalize hr : rootI n = r at *
  have HR := hide hr
  clear hr
  go_wp2_with fail
  refine (raw_any _ _).mono ?_
  rintro e w1 ⟨rfl, rfl⟩
  go_wp2
  go_ret
  exact ⟨by rw [unhide HR]; rfl, rfl⟩

theorem sqrt_any (x : Int) (w : World) (h : I32 x) :
    Calls Tryz.prog 183 #[.int .i32 x] w fun e w' => e = .returned (.int .i32 (sqrtI x)) ∧ w' = w := by
  unfold I32 at h
  go_enter Tryz.func183, Tryz.ntmps183
  by_cases h0 : x ≤ 0
  · have hE := hide (show sqrtI x = 0 by simp [sqrtI, h0])
    go_wp2
    go_ret
    exact ⟨by rw [unhide hE]; rfl, rfl⟩
  · have hE := hide (show sqrtI x = rawI (rootI (x * 65536)) by simp [sqrtI, h0])
    go_wp2_with fail
    refine (ofRoot_any _ _ (by omega) (by omega)).mono ?_
    rintro e w1 ⟨rfl, rfl⟩
    rw [← unhide hE]
    go_wp2
    go_ret
    exact ⟨rfl, rfl⟩

theorem quo_u {x : Int} (h : 0 < x) (h2 : x ≤ 2147483647) : 131072 ≤ 281474976710656 / x ∧ 281474976710656 / x ≤ 281474976710656 := by
  constructor
  · exact (Int.le_ediv_iff_mul_le h).2 (by omega)
  · exact Int.ediv_le_self _ (by omega)

theorem invSqrt_any (x : Int) (w : World) (h : I32 x) :
    Calls Tryz.prog 184 #[.int .i32 x] w fun e w' => e = .returned (.int .i32 (invI x)) ∧ w' = w := by
  unfold I32 at h
  go_enter Tryz.func184, Tryz.ntmps184
  by_cases h0 : x ≤ 0
  · have hE := hide (show invI x = 2147483647 by simp [invI, h0])
    go_wp2
    go_ret
    exact ⟨by rw [unhide hE]; rfl, rfl⟩
  · have hE := hide (show invI x = rawI (rootI (281474976710656 / x)) by simp [invI, h0])
    have hq := quo_u (x := x) (by omega) (by omega)
    have hx0 : (x == 0) = false := by simp; omega
    go_wp2_with fail
    refine (ofRoot_any _ _ (by omega) (by omega)).mono ?_
    rintro e w1 ⟨rfl, rfl⟩
    rw [← unhide hE]
    go_wp2
    go_ret
    exact ⟨rfl, rfl⟩

theorem root_small {x : Int} (h : 0 < x) (h2 : x ≤ 2147483647) : 0 ≤ rootI (x * 65536) ∧ rootI (x * 65536) ≤ 16777216 := by
  have h := rootI_spec (n := x * 65536) (by omega)
  have h2 := lt_of_sq (a := rootI (x * 65536)) (b := 16777216) (by omega) (by have := h.2.1; omega)
  exact ⟨h.1, by omega⟩

theorem refSqrt_any (x : Int) (w : World) (h : I32 x) :
    Calls Tryz.prog 90 #[.int .i32 x] w fun e w' => e = .returned (.int .i32 (sqrtI x)) ∧ w' = w := by
  unfold I32 at h
  go_enter Tryz.func90, Tryz.ntmps90
  by_cases h0 : x ≤ 0
  · have hE := hide (show sqrtI x = 0 by simp [sqrtI, h0])
    go_wp2
    go_ret
    exact ⟨by rw [unhide hE]; rfl, rfl⟩
  · have hs := root_small (x := x) (by omega) (by omega)
    have hE := hide (show sqrtI x = rootI (x * 65536) by simp only [sqrtI, h0, if_false]; exact rawI_id (by unfold I32; omega))
    go_wp2_with fail
    refine (refRoot_any _ _ (by omega) (by omega)).mono ?_
    rintro e w1 ⟨rfl, rfl⟩
    go_wp2
    go_ret
    exact ⟨by rw [unhide hE]; rfl, rfl⟩

theorem refInvSqrt_any (x : Int) (w : World) (h : I32 x) :
    Calls Tryz.prog 91 #[.int .i32 x] w fun e w' => e = .returned (.int .i32 (invI x)) ∧ w' = w := by
  unfold I32 at h
  go_enter Tryz.func91, Tryz.ntmps91
  by_cases h0 : x ≤ 0
  · have hE := hide (show invI x = 2147483647 by simp [invI, h0])
    go_wp2
    go_ret
    exact ⟨by rw [unhide hE]; rfl, rfl⟩
  · have hE := hide (show invI x = rawI (rootI (281474976710656 / x)) by simp [invI, h0])
    have hq := quo_u (x := x) (by omega) (by omega)
    have hx0 : (x == 0) = false := by simp; omega
    have hr := rootI_u32 (n := 281474976710656 / x) (by omega) (by omega)
    go_wp2_with fail
    refine (refRoot_any _ _ (by omega) (by omega)).mono ?_
    rintro e w1 ⟨rfl, rfl⟩
    generalize rootI (281474976710656 / x) = r at *
    go_wp2_with fail
    refine (refRaw_any _ _ (by unfold I64; omega)).mono ?_
    rintro e w1 ⟨rfl, rfl⟩
    rw [← unhide hE]
    go_wp2
    go_ret
    exact ⟨rfl, rfl⟩

end Go.Proofs.YtglfhmlcmffoaaaGreat

/-
  Plain facts on powers of 2 and logarithms, digit by digit. Nothing here speaks of the program.
-/
namespace Go.Proofs.YtglfhmlcmffoaaaGreat
set_option linter.unusedVariables false

/-- The powers' table. -/
def tabI (k : Nat) : Int := [1518500250, 1276901417, 1170923762, 1121280436, 1097253708, 1085434106, 1079572136, 1076653033, 1075196443, 1074468888, 1074105294, 1073923544, 1073832680, 1073787251, 1073764537, 1073753181].getD k 0
/-- 2 to the power of f's first k digits, with 30 bits behind the point. -/
def powI (f : Int) : Nat → Int
  | 0 => 1073741824
  | k + 1 => if f / 2 ^ (15 - (k : Int)).toNat % 2 = 1 then powI f k * tabI k / 1073741824 else powI f k

theorem tab_bounds : ∀ k, k < 16 → 1073741824 < tabI k ∧ tabI k < 2147483648 := by decide
/-- All digits 1. -/
def topI : Nat → Int
  | 0 => 1073741824
  | k + 1 => topI k * tabI k / 1073741824
theorem top_bounds : ∀ k, k < 17 → topI k < 2147483648 := by decide

theorem step_up {r t : Int} (hr : 0 ≤ r) (ht : 1073741824 ≤ t) : r ≤ r * t / 1073741824 := by
  refine (Int.le_ediv_iff_mul_le (by decide)).2 ?_
  exact Int.mul_le_mul_of_nonneg_left ht hr
theorem powI_lo (f : Int) : ∀ k, k ≤ 16 → 1073741824 ≤ powI f k
  | 0, _ => by simp [powI]
  | k + 1, hk => by
    have ih := powI_lo f k (by omega)
    have := step_up (r := powI f k) (t := tabI k) (by omega) (by have := tab_bounds k (by omega); omega)
    unfold powI
    split <;> omega
theorem top_up : ∀ k, k < 16 → topI k ≤ topI (k + 1) := by decide
theorem powI_hi (f : Int) : ∀ k, k ≤ 16 → powI f k ≤ topI k
  | 0, _ => by simp [powI, topI]
  | k + 1, hk => by
    have ih := powI_hi f k (by omega)
    have hT := tab_bounds k (by omega)
    have hu := top_up k (by omega)
    have h0 := powI_lo f k (by omega)
    unfold powI
    split
    · unfold topI
      exact Int.ediv_le_ediv (by decide) (Int.mul_le_mul_of_nonneg_right ih (by omega))
    · omega
theorem powI_bounds (f : Int) (k : Nat) (hk : k ≤ 16) : 1073741824 ≤ powI f k ∧ powI f k < 2147483648 := by
  have h1 := powI_lo f k hk
  have h2 := powI_hi f k hk
  have h3 := top_bounds k (by omega)
  omega
theorem powI_mul (f : Int) (k : Nat) (hk : k < 16) : 0 ≤ powI f k * tabI k ∧ powI f k * tabI k < 4611686018427387904 := by
  have h1 := powI_bounds f k (by omega)
  have h2 := tab_bounds k hk
  refine ⟨Int.mul_nonneg (by omega) (by omega), ?_⟩
  have h3 : powI f k * tabI k ≤ 2147483647 * tabI k := Int.mul_le_mul_of_nonneg_right (by omega) (by omega)
  omega

/-- The product of the last m powers of the table. -/
def tlI : Nat → Int
  | 0 => 1
  | m + 1 => tabI (15 - m) * tlI m
theorem tl_pos : ∀ m, m < 17 → 0 < tlI m := by decide
theorem tl_gap : ∀ m, m < 16 → 1073741824 ^ m + 1073741824 * tlI m ≤ tabI (15 - m) * 1073741824 ^ m := by decide

theorem half_pow (f : Int) (m : Nat) : f / 2 ^ m / 2 = f / 2 ^ (m + 1) := by
  rw [Int.pow_succ, Int.ediv_ediv_of_nonneg (by exact Int.le_of_lt (Int.pow_pos (by decide)))]

theorem pow_keep {pf pg qf qg T t X : Int} (ht : 0 ≤ t) (hX : 0 ≤ X) (hg : pg ≤ qg) (hf : qf * 1073741824 ≤ pf * T) (h : pf * (T * t) ≤ pg * (X * 1073741824)) : qf * t ≤ qg * X := by
  have h1 : qf * 1073741824 * t ≤ pf * T * t := Int.mul_le_mul_of_nonneg_right hf ht
  have h2 : pg * X ≤ qg * X := Int.mul_le_mul_of_nonneg_right hg hX
  have e1 : qf * 1073741824 * t = 1073741824 * (qf * t) := by rw [Int.mul_comm qf, Int.mul_assoc]
  have e2 : pf * (T * t) = pf * T * t := by rw [Int.mul_assoc]
  have e3 : pg * (X * 1073741824) = 1073741824 * (pg * X) := by rw [← Int.mul_assoc, Int.mul_comm]
  omega
theorem pow_part {r T t X : Int} (hr : 1073741824 ≤ r) (hX : 0 ≤ X) (hgap : X + 1073741824 * t ≤ T * X) : r * t ≤ r * T / 1073741824 * X := by
  have h1 : r * (X + 1073741824 * t) ≤ r * (T * X) := Int.mul_le_mul_of_nonneg_left hgap (by omega)
  have h2 : r * T ≤ r * T / 1073741824 * 1073741824 + 1073741824 := by omega
  have h3 : r * T * X ≤ (r * T / 1073741824 * 1073741824 + 1073741824) * X := Int.mul_le_mul_of_nonneg_right h2 hX
  have h4 : 1073741824 * X ≤ r * X := Int.mul_le_mul_of_nonneg_right hr hX
  generalize r * T / 1073741824 = z at *
  have e1 : r * (X + 1073741824 * t) = r * X + 1073741824 * (r * t) := by rw [Int.mul_add, Int.mul_left_comm]
  have e2 : (z * 1073741824 + 1073741824) * X = 1073741824 * (z * X) + 1073741824 * X := by rw [Int.add_mul, Int.mul_comm z, Int.mul_assoc]
  have e3 : r * (T * X) = r * T * X := by rw [Int.mul_assoc]
  omega

theorem powI_down (f : Int) (k : Nat) (hk : k < 16) : powI f (k + 1) * 1073741824 ≤ powI f k * tabI k := by
  have h1 := powI_bounds f k (by omega)
  have h2 := tab_bounds k hk
  have h3 : powI f k * 1073741824 ≤ powI f k * tabI k := Int.mul_le_mul_of_nonneg_left (by omega) (by omega)
  rw [show powI f (k + 1) = if f / 2 ^ (15 - (k : Int)).toNat % 2 = 1 then powI f k * tabI k / 1073741824 else powI f k from rfl]
  split <;> omega
theorem powI_up (f : Int) (k : Nat) (hk : k < 16) : powI f k ≤ powI f (k + 1) := by
  have h1 := powI_bounds f k (by omega)
  have h2 := tab_bounds k hk
  have h3 := step_up (r := powI f k) (t := tabI k) (by omega) (by omega)
  rw [show powI f (k + 1) = if f / 2 ^ (15 - (k : Int)).toNat % 2 = 1 then powI f k * tabI k / 1073741824 else powI f k from rfl]
  split <;> omega

theorem pow_order (f g : Int) (hf : 0 ≤ f) (hf2 : f < 65536) (hg : 0 ≤ g) (hg2 : g < 65536) : ∀ k m, k + m = 16 → (f / 2 ^ m = g / 2 ^ m → powI f k = powI g k) ∧ (f / 2 ^ m < g / 2 ^ m → powI f k * tlI m ≤ powI g k * 1073741824 ^ m)
  | 0, m, h => by
    obtain rfl : m = 16 := by omega
    refine ⟨fun _ => rfl, fun h => ?_⟩
    rw [show (2 : Int) ^ 16 = 65536 from rfl] at h
    omega
  | k + 1, m, h => by
    obtain ⟨i1, i2⟩ := pow_order f g hf hf2 hg hg2 k (m + 1) (by omega)
    rw [← half_pow, ← half_pow] at i1 i2
    have hm : (15 - (k : Int)).toNat = m := by omega
    have ef : powI f (k + 1) = if f / 2 ^ m % 2 = 1 then powI f k * tabI k / 1073741824 else powI f k := by rw [← hm]; rfl
    have eg : powI g (k + 1) = if g / 2 ^ m % 2 = 1 then powI g k * tabI k / 1073741824 else powI g k := by rw [← hm]; rfl
    have hk : tabI (15 - m) = tabI k := by rw [show 15 - m = k by omega]
    have ht := tl_pos m (by omega)
    have hX : (0 : Int) < 1073741824 ^ m := Int.pow_pos (by decide)
    refine ⟨fun e => ?_, fun hlt => ?_⟩
    · rw [ef, eg, i1 (by omega), e]
    · by_cases c : f / 2 ^ m / 2 < g / 2 ^ m / 2
      · have h2 := i2 c
        rw [show tlI (m + 1) = tabI (15 - m) * tlI m from rfl, hk, Int.pow_succ] at h2
        exact pow_keep (by omega) (by omega) (powI_up g k (by omega)) (powI_down f k (by omega)) h2
      · have e1 := i1 (by omega)
        have hgap := tl_gap m (by omega)
        rw [hk] at hgap
        rw [ef, eg, if_neg (by omega), if_pos (by omega), e1]
        exact pow_part (powI_bounds g k (by omega)).1 (by omega) hgap

theorem powI_mono {f g : Int} (hf : 0 ≤ f) (h : f ≤ g) (hg : g < 65536) : powI f 16 ≤ powI g 16 := by
  obtain ⟨h1, h2⟩ := pow_order f g hf (by omega) (by omega) hg 16 0 rfl
  simp only [Int.pow_zero, Int.ediv_one, tlI, Int.mul_one] at h1 h2
  rcases (by omega : f = g ∨ f < g) with rfl | h3
  · exact Int.le_refl _
  · exact h2 h3

/-- The raw of 2 to the power of the number of raw x. -/
def exp2I (x : Int) : Int := if 15 ≤ x / 65536 then 2147483647 else if x / 65536 < -30 then 0 else powI (x % 65536) 16 / 2 ^ (14 - x / 65536).toNat

theorem pow2_pos (n : Nat) : (0 : Int) < 2 ^ n := Int.pow_pos (by decide)
theorem exp2_part (f : Int) (n : Nat) : 0 ≤ powI f 16 / 2 ^ n ∧ powI f 16 / 2 ^ n ≤ 2147483647 := by
  have h := powI_bounds f 16 (by omega)
  refine ⟨Int.ediv_nonneg (by omega) (Int.le_of_lt (pow2_pos n)), ?_⟩
  exact Int.le_trans (Int.ediv_le_self _ (by omega)) (by omega)
theorem exp2I_bounds (x : Int) : 0 ≤ exp2I x ∧ exp2I x ≤ 2147483647 := by
  unfold exp2I
  split
  · omega
  · split
    · omega
    · exact exp2_part _ _
theorem exp2I_i32 (x : Int) : I32 (exp2I x) := by
  have := exp2I_bounds x
  unfold I32
  omega
theorem exp2I_mono {x y : Int} (h : x ≤ y) : exp2I x ≤ exp2I y := by
  have hn : x / 65536 ≤ y / 65536 := by omega
  have hx := exp2I_bounds x
  by_cases c1 : 15 ≤ y / 65536
  · rw [show exp2I y = 2147483647 by simp [exp2I, c1]]
    omega
  by_cases c2 : x / 65536 < -30
  · rw [show exp2I x = 0 by unfold exp2I; rw [if_neg (by omega), if_pos c2]]
    exact (exp2I_bounds y).1
  rw [show exp2I x = powI (x % 65536) 16 / 2 ^ (14 - x / 65536).toNat by unfold exp2I; rw [if_neg (by omega), if_neg (by omega)]]
  rw [show exp2I y = powI (y % 65536) 16 / 2 ^ (14 - y / 65536).toNat by unfold exp2I; rw [if_neg (by omega), if_neg (by omega)]]
  rcases (by omega : x / 65536 = y / 65536 ∨ x / 65536 < y / 65536) with e | hlt
  · rw [e]
    exact Int.ediv_le_ediv (pow2_pos _) (powI_mono (by omega) (by omega) (by omega))
  · obtain ⟨d, hd⟩ : ∃ d : Nat, (14 - x / 65536).toNat = (14 - y / 65536).toNat + 1 + d := ⟨(14 - x / 65536).toNat - ((14 - y / 65536).toNat + 1), by omega⟩
    rw [hd]
    have hp := powI_bounds (x % 65536) 16 (by omega)
    have hq := powI_bounds (y % 65536) 16 (by omega)
    generalize powI (x % 65536) 16 = P at *
    generalize powI (y % 65536) 16 = Q at *
    generalize (14 - y / 65536).toNat = a at *
    have h1 : P / 2 ^ (a + 1 + d) = P / 2 / 2 ^ a / 2 ^ d := by
      have e1 : P / 2 / 2 ^ a = P / (2 * 2 ^ a) := Int.ediv_ediv_of_nonneg (by decide)
      rw [e1, Int.ediv_ediv_of_nonneg (Int.mul_nonneg (by decide) (Int.le_of_lt (pow2_pos a)))]
      congr 1
      rw [Int.pow_add, Int.pow_succ, Int.mul_comm (2 ^ a) 2]
    rw [h1]
    have h2 : P / 2 / 2 ^ a ≤ Q / 2 ^ a := Int.ediv_le_ediv (pow2_pos a) (by omega)
    have h3 : 0 ≤ P / 2 / 2 ^ a := Int.ediv_nonneg (by omega) (Int.le_of_lt (pow2_pos a))
    exact Int.le_trans (Int.ediv_le_self _ h3) h2

/-- What is left of m, squared k times. -/
def lgM (m : Int) : Nat → Int
  | 0 => m
  | k + 1 => if 2147483648 ≤ lgM m k * lgM m k / 1073741824 then lgM m k * lgM m k / 1073741824 / 2 else lgM m k * lgM m k / 1073741824
/-- The first k digits of m's logarithm. -/
def lgD (m : Int) : Nat → Int
  | 0 => 0
  | k + 1 => if 2147483648 ≤ lgM m k * lgM m k / 1073741824 then 2 * lgD m k + 1 else 2 * lgD m k

theorem sq_bounds {m : Int} (h0 : 1073741824 ≤ m) (h1 : m < 2147483648) : 1152921504606846976 ≤ m * m ∧ m * m < 4611686018427387904 := by
  refine ⟨?_, ?_⟩
  · have : 1073741824 * 1073741824 ≤ m * m := Int.mul_le_mul h0 h0 (by omega) (by omega)
    omega
  · have : m * m ≤ 2147483647 * 2147483647 := Int.mul_le_mul (by omega) (by omega) (by omega) (by omega)
    omega
theorem lgM_bounds {m : Int} (h0 : 1073741824 ≤ m) (h1 : m < 2147483648) : ∀ k, 1073741824 ≤ lgM m k ∧ lgM m k < 2147483648
  | 0 => ⟨h0, h1⟩
  | k + 1 => by
    have ih := lgM_bounds h0 h1 k
    have hs := sq_bounds ih.1 ih.2
    unfold lgM
    split <;> omega
theorem lgD_bounds (m : Int) : ∀ k, 0 ≤ lgD m k ∧ lgD m k < 2 ^ k
  | 0 => by simp [lgD]
  | k + 1 => by
    have ih := lgD_bounds m k
    unfold lgD
    rw [Int.pow_succ]
    split <;> omega
theorem lgM_succ (m : Int) (k : Nat) : lgM m (k + 1) = if 2147483648 ≤ lgM m k * lgM m k / 1073741824 then lgM m k * lgM m k / 1073741824 / 2 else lgM m k * lgM m k / 1073741824 := rfl
theorem lgD_succ (m : Int) (k : Nat) : lgD m (k + 1) = if 2147483648 ≤ lgM m k * lgM m k / 1073741824 then 2 * lgD m k + 1 else 2 * lgD m k := rfl
theorem lg_order {m n : Int} (h0 : 1073741824 ≤ m) (h : m ≤ n) (h1 : n < 2147483648) : ∀ k, lgD m k < lgD n k ∨ lgD m k = lgD n k ∧ lgM m k ≤ lgM n k
  | 0 => .inr ⟨rfl, h⟩
  | k + 1 => by
    rcases lg_order h0 h h1 k with ih | ⟨ih, im⟩
    · left
      unfold lgD
      split <;> split <;> omega
    · have hm := lgM_bounds (m := m) h0 (by omega) k
      have hs : lgM m k * lgM m k / 1073741824 ≤ lgM n k * lgM n k / 1073741824 := Int.ediv_le_ediv (by decide) (Int.mul_le_mul im im (by omega) (by omega))
      rw [lgD_succ, lgD_succ, lgM_succ, lgM_succ]
      generalize lgM m k * lgM m k / 1073741824 = a at *
      generalize lgM n k * lgM n k / 1073741824 = b at *
      split <;> split <;> omega
theorem lgD_mono {m n : Int} (h0 : 1073741824 ≤ m) (h : m ≤ n) (h1 : n < 2147483648) (k : Nat) : lgD m k ≤ lgD n k := by
  rcases lg_order h0 h h1 k with h | h <;> omega

theorem pow2_le {a b : Nat} (h : a ≤ b) : (2 : Int) ^ a ≤ 2 ^ b := by
  obtain ⟨d, rfl⟩ : ∃ d, b = a + d := ⟨b - a, by omega⟩
  rw [Int.pow_add]
  have h1 := pow2_pos a
  have h2 := pow2_pos d
  have h3 : (2 : Int) ^ a * 1 ≤ 2 ^ a * 2 ^ d := Int.mul_le_mul_of_nonneg_left (by omega) (by omega)
  omega
/-- e is the greatest whole number with 2^e at most x. -/
def IsLen (x e : Int) : Prop := 0 ≤ e ∧ e ≤ 30 ∧ 2 ^ e.toNat ≤ x ∧ x < 2 * 2 ^ e.toNat
theorem IsLen.mono {x y e d : Int} (h : IsLen x e) (k : IsLen y d) (hx : x ≤ y) : e ≤ d := by
  obtain ⟨h0, h1, h2, h3⟩ := h
  obtain ⟨k0, k1, k2, k3⟩ := k
  rcases Int.lt_or_le d e with hlt | hle
  · have h4 : (2 : Int) ^ (d.toNat + 1) ≤ 2 ^ e.toNat := pow2_le (by omega)
    rw [Int.pow_succ] at h4
    omega
  · exact hle
theorem IsLen.unique {x e d : Int} (h : IsLen x e) (k : IsLen x d) : e = d := by
  have := h.mono k (Int.le_refl x)
  have := k.mono h (Int.le_refl x)
  omega
/-- The greatest whole number with 2^e at most x. -/
def lenI (x : Int) : Int := (Lib.bitLen x.toNat : Int) - 1
theorem lenI_is {x : Int} (h0 : 0 < x) (h1 : x ≤ 2147483647) : IsLen x (lenI x) := by
  obtain ⟨a, b, c⟩ := Lib.bitLenAux_bounds 64 x.toNat (by omega) (by omega)
  have hb : Lib.bitLen x.toNat = Lib.bitLenAux 64 x.toNat := rfl
  unfold lenI
  rw [hb]
  generalize Lib.bitLenAux 64 x.toNat = L at *
  obtain ⟨k, rfl⟩ : ∃ k, L = k + 1 := ⟨L - 1, by omega⟩
  have e1 : (((k + 1 : Nat) : Int) - 1).toNat = k := by omega
  have e2 : (2 : Int) ^ k = ((2 ^ k : Nat) : Int) := by rw [Int.natCast_pow]; rfl
  rw [Nat.pow_succ] at c
  rw [show k + 1 - 1 = k by omega] at b
  have h30 : k ≤ 30 := by
    rcases Nat.lt_or_ge 30 k with h | h
    · have h3 := Nat.pow_le_pow_right (n := 2) (by decide) (show 31 ≤ k from h)
      omega
    · exact h
  refine ⟨by omega, by omega, ?_, ?_⟩ <;> rw [e1, e2] <;> omega
theorem len_mul {x e : Int} (h : IsLen x e) : 1073741824 ≤ x * 2 ^ (30 - e).toNat ∧ x * 2 ^ (30 - e).toNat < 2147483648 := by
  obtain ⟨h0, h1, h2, h3⟩ := h
  have e1 : (2 : Int) ^ e.toNat * 2 ^ (30 - e).toNat = 1073741824 := by
    rw [← Int.pow_add, show e.toNat + (30 - e).toNat = 30 by omega]
    rfl
  have hp := pow2_pos (30 - e).toNat
  have h4 := Int.mul_le_mul_of_nonneg_right h2 (Int.le_of_lt hp)
  have h5 := Int.mul_lt_mul_of_pos_right h3 hp
  rw [Int.mul_assoc] at h5
  omega
/-- The raw of the power of 2 that the number of raw x is. -/
def log2I (x : Int) : Int := if x ≤ 0 then -2147483648 else 65536 * (lenI x - 16) + lgD (x * 2 ^ (30 - lenI x).toNat) 16
theorem log2I_bounds {x : Int} (h0 : 0 < x) (h1 : x ≤ 2147483647) : -1048576 ≤ log2I x ∧ log2I x ≤ 983039 := by
  have hl := lenI_is h0 h1
  have hd := lgD_bounds (x * 2 ^ (30 - lenI x).toNat) 16
  unfold log2I
  rw [if_neg (by omega)]
  have := hl.1
  have := hl.2.1
  rw [show (2 : Int) ^ 16 = 65536 from rfl] at hd
  omega
theorem log2I_i32 {x : Int} (h1 : I32 x) : I32 (log2I x) := by
  unfold I32 at *
  by_cases h : x ≤ 0
  · rw [show log2I x = -2147483648 by simp [log2I, h]]
    omega
  · have := log2I_bounds (x := x) (by omega) (by omega)
    omega
theorem log2I_mono {x y : Int} (h : x ≤ y) (hx : I32 x) (hy : I32 y) : log2I x ≤ log2I y := by
  unfold I32 at hx hy
  by_cases h0 : x ≤ 0
  · rw [show log2I x = -2147483648 by simp [log2I, h0]]
    have := log2I_i32 (x := y) (by unfold I32; omega)
    unfold I32 at this
    omega
  · have hl := lenI_is (x := x) (by omega) (by omega)
    have hm := lenI_is (x := y) (by omega) (by omega)
    have hle := hl.mono hm h
    have hd := lgD_bounds (x * 2 ^ (30 - lenI x).toNat) 16
    have he := lgD_bounds (y * 2 ^ (30 - lenI y).toNat) 16
    have b1 := len_mul hl
    have b2 := len_mul hm
    rw [show (2 : Int) ^ 16 = 65536 from rfl] at hd he
    unfold log2I
    rw [if_neg h0, if_neg (by omega)]
    rcases (by omega : lenI x = lenI y ∨ lenI x < lenI y) with e | hlt
    · rw [e] at b1 ⊢
      have h5 : x * 2 ^ (30 - lenI y).toNat ≤ y * 2 ^ (30 - lenI y).toNat := Int.mul_le_mul_of_nonneg_right h (Int.le_of_lt (pow2_pos _))
      have := lgD_mono b1.1 h5 b2.2 16
      omega
    · omega
end Go.Proofs.YtglfhmlcmffoaaaGreat
