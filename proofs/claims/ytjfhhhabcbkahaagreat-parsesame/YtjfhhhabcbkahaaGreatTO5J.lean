/- Several texts in one. -/
import Derived.Test.YtjfhhhabcbkahaaGreatTO4
import Derived.Test.YtjfhhhabcbkahaaGreatTZb
import Derived.Test.YtjfhhhabcbkahaaGreatXM
import Derived.Deep.RegionWith
import Derived.Deep.RegionHeld3
import Derived.Test.YtjfhhhabcbkahaaGreatTKc
import Derived.Test.YtjfhhhabcbkahaaGreatTZd
/-
  order: the tree of a part, or the first node that lies too deep.
-/
namespace Go.Proofs.YtjfhhhabcbkahaaGreat
open Go.RowKit
set_option linter.unusedVariables false
set_option linter.unusedSimpArgs false

/-- What order answers. -/
def OrdQ (w : World) (x : List Nd) (e : Ending) (w' : World) : Prop := Ext w w' ∧ (match badP 0 x with
  | none => ∃ ao m cap ns base, e = .returned (.tuple #[.agg #[.slice ao m cap], .agg #[.int .i64 0, .int .i64 0]]) ∧ w.heap.size ≤ base ∧ NR w' base (.slice ao m cap) ns ∧ ns.map Prod.snd = absN 0 x
  | some p => e = .returned (.tuple #[.agg #[.slice none 0 0], .agg #[.int .i64 3, .int .i64 p]]))
theorem OrdQ.no {w w' : World} {x : List Nd} {p : Int} (h : badP 0 x = some p) (hx : Ext w w') : OrdQ w x (.returned (.tuple #[.agg #[.slice none 0 0], .agg #[.int .i64 3, .int .i64 p]])) w' := by
  unfold OrdQ
  rw [h]
  exact ⟨hx, rfl⟩
theorem OrdQ.yes {w w' : World} {x : List Nd} {ao : Option Addr} {m cap : Nat} {ns : List Nt} {base : Nat} (h : badP 0 x = none) (hx : Ext w w') (hb : w.heap.size ≤ base) (hn : NR w' base (.slice ao m cap) ns) (he : ns.map Prod.snd = absN 0 x) : OrdQ w x (.returned (.tuple #[.agg #[.slice ao m cap], .agg #[.int .i64 0, .int .i64 0]])) w' := by
  unfold OrdQ
  rw [h]
  exact ⟨hx, ao, m, cap, ns, base, rfl, hb, hn, he⟩
set_option maxHeartbeats 4000000 in
set_option maxRecDepth 100000 in
theorem order_any {lo hi b : Nat} {x : List Nd} (w : World) (hp : PIn w lo hi b x) (hlen : x.length ≤ 100000000) :
    Calls Tryz.prog 20 #[.pointer (some ⟨b, 0, none⟩)] w (OrdQ w x) := by
  have hhi := hp.top
  have hmf : ∀ (fn : Fn) (first cap : Array Value) (w : World), (Instr.makeFunc fn first cap).run Tryz.prog w = .ok (.func fn first cap) w := fun _ _ _ _ => rfl
  have hsf : ∀ (fn : Fn) (first cap : Array Value) (a : Addr) (w : World), (store a (.func fn first cap)).run Tryz.prog w = stored Tryz.prog w a (.func fn first cap) .plain := fun _ _ _ a w => run_store Tryz.prog w a _ .plain rfl
  obtain ⟨w1, h1⟩ : ∃ y, y = w.alloc (.cells #[.slice none 0 0] 24) := ⟨_, rfl⟩
  obtain ⟨w2, h2⟩ : ∃ y, y = w1.alloc (.cells #[.int .i64 0, .int .i64 0] 31) := ⟨_, rfl⟩
  obtain ⟨w3, h3⟩ : ∃ y, y = w2.alloc (.cells #[.slice none 0 0] 22) := ⟨_, rfl⟩
  obtain ⟨w4, h4⟩ : ∃ y, y = w3.alloc (.cells #[.int .i64 0, .int .i64 0] 31) := ⟨_, rfl⟩
  obtain ⟨w5, h5⟩ : ∃ y, y = w4.alloc (.cells #[.func (.func 44) #[] #[.pointer (some ⟨w.heap.size + 1 + 1 + 1, 0, none⟩), .pointer (some ⟨w.heap.size + 1 + 1, 0, none⟩), .pointer (some ⟨w.heap.size + 1 + 1 + 1 + 1, 0, none⟩)]] 75) := ⟨_, rfl⟩
  have z1 : w1.heap.size = w.heap.size + 1 := by rw [h1]; simp
  have z2 : w2.heap.size = w.heap.size + 1 + 1 := by rw [h2]; simp [z1]
  have z3 : w3.heap.size = w.heap.size + 1 + 1 + 1 := by rw [h3]; simp [z2]
  have z4 : w4.heap.size = w.heap.size + 1 + 1 + 1 + 1 := by rw [h4]; simp [z3]
  have z5 : w5.heap.size = w.heap.size + 1 + 1 + 1 + 1 + 1 := by rw [h5]; simp [z4]
  have x1 : Ext w w1 := by rw [h1]; exact (Ext.refl _).alloc _
  have x2 : Ext w1 w2 := by rw [h2]; exact (Ext.refl _).alloc _
  have x3 : Ext w2 w3 := by rw [h3]; exact (Ext.refl _).alloc _
  have x4 : Ext w3 w4 := by rw [h4]; exact (Ext.refl _).alloc _
  have x5 : Ext w4 w5 := by rw [h5]; exact (Ext.refl _).alloc _
  have B0 : Blk w5 (w.heap.size) #[.slice none 0 0] 24 := (((((show Blk w1 (w.heap.size) _ _ by rw [h1]; exact Blk.new _ _ _).ext x2).ext x3).ext x4).ext x5)
  have B1 : Blk w5 (w.heap.size + 1) #[.int .i64 0, .int .i64 0] 31 := ((((show Blk w2 (w.heap.size + 1) _ _ by rw [h2]; exact BlkAt z1).ext x3).ext x4).ext x5)
  have B2 : Blk w5 (w.heap.size + 1 + 1) #[.slice none 0 0] 22 := (((show Blk w3 (w.heap.size + 1 + 1) _ _ by rw [h3]; exact BlkAt z2).ext x4).ext x5)
  have B3 : Blk w5 (w.heap.size + 1 + 1 + 1) #[.int .i64 0, .int .i64 0] 31 := ((show Blk w4 (w.heap.size + 1 + 1 + 1) _ _ by rw [h4]; exact BlkAt z3).ext x5)
  have B4 : Blk w5 (w.heap.size + 1 + 1 + 1 + 1) #[.func (.func 44) #[] #[.pointer (some ⟨w.heap.size + 1 + 1 + 1, 0, none⟩), .pointer (some ⟨w.heap.size + 1 + 1, 0, none⟩), .pointer (some ⟨w.heap.size + 1 + 1 + 1 + 1, 0, none⟩)]] 75 := (show Blk w5 (w.heap.size + 1 + 1 + 1 + 1) _ _ by rw [h5]; exact BlkAt z4)
  have X5 : Ext w w5 := (((x1.trans x2).trans x3).trans x4).trans x5
  have HE : Hid (w5 = ((((w.alloc (.cells #[.slice none 0 0] 24)).alloc (.cells #[.int .i64 0, .int .i64 0] 31)).alloc (.cells #[.slice none 0 0] 22)).alloc (.cells #[.int .i64 0, .int .i64 0] 31)).alloc (.cells #[.func (.func 44) #[] #[.pointer (some ⟨w.heap.size + 1 + 1 + 1, 0, none⟩), .pointer (some ⟨w.heap.size + 1 + 1, 0, none⟩), .pointer (some ⟨w.heap.size + 1 + 1 + 1 + 1, 0, none⟩)]] 75)) := by
    show w5 = _
    rw [h5, h4, h3, h2, h1]
  obtain ⟨r0, hr0⟩ : ∃ y, y = w.heap.size := ⟨_, rfl⟩
  obtain ⟨r1, hr1⟩ : ∃ y, y = w.heap.size + 1 := ⟨_, rfl⟩
  obtain ⟨nb, hnb⟩ : ∃ y, y = w.heap.size + 1 + 1 := ⟨_, rfl⟩
  obtain ⟨sa, hsa⟩ : ∃ y, y = w.heap.size + 1 + 1 + 1 := ⟨_, rfl⟩
  obtain ⟨fb, hfb⟩ : ∃ y, y = w.heap.size + 1 + 1 + 1 + 1 := ⟨_, rfl⟩
  have o0 : w.heap.size ≤ r0 := by omega
  have o1 : r0 < r1 := by omega
  have o2 : r1 < nb := by omega
  have o3 : nb < sa := by omega
  have o4 : sa < fb := by omega
  have o5 : fb < w5.heap.size := by omega
  have o6 : w.heap.size ≤ w5.heap.size := by omega
  rw [← hfb, ← hsa, ← hnb] at B4
  rw [← hsa] at B3
  rw [← hnb] at B2
  rw [← hr1] at B1
  rw [← hr0] at B0
  have hos : OS w5 hi w5.heap.size sa nb fb (.slice none 0 0) [] := ⟨B3, B2, B4, NR.nil _ _, by omega, o3, o4, o5, Nat.le_refl _⟩
  obtain ⟨n, hpt⟩ := (hp.ext X5).ex
  have HC := hide (put_any n w5 b x 0 none 0 0 [] hpt hos (by simpa using hlen) (by omega))
  have HB0 := hide B0; have HB1 := hide B1; have HX5 := hide X5; have HR0 := hide hr0; have HR1 := hide hr1; have HNB := hide hnb; have HSA := hide hsa; have HFB := hide hfb
  clear B0 B1 B2 B3 B4 X5 x1 x2 x3 x4 x5 z1 z2 z3 z4 z5 h1 h2 h3 h4 h5 hr0 hr1 hnb hsa hfb hos hpt hp
  obtain ⟨o, ho⟩ : ∃ o, badP 0 x = o := ⟨_, rfl⟩
  have HO := hide ho
  clear ho hlen hhi
  go_enter Tryz.func20, Tryz.ntmps20
  go_wp2_with fail
  rw [← unhide HE, ← unhide HFB, ← unhide HSA, ← unhide HNB, ← unhide HR1, ← unhide HR0]
  refine (unhide HC).mono ?_
  intro e w6 hq
  unfold OQ at hq
  rw [unhide HO] at hq
  cases o with
  | some p =>
    obtain ⟨hout, rfl, hs⟩ := hq
    have hB0 := (unhide HB0).out hout (fun e => by rcases e with e | e | e <;> omega)
    have hB1 := (unhide HB1).out hout (fun e => by rcases e with e | e | e <;> omega)
    have HX6 := hide (hout.ext0 (unhide HX5) (fun k e => by rcases e with e | e | e <;> omega))
    have c0 := hs.cell (i := 0) (v := .int .i64 3) rfl
    have c1 := hs.cell (i := 1) (v := .int .i64 p) rfl
    have ga := fun j => hB0.free j
    have gb := fun j => hB1.free j
    have HK0 := hide hB0; have HK1 := hide hB1
    clear hout hs hB0 hB1
    have q0 := (unhide HK0).cell (i := 0) (v := .slice none 0 0) rfl
    have q1 := (unhide HK1).cell (i := 0) (v := .int .i64 0) rfl
    have q2 := (unhide HK1).cell (i := 1) (v := .int .i64 0) rfl
    go_wp2_with fail
    have e0 : ¬ sa = r0 := by omega
    have e1 : ¬ sa = r1 := by omega
    have e2 : ¬ r1 = r0 := by omega
    have e3 : ¬ r0 = r1 := by omega
    go_region
    all_goals go_wp2
    have k0 := (((unhide HK0).set 0 (.slice none 0 0)).other 0 (.int .i64 3) (show r0 ≠ r1 by omega)).other 1 (.int .i64 p) (show r0 ≠ r1 by omega)
    have k1 := (((unhide HK1).other 0 (.slice none 0 0) (show r1 ≠ r0 by omega)).set 0 (.int .i64 3)).set 1 (.int .i64 p)
    have hfin : OrdQ w x (.returned (.tuple #[.agg #[.slice none 0 0], .agg #[.int .i64 3, .int .i64 p]])) (((w6.setCell ⟨r0, 0, none⟩ (.slice none 0 0)).setCell ⟨r1, 0, none⟩ (.int .i64 3)).setCell ⟨r1, 1, none⟩ (.int .i64 p)).drew :=
      OrdQ.no (unhide HO) (Ext.drew (setX (setX (setX (unhide HX6) o0) (by omega)) (by omega)))
    have s0 : ((((w6.setCell ⟨r0, 0, none⟩ (.slice none 0 0)).setCell ⟨r1, 0, none⟩ (.int .i64 3)).setCell ⟨r1, 1, none⟩ (.int .i64 p)).drew).cell? ⟨r0, 0, none⟩ = some (.slice none 0 0) := k0.cell (i := 0) (v := .slice none 0 0) rfl
    have s1 : ((((w6.setCell ⟨r0, 0, none⟩ (.slice none 0 0)).setCell ⟨r1, 0, none⟩ (.int .i64 3)).setCell ⟨r1, 1, none⟩ (.int .i64 p)).drew).cell? ⟨r1, 0, none⟩ = some (.int .i64 3) := k1.cell (i := 0) (v := .int .i64 3) rfl
    have s2 : ((((w6.setCell ⟨r0, 0, none⟩ (.slice none 0 0)).setCell ⟨r1, 0, none⟩ (.int .i64 3)).setCell ⟨r1, 1, none⟩ (.int .i64 p)).drew).cell? ⟨r1, 1, none⟩ = some (.int .i64 p) := k1.cell (i := 1) (v := .int .i64 p) rfl
    exact bodyPost_ret (v := .tuple #[.agg #[.slice none 0 0], .agg #[.int .i64 3, .int .i64 p]]) (by simp [results, Tryz.results20, go_sem, s0, s1, s2]) rfl hfin
  | none =>
    obtain ⟨hout, rfl, ao, m, cap, ns', hos, he⟩ := hq
    have HNS := hide he
    have hB0 := (unhide HB0).out hout (fun e => by rcases e with e | e | e <;> omega)
    have hB1 := (unhide HB1).out hout (fun e => by rcases e with e | e | e <;> omega)
    have HX6 := hide (hout.ext0 (unhide HX5) (fun k e => by rcases e with e | e | e <;> omega))
    have c0 := hos.var.cell (i := 0) (v := .slice ao m cap) rfl
    have q0 := hB0.cell (i := 0) (v := .slice none 0 0) rfl
    have q1 := hB1.cell (i := 0) (v := .int .i64 0) rfl
    have q2 := hB1.cell (i := 1) (v := .int .i64 0) rfl
    have ga := fun j => hB0.free j
    have gb := fun j => hB1.free j
    have HK0 := hide hB0; have HK1 := hide hB1; have HNR := hide hos.row
    clear hout hos hB0 hB1 he
    go_wp2
    have k0 := (((unhide HK0).set 0 (.slice ao m cap)).other 0 (.int .i64 0) (show r0 ≠ r1 by omega)).other 1 (.int .i64 0) (show r0 ≠ r1 by omega)
    have k1 := (((unhide HK1).other 0 (.slice ao m cap) (show r1 ≠ r0 by omega)).set 0 (.int .i64 0)).set 1 (.int .i64 0)
    have hfin : OrdQ w x (.returned (.tuple #[.agg #[.slice ao m cap], .agg #[.int .i64 0, .int .i64 0]])) (((w6.setCell ⟨r0, 0, none⟩ (.slice ao m cap)).setCell ⟨r1, 0, none⟩ (.int .i64 0)).setCell ⟨r1, 1, none⟩ (.int .i64 0)) :=
      OrdQ.yes (unhide HO) (setX (setX (setX (unhide HX6) o0) (by omega)) (by omega)) o6
        ((((unhide HNR).out (T := fun k => k = r0) (Out.of_grown (grownBy_set _ r0 0 _) (fun k e => by cases e; rfl)) (fun k e => by omega)).out (T := fun k => k = r1) (Out.of_grown (grownBy_set _ r1 0 _) (fun k e => by cases e; rfl)) (fun k e => by omega)).out (T := fun k => k = r1) (Out.of_grown (grownBy_set _ r1 1 _) (fun k e => by cases e; rfl)) (fun k e => by omega)) (by have := unhide HNS; simpa using this)
    have s0 := k0.cell (i := 0) (v := .slice ao m cap) rfl
    have s1 := k1.cell (i := 0) (v := .int .i64 0) rfl
    have s2 := k1.cell (i := 1) (v := .int .i64 0) rfl
    exact bodyPost_ret (v := .tuple #[.agg #[.slice ao m cap], .agg #[.int .i64 0, .int .i64 0]]) (by simp [results, Tryz.results20, go_sem, s0, s1, s2]) rfl hfin
end Go.Proofs.YtjfhhhabcbkahaaGreat

/-
  All tokens of a text: lex.Lex.
-/
namespace Go.Proofs.YtjfhhhabcbkahaaGreat
open Go.RowKit
set_option linter.unusedSimpArgs false
set_option linter.unusedVariables false

/-- Tokens ahead, and what comes of the rest. -/
def comb (acc : List Tok) (r : List Tok × Int × Int) : List Tok × Int × Int := if r.2.1 ≠ 0 then ([], r.2.1, r.2.2) else (acc ++ r.1, 0, 0)
theorem comb_nil (r : List Tok × Int × Int) (h : r.2.1 = 0 → r.2.2 = 0) (h2 : r.2.1 ≠ 0 → r.1 = []) : comb [] r = r := by
  obtain ⟨x, y, z⟩ := r
  unfold comb
  by_cases hy : y = 0
  · rw [if_neg (by simpa using hy)]
    simp only at h
    rw [hy, h hy]
    rfl
  · rw [if_pos hy]
    simp only at h2
    rw [h2 hy]
theorem lexA_form (l : Byts8) : ∀ (a ln : Int) (n : Nat), ((lexA l a ln n).2.1 = 0 → (lexA l a ln n).2.2 = 0) ∧ ((lexA l a ln n).2.1 ≠ 0 → (lexA l a ln n).1 = []) := by
  induction hn : l.length using Nat.strongRecOn generalizing l with
  | _ m ih =>
    intro a ln n
    by_cases h : l = []
    · subst h
      rw [lexA_nil]
      simp
    have hr := piece_room l h
    obtain ⟨k, z, hp⟩ : ∃ k z, pieceP l = (k, z) := ⟨_, _, rfl⟩
    rw [hp] at hr
    simp only at hr
    have hd : (l.drop z).length < m := by rw [List.length_drop]; omega
    by_cases hk : k = -1
    · subst hk
      rw [lexA_gap h hp]
      exact ih _ hd _ rfl _ _ _
    · by_cases ht : (tellP k (l.take z) (l.drop z) n).2 = 0
      · rw [lexA_tok h hp hk a ln n ht]
        split
        · exact ih _ hd _ rfl _ _ _
        · simp
      · rw [lexA_bad h hp hk a ln n ht]
        exact ⟨fun e => absurd e ht, fun _ => rfl⟩
theorem comb_tok {l : Byts8} {k : Int} {z : Nat} (h : l ≠ []) (hp : pieceP l = (k, z)) (hk : k ≠ -1) (acc : List Tok) (a ln : Int) (ht : (tellP k (l.take z) (l.drop z) acc.length).2 = 0) :
    comb acc (lexA l a ln acc.length) = comb (acc ++ [⟨k, l.take z, (tellP k (l.take z) (l.drop z) acc.length).1, a, ln⟩]) (lexA (l.drop z) (a + z) (ln + cntL (l.take z)) (acc.length + 1)) := by
  have hf := lexA_form (l.drop z) (a + z) (ln + cntL (l.take z)) (acc.length + 1)
  rw [lexA_tok h hp hk a ln _ ht]
  generalize lexA (l.drop z) (a + z) (ln + cntL (l.take z)) (acc.length + 1) = r at *
  by_cases hr : r.2.1 = 0
  · have e1 : (if r.2.1 ≠ 0 then r else ((⟨k, l.take z, (tellP k (l.take z) (l.drop z) acc.length).1, a, ln⟩ : Tok) :: r.1, (0 : Int), (0 : Int))) = ((⟨k, l.take z, (tellP k (l.take z) (l.drop z) acc.length).1, a, ln⟩ : Tok) :: r.1, 0, 0) := if_neg (by simpa using hr)
    rw [e1]
    unfold comb
    rw [if_neg (by simp), if_neg (by simpa using hr)]
    simp
  · rw [if_pos hr]
    unfold comb
    rw [if_pos hr, if_pos hr]

theorem blkRow {w : World} {b : Nat} {cs cs' : Array Value} {t : TypeId} (h : Blk w b cs t) : Blk (w.setRow b cs') b cs' t := setRow_heap w b cs cs' t (0, 0) h
theorem blkRowOther {w : World} {b r : Nat} {cs cs' : Array Value} {t : TypeId} (h : Blk w b cs t) (hne : b ≠ r) : Blk (w.setRow r cs') b cs t := (setRow_other w r b cs' hne).trans h
theorem extRow {w w1 : World} {b : Nat} {cs : Array Value} (h : Ext w w1) (hb : w.heap.size ≤ b) : Ext w (w1.setRow b cs) := below_setRow h hb cs
theorem wrapIdX {n : Int} (h0 : 0 ≤ n) (h1 : n < 4611686018427387904) : IntKind.i64.wrap n = n := by
  simp only [IntKind.wrap, IntKind.bits, IntKind.signed, show ((2 : Int) ^ 64) = 18446744073709551616 from rfl, show ((2 : Int) ^ (64 - 1)) = 9223372036854775808 from rfl, Bool.true_and, decide_eq_true_eq, Int.emod_eq_of_lt h0 (show n < 18446744073709551616 by omega)]
  rw [if_neg (by omega)]
theorem sizeRow (w : World) (b : Nat) (cs : Array Value) : (w.setRow b cs).heap.size = w.heap.size := by
  unfold World.setRow
  simp
theorem grownRow (w : World) (b : Nat) (cs : Array Value) : w.grownBy (w.setRow b cs) (some b) :=
  ⟨rfl, rfl, rfl, Nat.le_of_eq (sizeRow _ _ _).symm, fun i hi hn => setRow_other w b i cs (by simpa using hn)⟩
theorem blkAt {w : World} {b : Nat} {cs : Array Value} {t : TypeId} (h : w.heap.size = b) : Blk (w.alloc (.cells cs t)) b cs t := h ▸ Blk.new w cs t
theorem blkGrownO {w w' : World} {b : Nat} {cs : Array Value} {t : TypeId} {row : Option Nat} (h : Blk w b cs t) (hg : w.grownBy w' row) (hne : row ≠ some b) : Blk w' b cs t := (hg.block b h.lt (fun e => hne e.symm)).trans h
theorem sizeTk : (Tryz.prog.info? 44).map (·.size) = some 5 := by kernel_rfl
theorem frame_of (f : (Nat → Value) → Act) (a : Act) (h : a = f (fun i => a.tmps.getD i undef)) : ∃ U, a = f U := ⟨_, h⟩
def spotZ : Array Value := #[.int .i64 0, .int .i64 0]
theorem ext_text (s : ByteArray) (i j : Nat) : s.extract i j = ⟨((s.data.toList.drop i).take (j - i)).toArray⟩ := by
  apply ByteArray.ext
  apply Array.ext'
  rw [Lib.extract_data]
theorem cntL_le (l : Byts8) : cntL l ≤ l.length := by
  unfold cntL Lib.countByte
  exact List.count_le_length

/-- What holds in memory, piece by piece. -/
structure LexI (s : ByteArray) (w wr : World) (v : Value) (acc : List Tok) : Prop where
  own : TO wr (w.heap.size + 2) v acc
  spot : Blk wr w.heap.size spotZ 31
  tok : ∃ (k : Int) (t : ByteArray) (n p l : Int), Blk wr (w.heap.size + 1) #[.int .i64 k, .string t, .int .i32 n, .int .i64 p, .int .i64 l] 44
  ext : Ext w wr
  room : w.heap.size + 2 ≤ wr.heap.size
theorem LexI.ext2 {s : ByteArray} {w wr wx : World} {v : Value} {acc : List Tok} (h : LexI s w wr v acc) (hx : Ext wr wx) : LexI s w wx v acc := by
  obtain ⟨k, t, n, p, l, hb⟩ := h.tok
  exact ⟨h.own.ext hx, h.spot.ext hx, ⟨k, t, n, p, l, hb.ext hx⟩, h.ext.trans hx, Nat.le_trans h.room hx.size⟩

theorem jump2_ret {J0 J1 : Act → World → Prop} {Q : Exit → Act → World → Prop} {a : Act} {w : World} : jump2 J0 J1 Q .ret a w = Q .ret a w := rfl
/-- At the label 'next'. -/
def LexJ0 (s : ByteArray) (w : World) (R : List Tok × Int × Int) (a' : Act) (w' : World) : Prop := ∃ (a : Nat) (ln : Int) (acc : List Tok) (ao : Option Addr) (cap : Nat) (u9 u10 : Value), (∃ U : Nat → Value, a' = { tmps := #[.string s, undef, .slice none 0 0, .pointer (some ⟨w.heap.size, 0, none⟩), .slice ao acc.length cap, .pointer (some ⟨w.heap.size + 1, 0, none⟩), .int .i64 0, .int .i64 (a : Int), .int .i64 ln, u9, u10, U 11, U 12, U 13, U 14, U 15, U 16, U 17, U 18, U 19, U 20, U 21, U 22, U 23, U 24, U 25, U 26, U 27, U 28, U 29, U 30, U 31, U 32, U 33, U 34, U 35, U 36, U 37, U 38, U 39, U 40, U 41, U 42, U 43, U 44, U 45, U 46, U 47, U 48, U 49, U 50, U 51, U 52, U 53, U 54, U 55, U 56, U 57, U 58, U 59, U 60, U 61, U 62, U 63, U 64, U 65, U 66, U 67, U 68, U 69, U 70, U 71, U 72], defers := [] }) ∧ LexI s w w' (.slice ao acc.length cap) acc ∧ a ≤ s.size ∧ acc.length ≤ a ∧ 0 ≤ ln ∧ ln ≤ a ∧ R = comb acc (lexA (s.data.toList.drop a) a ln acc.length)
/-- At the label 'behind'. -/
def LexJ1 (s : ByteArray) (w : World) (R : List Tok × Int × Int) (a' : Act) (w' : World) : Prop := ∃ (a z : Nat) (ln : Int) (acc : List Tok) (ao : Option Addr) (cap : Nat) (u9 : Value), (∃ U : Nat → Value, a' = { tmps := #[.string s, undef, .slice none 0 0, .pointer (some ⟨w.heap.size, 0, none⟩), .slice ao acc.length cap, .pointer (some ⟨w.heap.size + 1, 0, none⟩), .int .i64 0, .int .i64 (a : Int), .int .i64 ln, u9, .int .i64 (z : Int), U 11, U 12, U 13, U 14, U 15, U 16, U 17, U 18, U 19, U 20, U 21, U 22, U 23, U 24, U 25, U 26, U 27, U 28, U 29, U 30, U 31, U 32, U 33, U 34, U 35, U 36, U 37, U 38, U 39, U 40, U 41, U 42, U 43, U 44, U 45, U 46, U 47, U 48, U 49, U 50, U 51, U 52, U 53, U 54, U 55, U 56, U 57, U 58, U 59, U 60, U 61, U 62, U 63, U 64, U 65, U 66, U 67, U 68, U 69, U 70, U 71, U 72], defers := [] }) ∧ LexI s w w' (.slice ao acc.length cap) acc ∧ 1 ≤ z ∧ a + z ≤ s.size ∧ acc.length ≤ a + z ∧ 0 ≤ ln ∧ ln ≤ a ∧ R = comb acc (lexA (s.data.toList.drop (a + z)) (a + z) (ln + cntL ((s.data.toList.drop a).take z)) acc.length)
def lexMu (s : ByteArray) (a' : Act) : Nat := s.size - (intOf (a'.tmps.getD 7 undef)).toNat
/-- What Lex answers. -/
def LexQ (w : World) (R : List Tok × Int × Int) (e : Ending) (w' : World) : Prop := ∃ ao cap, e = .returned (.tuple #[.slice ao R.1.length cap, .agg #[.int .i64 R.2.1, .int .i64 R.2.2]]) ∧ TO w' (w.heap.size + 2) (.slice ao R.1.length cap) R.1 ∧ Ext w w'

set_option maxHeartbeats 4000000 in
set_option maxRecDepth 100000 in
theorem lex_any (s : ByteArray) (w : World) (m : Int) (hm : w.cell? ⟨0, 0, none⟩ = some (.int .i64 m)) :
    Calls Tryz.prog 9 #[.string s] w (LexQ w (lexP s.data.toList)) := by
  have hl := list_size s
  by_cases hbig : 8192 < s.size
  · have he : lexP s.data.toList = ([], 3, 0) := by unfold lexP; rw [if_pos (by omega)]
    rw [he]
    go_enter Tryz.func9, Tryz.ntmps9
    go_wp2
    go_step3
    go_wp2
    rw [Exit.noGoto_ret]
    refine bodyPost_ret (v := .tuple #[.slice none 0 0, .agg #[.int .i64 3, .int .i64 0]]) (by simp [results, Tryz.results9, go_sem]) rfl ⟨none, 0, rfl, TO.nil _ _, (Ext.refl w).alloc _⟩
  have he : lexP s.data.toList = comb [] (lexA s.data.toList 0 0 0) := by
    have := lexA_form s.data.toList 0 0 0
    rw [comb_nil _ this.1 this.2]
    unfold lexP
    rw [if_neg (by omega)]
  generalize lexP s.data.toList = R at *
  have HE := hide he
  have HM := hide hm
  clear he hm
  go_enter Tryz.func9, Tryz.ntmps9
  go_wp2
  refine wp_scope_two
    (LexJ0 s w R) (LexJ1 s w R) (fun a' _ => 2 * lexMu s a') (fun a' _ => 2 * lexMu s a' - 1) rfl rfl ?_ ?_ ?_
  · rintro a' w' ⟨a, z, ln, acc, ao, cap, u9, ⟨U, rfl⟩, hI, hz, haz, hacc, hln0, hln, hR⟩
    have HI := hide hI
    have HR := hide hR
    have hcnt := cntL_le ((s.data.toList.drop a).take z)
    have hcl : ((s.data.toList.drop a).take z).length = z := by
      rw [List.length_take, List.length_drop, hl]
      omega
    rw [hcl] at hcnt
    clear hI hR
    go_wp2_with fail
    refine (Tryz.strings_Count_one _ _ _).mono ?_
    rintro e w1 ⟨rfl, rfl⟩
    rw [Lib.extract_data, Nat.add_sub_cancel_left]
    rw [show Lib.countByte ((s.data.toList.drop a).take z) 10 = cntL ((s.data.toList.drop a).take z) from rfl]
    go_wp2
    go_step3
    refine jump2_goto0 ⟨⟨a + z, ln + cntL ((s.data.toList.drop a).take z), acc, ao, cap, _, _, frame_of (fun U => { tmps := #[.string s, undef, .slice none 0 0, .pointer (some ⟨w.heap.size, 0, none⟩), .slice ao acc.length cap, .pointer (some ⟨w.heap.size + 1, 0, none⟩), .int .i64 0, .int .i64 ((a + z : Nat) : Int), .int .i64 (ln + cntL ((s.data.toList.drop a).take z)), _, _, U 11, U 12, U 13, U 14, U 15, U 16, U 17, U 18, U 19, U 20, U 21, U 22, U 23, U 24, U 25, U 26, U 27, U 28, U 29, U 30, U 31, U 32, U 33, U 34, U 35, U 36, U 37, U 38, U 39, U 40, U 41, U 42, U 43, U 44, U 45, U 46, U 47, U 48, U 49, U 50, U 51, U 52, U 53, U 54, U 55, U 56, U 57, U 58, U 59, U 60, U 61, U 62, U 63, U 64, U 65, U 66, U 67, U 68, U 69, U 70, U 71, U 72], defers := [] }) _ rfl, unhide HI, haz, hacc, by omega, by omega, unhide HR⟩, ?_⟩
    simp [intOf, lexMu]
    omega
  · rintro a' w' ⟨a, ln, acc, ao, cap, u9, u10, ⟨U, rfl⟩, hI, ha, hacc, hln0, hln, hR⟩ behind
    have BH := hide behind
    clear behind
    have c0 := hI.spot.cell (i := 0) (v := .int .i64 0) rfl
    have c1 := hI.spot.cell (i := 1) (v := .int .i64 0) rfl
    have fz := fun i => hI.spot.free i
    obtain ⟨tk, tt, tn, tp, tl, hB⟩ := hI.tok
    have k0 := hB.cell (i := 0) (v := .int .i64 tk) rfl
    have k1 := hB.cell (i := 1) (v := .string tt) rfl
    have k2 := hB.cell (i := 2) (v := .int .i32 tn) rfl
    have k3 := hB.cell (i := 3) (v := .int .i64 tp) rfl
    have k4 := hB.cell (i := 4) (v := .int .i64 tl) rfl
    have fy := fun i => hB.free i
    by_cases hend : a = s.size
    · have hd : s.data.toList.drop a = [] := List.drop_of_length_le (by omega)
      rw [hd, lexA_nil] at hR
      have hR2 : R = (acc, 0, 0) := by rw [hR]; simp [comb]
      subst hR2
      have HI := hide hI
      have HB := hide hB
      clear hI hB hR HE HM hd
      go_wp2
      rw [jump2_ret]
      have B2 := ((unhide HI).spot.set 0 (.int .i64 0)).set 1 (.int .i64 0)
      refine bodyPost_ret (v := .tuple #[.slice ao acc.length cap, .agg #[.int .i64 0, .int .i64 0]]) (by simp [results, Tryz.results9, go_sem, B2.cell (i := 0) (v := .int .i64 0) rfl, B2.cell (i := 1) (v := .int .i64 0) rfl]) rfl ⟨ao, cap, rfl, ?_, ?_⟩
      · exact ((unhide HI).own.grown (grownBy_set _ _ 0 _) (by omega)).grown (grownBy_set _ _ 1 _) (by omega)
      · exact extSet (extSet (unhide HI).ext (Nat.le_refl _)) (Nat.le_refl _)
    · have hlt : a < s.size := by omega
      have hne : s.data.toList.drop a ≠ [] := by
        intro e
        have := congrArg List.length e
        rw [List.length_drop, hl] at this
        simp at this
        omega
      have hroom := piece_room _ hne
      rw [List.length_drop, hl] at hroom
      have HM2 : Hid (w'.cell? ⟨0, 0, none⟩ = some (.int .i64 m)) := by
        have := unhide HM
        rw [← hI.ext.cell (p := ⟨0, 0, none⟩) (World.block_lt_of_cell? w _ this)] at this
        exact this
      have HPC := hide (piece_any (s.extract a s.size) w' m (by rw [ByteArray.size_extract]; omega) (by rw [ByteArray.size_extract]; omega) (unhide HM2))
      rw [ext_list2] at HPC
      obtain ⟨k, z, hp⟩ : ∃ k z, pieceP (s.data.toList.drop a) = (k, z) := ⟨_, _, rfl⟩
      rw [hp] at HPC hroom
      simp only at HPC hroom
      have HP := hide hp
      have HR := hide hR
      have HI := hide hI
      have HB := hide hB
      have HN := hide hne
      clear hp hR hI hB hne HE HM HM2
      by_cases hk : k = -1
      · subst hk
        go_wp2_with fail
        refine (unhide HPC).mono ?_
        rintro e w1 ⟨rfl, rfl⟩
        go_wp2
        go_step3
        refine Or.inr ⟨rfl, ⟨a, z, ln, acc, ao, cap, _, frame_of (fun U => { tmps := #[.string s, undef, .slice none 0 0, .pointer (some ⟨w.heap.size, 0, none⟩), .slice ao acc.length cap, .pointer (some ⟨w.heap.size + 1, 0, none⟩), .int .i64 0, .int .i64 (a : Int), .int .i64 ln, .int .i64 (-1), .int .i64 (z : Int), U 11, U 12, U 13, U 14, U 15, U 16, U 17, U 18, U 19, U 20, U 21, U 22, U 23, U 24, U 25, U 26, U 27, U 28, U 29, U 30, U 31, U 32, U 33, U 34, U 35, U 36, U 37, U 38, U 39, U 40, U 41, U 42, U 43, U 44, U 45, U 46, U 47, U 48, U 49, U 50, U 51, U 52, U 53, U 54, U 55, U 56, U 57, U 58, U 59, U 60, U 61, U 62, U 63, U 64, U 65, U 66, U 67, U 68, U 69, U 70, U 71, U 72], defers := [] }) _ rfl, unhide HI, hroom.1, by omega, by omega, hln0, hln, ?_⟩, ?_⟩
        · rw [unhide HR, lexA_gap (unhide HN) (unhide HP), List.drop_drop]
        · simp [intOf, lexMu]
          omega
      · have hk' : (k == -1) = false := beq_eq_false_iff_ne.2 hk
        have HT := fun W => tell_any k (s.extract a (a + z)) (s.extract (a + z) s.size) acc.length W (by rw [ByteArray.size_extract]; omega)
        rw [Lib.extract_data, Nat.add_sub_cancel_left, ext_list2] at HT
        have HT := hide HT
        rename_i HT0
        clear HT0
        go_wp2_with fail
        refine (unhide HPC).mono ?_
        rintro e w1 ⟨rfl, rfl⟩
        clear HPC
        go_wp2
        have q1 : (0 : Int) ≤ (a : Int) + z := by omega
        have q2 : (a : Int) ≤ (a : Int) + z := by omega
        have q3 : (a : Int) + z ≤ s.size := by omega
        have q4 : ((a : Int) + z).toNat = a + z := by omega
        have q7 : (a : Int) ≤ s.size := by omega
        refine wp_region_noPanic ?_
        refine wp_region_held_drew (S := fun wx => Ext w wx) (by kernel_rfl) ((unhide HI).ext.drew) (fun HS => ?_)
        refine wpAnyH_take (i := 0) (oi := { dst := some 31, op := Op.move (Operand.tmp 9), type := 3, pos := _, after := _, guard := none }) (v := .int .i64 k) rfl (by kernel_rfl) (by kernel_rfl) (by kernel_rfl) (fun _ _ _ h => h) (Or.inl ⟨by rfl, fun wx hx => by go_simp⟩) HS ?_
        simp only [Act.put, List.setIfInBounds_toArray, List.set_cons_zero, List.set_cons_succ]
        refine wpAnyH_take (i := 1) (oi := { dst := some 32, op := Op.move (Operand.tmp 0), type := 9, pos := _, after := _, guard := none }) (v := .string s) rfl (by kernel_rfl) (by kernel_rfl) (by kernel_rfl) (fun _ _ _ h => h) (Or.inl ⟨by rfl, fun wx hx => by go_simp⟩) HS ?_
        simp only [Act.put, List.setIfInBounds_toArray, List.set_cons_zero, List.set_cons_succ]
        refine wpAnyH_take (i := 2) (oi := { dst := some 33, op := Op.move (Operand.tmp 7), type := 3, pos := _, after := _, guard := none }) (v := .int .i64 (a : Int)) rfl (by kernel_rfl) (by kernel_rfl) (by kernel_rfl) (fun _ _ _ h => h) (Or.inl ⟨by rfl, fun wx hx => by go_simp⟩) HS ?_
        simp only [Act.put, List.setIfInBounds_toArray, List.set_cons_zero, List.set_cons_succ]
        refine wpAnyH_take (i := 3) (oi := { dst := some 34, op := Op.move (Operand.tmp 7), type := 3, pos := _, after := _, guard := none }) (v := .int .i64 (a : Int)) rfl (by kernel_rfl) (by kernel_rfl) (by kernel_rfl) (fun _ _ _ h => h) (Or.inl ⟨by rfl, fun wx hx => by go_simp⟩) HS ?_
        simp only [Act.put, List.setIfInBounds_toArray, List.set_cons_zero, List.set_cons_succ]
        refine wpAnyH_take (i := 4) (oi := { dst := some 35, op := Op.move (Operand.tmp 10), type := 3, pos := _, after := _, guard := none }) (v := .int .i64 (z : Int)) rfl (by kernel_rfl) (by kernel_rfl) (by kernel_rfl) (fun _ _ _ h => h) (Or.inl ⟨by rfl, fun wx hx => by go_simp⟩) HS ?_
        simp only [Act.put, List.setIfInBounds_toArray, List.set_cons_zero, List.set_cons_succ]
        refine wpAnyH_take (i := 5) (oi := { dst := some 36, op := Op.binOp BinOp.add 3 (Operand.tmp 34) (Operand.tmp 35) 3, type := 3, pos := _, after := _, guard := none }) (v := .int .i64 ((a : Int) + z)) rfl (by kernel_rfl) (by kernel_rfl) (by kernel_rfl) (fun _ _ _ h => h) (Or.inl ⟨by rfl, fun wx hx => by go_simp; exact wrapIdX (by omega) (by omega)⟩) HS ?_
        simp only [Act.put, List.setIfInBounds_toArray, List.set_cons_zero, List.set_cons_succ]
        refine wpAnyH_take (i := 6) (oi := { dst := some 37, op := Op.slice 9 (Operand.tmp 32) (some (Operand.tmp 33)) (some (Operand.tmp 36)) none, type := 9, pos := _, after := _, guard := none }) (v := .string (s.extract a (a + z))) rfl (by kernel_rfl) (by kernel_rfl) (by kernel_rfl) (fun _ _ _ h => h) (Or.inl ⟨by rfl, fun wx hx => by go_simp⟩) HS ?_
        simp only [Act.put, List.setIfInBounds_toArray, List.set_cons_zero, List.set_cons_succ]
        refine wpAnyH_take (i := 7) (oi := { dst := some 38, op := Op.move (Operand.tmp 0), type := 9, pos := _, after := _, guard := none }) (v := .string s) rfl (by kernel_rfl) (by kernel_rfl) (by kernel_rfl) (fun _ _ _ h => h) (Or.inl ⟨by rfl, fun wx hx => by go_simp⟩) HS ?_
        simp only [Act.put, List.setIfInBounds_toArray, List.set_cons_zero, List.set_cons_succ]
        refine wpAnyH_take (i := 8) (oi := { dst := some 39, op := Op.move (Operand.tmp 7), type := 3, pos := _, after := _, guard := none }) (v := .int .i64 (a : Int)) rfl (by kernel_rfl) (by kernel_rfl) (by kernel_rfl) (fun _ _ _ h => h) (Or.inl ⟨by rfl, fun wx hx => by go_simp⟩) HS ?_
        simp only [Act.put, List.setIfInBounds_toArray, List.set_cons_zero, List.set_cons_succ]
        refine wpAnyH_take (i := 9) (oi := { dst := some 40, op := Op.move (Operand.tmp 10), type := 3, pos := _, after := _, guard := none }) (v := .int .i64 (z : Int)) rfl (by kernel_rfl) (by kernel_rfl) (by kernel_rfl) (fun _ _ _ h => h) (Or.inl ⟨by rfl, fun wx hx => by go_simp⟩) HS ?_
        simp only [Act.put, List.setIfInBounds_toArray, List.set_cons_zero, List.set_cons_succ]
        refine wpAnyH_take (i := 10) (oi := { dst := some 41, op := Op.binOp BinOp.add 3 (Operand.tmp 39) (Operand.tmp 40) 3, type := 3, pos := _, after := _, guard := none }) (v := .int .i64 ((a : Int) + z)) rfl (by kernel_rfl) (by kernel_rfl) (by kernel_rfl) (fun _ _ _ h => h) (Or.inl ⟨by rfl, fun wx hx => by go_simp; exact wrapIdX (by omega) (by omega)⟩) HS ?_
        simp only [Act.put, List.setIfInBounds_toArray, List.set_cons_zero, List.set_cons_succ]
        refine wpAnyH_take (i := 11) (oi := { dst := some 42, op := Op.slice 9 (Operand.tmp 38) (some (Operand.tmp 41)) none none, type := 9, pos := _, after := _, guard := none }) (v := .string (s.extract (a + z) s.size)) rfl (by kernel_rfl) (by kernel_rfl) (by kernel_rfl) (fun _ _ _ h => h) (Or.inl ⟨by rfl, fun wx hx => by go_simp⟩) HS ?_
        simp only [Act.put, List.setIfInBounds_toArray, List.set_cons_zero, List.set_cons_succ]
        refine wpAnyH_take (i := 12) (oi := { dst := some 43, op := Op.move (Operand.tmp 4), type := 28, pos := _, after := _, guard := none }) (v := .slice ao acc.length cap) rfl (by kernel_rfl) (by kernel_rfl) (by kernel_rfl) (fun _ _ _ h => h) (Or.inl ⟨by rfl, fun wx hx => by go_simp⟩) HS ?_
        simp only [Act.put, List.setIfInBounds_toArray, List.set_cons_zero, List.set_cons_succ]
        refine wpAnyH_take (i := 13) (oi := { dst := some 44, op := Op.call { callee := Callee.builtin Builtin.len, args := #[Operand.tmp 43], argTypes := #[28] }, type := 3, pos := _, after := _, guard := none }) (v := .int .i64 (acc.length : Int)) rfl (by kernel_rfl) (by kernel_rfl) (by kernel_rfl) (fun _ _ _ h => h) (Or.inl ⟨by rfl, fun wx hx => by go_simp⟩) HS ?_
        simp only [Act.put, List.setIfInBounds_toArray, List.set_cons_zero, List.set_cons_succ]
        refine wpAnyH_ready (rs := [14]) (by kernel_rfl) (by simp) (AllReadyH.cons (o := { dst := some 45, op := Op.call { callee := Callee.value (Operand.func 14), args := #[Operand.tmp 31, Operand.tmp 37, Operand.tmp 42, Operand.tmp 44], argTypes := #[3, 9, 9, 3] }, type := _, pos := _, after := _, guard := none }) rfl (fun KK hK => ?_) AllReadyH.nil)
        go_simp
        refine (unhide HT _).mono ?_
        rintro e w2 ⟨k', t', n', rfl, ht, hx2⟩
        have HI2 := hide ((unhide HI).ext2 ((Ext.drew (Ext.refl _)).trans hx2))
        have HB2 := hide ((unhide HB).ext ((Ext.drew (Ext.refl _)).trans hx2))
        have HS2 := HS.trans hx2
        clear hx2 HS HI HB
        have HS := HS2
        clear HS2
        refine hK.out _ _ HS (fun _ => ?_)
        clear hK KK
        try simp only [Act.put, List.setIfInBounds_toArray, List.set_cons_zero, List.set_cons_succ]
        refine wpAnyH_take (i := 15) (oi := { dst := some 30, op := Op.move (Operand.tmp 45), type := _, pos := _, after := _, guard := none }) (v := .tuple #[.agg #[.int .i64 k', .string t', .int .i32 n', .int .i64 0, .int .i64 0], .int .i64 (tellP k ((s.data.toList.drop a).take z) (s.data.toList.drop (a + z)) acc.length).2]) rfl (by kernel_rfl) (by kernel_rfl) (by kernel_rfl) (fun _ _ _ h => h) (Or.inl ⟨by rfl, fun wx hx => by go_simp⟩) HS ?_
        simp only [Act.put, List.setIfInBounds_toArray, List.set_cons_zero, List.set_cons_succ]
        refine wpAnyH_take (i := 16) (oi := { dst := some 46, op := Op.extract (Operand.tmp 30) 0, type := 44, pos := _, after := _, guard := none }) (v := .agg #[.int .i64 k', .string t', .int .i32 n', .int .i64 0, .int .i64 0]) rfl (by kernel_rfl) (by kernel_rfl) (by kernel_rfl) (fun _ _ _ h => h) (Or.inl ⟨by rfl, fun wx hx => by go_simp⟩) HS ?_
        simp only [Act.put, List.setIfInBounds_toArray, List.set_cons_zero, List.set_cons_succ]
        refine wpAnyH_take (i := 17) (oi := { dst := some 47, op := Op.extract (Operand.tmp 30) 1, type := 29, pos := _, after := _, guard := none }) (v := .int .i64 (tellP k ((s.data.toList.drop a).take z) (s.data.toList.drop (a + z)) acc.length).2) rfl (by kernel_rfl) (by kernel_rfl) (by kernel_rfl) (fun _ _ _ h => h) (Or.inl ⟨by rfl, fun wx hx => by go_simp⟩) HS ?_
        simp only [Act.put, List.setIfInBounds_toArray, List.set_cons_zero, List.set_cons_succ]
        refine wpAnyH_ready (rs := [18]) (by kernel_rfl) (by simp) (AllReadyH.cons (o := { dst := none, op := Op.store 44 (Operand.tmp 5) (Operand.tmp 46), type := _, pos := _, after := _, guard := none }) rfl (fun KK hK => ?_) AllReadyH.nil)
        refine Eq.mpr (if_pos (by rfl)) ?_
        refine wp_store_row 44 (.tmp 5) (.tmp 46) rfl _ #[.int .i64 k', .string t', .int .i32 n', .int .i64 0, .int .i64 0] rfl rfl 44 _ (unhide HB2) sizeTk rfl (by simp [Value.oneCell']) ?_
        refine hK.out _ _ (extRow HS (Nat.le_succ _)) (fun _ => ?_)
        clear hK KK
        have HS2 := extRow (cs := #[.int .i64 k', .string t', .int .i32 n', .int .i64 0, .int .i64 0]) HS (Nat.le_succ w.heap.size)
        clear HS
        have HS := HS2
        clear HS2
        try simp only [Act.put, List.setIfInBounds_toArray, List.set_cons_zero, List.set_cons_succ]
        refine wpAnyH_take (i := 19) (oi := { dst := some 6, op := Op.assign (Operand.tmp 47), type := 29, pos := _, after := _, guard := none }) (v := .int .i64 (tellP k ((s.data.toList.drop a).take z) (s.data.toList.drop (a + z)) acc.length).2) rfl (by kernel_rfl) (by kernel_rfl) (by kernel_rfl) (fun _ _ _ h => h) (Or.inl ⟨by rfl, fun wx hx => by go_simp⟩) HS ?_
        simp only [Act.put, List.setIfInBounds_toArray, List.set_cons_zero, List.set_cons_succ]
        refine wpAnyH_done (by kernel_rfl) ?_ _
        refine NoPanic.normal ?_
        have HB3 := hide (blkRow (cs' := #[.int .i64 k', .string t', .int .i32 n', .int .i64 0, .int .i64 0]) (unhide HB2))
        have HI3 : Hid (LexI s w (w2.setRow (w.heap.size + 1) #[.int .i64 k', .string t', .int .i32 n', .int .i64 0, .int .i64 0]) (.slice ao acc.length cap) acc) :=
          ⟨(unhide HI2).own.grown (grownRow _ _ _) (by omega), blkRowOther (unhide HI2).spot (by omega), ⟨_, _, _, _, _, unhide HB3⟩, HS, by rw [sizeRow]; exact (unhide HI2).room⟩
        generalize w2.setRow (w.heap.size + 1) #[.int .i64 k', .string t', .int .i32 n', .int .i64 0, .int .i64 0] = w3 at HB3 HI3 HS ⊢
        clear HB2 HI2 q1 q2 q3 q4 q7 c0 c1 fz k0 k1 k2 k3 k4 fy HT
        have HTT := hide ht
        clear ht
        generalize herr : tellP k ((s.data.toList.drop a).take z) (s.data.toList.drop (a + z)) acc.length = tp at *
        have c0 := (unhide HI3).spot.cell (i := 0) (v := .int .i64 0) rfl
        have c1 := (unhide HI3).spot.cell (i := 1) (v := .int .i64 0) rfl
        have fz := fun i => (unhide HI3).spot.free i
        have k0 := (unhide HB3).cell (i := 0) (v := .int .i64 k') rfl
        have k1 := (unhide HB3).cell (i := 1) (v := .string t') rfl
        have k2 := (unhide HB3).cell (i := 2) (v := .int .i32 n') rfl
        have k3 := (unhide HB3).cell (i := 3) (v := .int .i64 0) rfl
        have k4 := (unhide HB3).cell (i := 4) (v := .int .i64 0) rfl
        have fy := fun i => (unhide HB3).free i
        have HRR := hide herr
        clear herr
        by_cases hte : tp.2 = 0
        · obtain ⟨e1, e2, e3⟩ := unhide HTT hte
          clear HTT
          subst e1 e2 e3
          rw [ext_text s a (a + z), Nat.add_sub_cancel_left] at k1 HB3
          have hte' : (!(tp.2 == 0)) = false := by rw [hte]; rfl
          rw [hte]
          have HB5 := hide ((((unhide HB3).set 3 (.int .i64 (a : Int))).set 4 (.int .i64 ln)))
          have HI5 : Hid (LexI s w ((w3.setCell ⟨w.heap.size + 1, 3, none⟩ (.int .i64 (a : Int))).setCell ⟨w.heap.size + 1, 4, none⟩ (.int .i64 ln)) (.slice ao acc.length cap) acc) :=
            ⟨((unhide HI3).own.grown (grownBy_set _ _ 3 _) (by omega)).grown (grownBy_set _ _ 4 _) (by omega), ((unhide HI3).spot.other 3 _ (by omega)).other 4 _ (by omega), ⟨_, _, _, _, _, unhide HB5⟩, extSet (extSet HS (Nat.le_succ _)) (Nat.le_succ _), by simpa using (unhide HI3).room⟩
          go_wp2_with (at_builtin; refine wpList_append_tok rfl (.tmp 57) (.tmp 59) rfl (w.heap.size + 2) _ acc ⟨k', (s.data.toList.drop a).take z, tp.1, (a : Int), ln⟩ rfl ((unhide HI5).own.ext ((Ext.refl _).alloc _)) _ 1 rfl _ (blkAt (by simp)) ?c2 ?c3 ?_)
          case c2 => omega
          case c3 =>
            have := (unhide HI3).room
            simp
            omega
          intro ao2 cap2 w6 hown hgr
          have hob : ∀ g, (Value.slice ao acc.length cap).ownBlock = some g → w.heap.size + 2 ≤ g := fun g hg => (World.ownsRow.lt (unhide HI5).own g hg).1
          have hx6 : Ext w w6 := Below.trans ((unhide HI5).ext.alloc _) (grown_below hgr (Nat.le_trans (unhide HI5).ext.size (by rw [World.size_alloc]; omega)) (fun g hg => by have := hob g hg; omega))
          have hsp : Blk w6 w.heap.size spotZ 31 := blkGrownO ((unhide HI5).spot.alloc _) hgr (fun e => by have := hob _ e; omega)
          have htk : Blk w6 (w.heap.size + 1) _ 44 := blkGrownO ((unhide HB5).alloc _) hgr (fun e => by have := hob _ e; omega)
          have hrm : w.heap.size + 2 ≤ w6.heap.size := by
            have h1 := hgr.size
            have h2 := (unhide HI5).room
            rw [World.size_alloc] at h1
            omega
          obtain ⟨acc2, hacc2⟩ : ∃ A, A = acc ++ [(⟨k', (s.data.toList.drop a).take z, tp.1, (a : Int), ln⟩ : Tok)] := ⟨_, rfl⟩
          have hl2 : acc.length + 1 = acc2.length := by rw [hacc2]; simp
          rw [hl2, ← hacc2] at hown
          rw [hl2]
          have HI6 : Hid (LexI s w w6 (.slice ao2 acc2.length cap2) acc2) := ⟨hown, hsp, ⟨_, _, _, _, _, htk⟩, hx6, hrm⟩
          have hR6 : R = comb acc2 (lexA (s.data.toList.drop (a + z)) (a + z) (ln + cntL ((s.data.toList.drop a).take z)) acc2.length) := by
            rw [unhide HR, comb_tok (unhide HN) (unhide HP) hk acc a ln (by rw [List.drop_drop, unhide HRR]; exact hte), ← hl2, hacc2, List.drop_drop, unhide HRR]
          have HR6 := hide hR6
          clear hR6 hown hgr hob hx6 hsp htk hrm HI5 HB5 HI3 HB3 HS c0 c1 fz k0 k1 k2 k3 k4 fy HR HN HP HRR
          have HA := hide hacc2
          clear hacc2
          go_wp2
          go_step3
          rename_i hK
          refine hK _ _ (unhide BH _ _ ⟨a, z, ln, acc2, ao2, cap2, _, frame_of (fun U => { tmps := #[.string s, undef, .slice none 0 0, .pointer (some ⟨w.heap.size, 0, none⟩), .slice ao2 acc2.length cap2, .pointer (some ⟨w.heap.size + 1, 0, none⟩), .int .i64 0, .int .i64 (a : Int), .int .i64 ln, .int .i64 k', .int .i64 (z : Int), U 11, U 12, U 13, U 14, U 15, U 16, U 17, U 18, U 19, U 20, U 21, U 22, U 23, U 24, U 25, U 26, U 27, U 28, U 29, U 30, U 31, U 32, U 33, U 34, U 35, U 36, U 37, U 38, U 39, U 40, U 41, U 42, U 43, U 44, U 45, U 46, U 47, U 48, U 49, U 50, U 51, U 52, U 53, U 54, U 55, U 56, U 57, U 58, U 59, U 60, U 61, U 62, U 63, U 64, U 65, U 66, U 67, U 68, U 69, U 70, U 71, U 72], defers := [] }) _ rfl, unhide HI6, hroom.1, by omega, by omega, hln0, hln, unhide HR6⟩ ?_)
          simp [intOf, lexMu]
          omega
        · have hte' : (tp.2 == 0) = false := beq_eq_false_iff_ne.2 hte
          have hR2 : R = ([], tp.2, (a : Int)) := by
            rw [unhide HR, lexA_bad (unhide HN) (unhide HP) hk a ln acc.length (by rw [List.drop_drop, unhide HRR]; exact hte), List.drop_drop, unhide HRR]
            unfold comb
            rw [if_pos hte]
          subst hR2
          have B2 := ((unhide HI3).spot.set 0 (.int .i64 tp.2)).set 1 (.int .i64 (a : Int))
          have r0 := B2.cell (i := 0) (v := .int .i64 tp.2) rfl
          have r1 := B2.cell (i := 1) (v := .int .i64 (a : Int)) rfl
          have R0 := hide r0
          have R1 := hide r1
          clear r0 r1 B2 HTT HR HN HP
          go_wp2
          change bodyPost _ _ _ Exit.ret _ _
          refine bodyPost_ret (v := .tuple #[.slice none 0 0, .agg #[.int .i64 tp.2, .int .i64 (a : Int)]]) (by have r0 := unhide R0; have r1 := unhide R1; simp [results, Tryz.results9, go_sem, r0, r1]) rfl ⟨none, 0, rfl, TO.nil _ _, ?_⟩
          exact extSet (extSet HS (Nat.le_refl _)) (Nat.le_refl _)
  · intro again
    go_wp2
    go_step3
    rename_i hK
    refine hK _ _ (again _ _ ⟨0, 0, [], none, 0, _, _, frame_of (fun U => { tmps := #[.string s, undef, .slice none 0 0, .pointer (some ⟨w.heap.size, 0, none⟩), .slice none 0 0, .pointer (some ⟨w.heap.size + 1, 0, none⟩), .int .i64 0, .int .i64 0, .int .i64 0, _, _, U 11, U 12, U 13, U 14, U 15, U 16, U 17, U 18, U 19, U 20, U 21, U 22, U 23, U 24, U 25, U 26, U 27, U 28, U 29, U 30, U 31, U 32, U 33, U 34, U 35, U 36, U 37, U 38, U 39, U 40, U 41, U 42, U 43, U 44, U 45, U 46, U 47, U 48, U 49, U 50, U 51, U 52, U 53, U 54, U 55, U 56, U 57, U 58, U 59, U 60, U 61, U 62, U 63, U 64, U 65, U 66, U 67, U 68, U 69, U 70, U 71, U 72], defers := [] }) _ rfl, ?_, by omega, Nat.le_refl _, by omega, by omega, ?_⟩)
    · refine ⟨TO.nil _ _, (Blk.new w spotZ 31).alloc _, ⟨0, ⟨#[]⟩, 0, 0, 0, ?_⟩, ((Ext.refl w).alloc _).alloc _, by simp⟩
      have := Blk.new (w.alloc (.cells spotZ 31)) #[.int .i64 0, .string ⟨#[]⟩, .int .i32 0, .int .i64 0, .int .i64 0] 44
      rwa [show (w.alloc (.cells spotZ 31)).heap.size = w.heap.size + 1 by simp] at this
    · rw [List.drop_zero]
      exact unhide HE
end Go.Proofs.YtjfhhhabcbkahaaGreat

/-
  The layer does something: the tokens of one text. What the dump lacks is left out.
-/
namespace Go.Proofs.YtjfhhhabcbkahaaGreat
open Go.RowKit
set_option linter.unusedSimpArgs false
set_option linter.unusedVariables false

/-- The same as lexA, by fuel: it can be reckoned. -/
def lexF : Nat → Byts8 → Int → Int → Nat → List Tok × Int × Int
  | 0, _, _, _, _ => ([], 0, 0)
  | f + 1, l, a, ln, n =>
    if l.isEmpty = true then ([], 0, 0)
    else if (pieceP l).1 = -1 then lexF f (l.drop (pieceP l).2) (a + (pieceP l).2) (ln + cntL (l.take (pieceP l).2)) n
    else if (tellP (pieceP l).1 (l.take (pieceP l).2) (l.drop (pieceP l).2) n).2 ≠ 0 then ([], (tellP (pieceP l).1 (l.take (pieceP l).2) (l.drop (pieceP l).2) n).2, a)
    else if (lexF f (l.drop (pieceP l).2) (a + (pieceP l).2) (ln + cntL (l.take (pieceP l).2)) (n + 1)).2.1 ≠ 0 then lexF f (l.drop (pieceP l).2) (a + (pieceP l).2) (ln + cntL (l.take (pieceP l).2)) (n + 1)
    else (⟨(pieceP l).1, l.take (pieceP l).2, (tellP (pieceP l).1 (l.take (pieceP l).2) (l.drop (pieceP l).2) n).1, a, ln⟩ :: (lexF f (l.drop (pieceP l).2) (a + (pieceP l).2) (ln + cntL (l.take (pieceP l).2)) (n + 1)).1, 0, 0)
theorem lexA_fuel (f : Nat) : ∀ (l : Byts8) (a ln : Int) (n : Nat), l.length ≤ f → lexA l a ln n = lexF f l a ln n := by
  induction f with
  | zero =>
    intro l a ln n h
    have : l = [] := List.length_eq_zero_iff.1 (by omega)
    subst this
    rw [lexA_nil]
    rfl
  | succ f ih =>
    intro l a ln n h
    by_cases hl : l = []
    · subst hl
      rw [lexA_nil]
      rfl
    have hr := piece_room l hl
    have hd : (l.drop (pieceP l).2).length ≤ f := by rw [List.length_drop]; omega
    rw [lexA_unf, if_neg hl, ih _ _ _ _ hd, ih _ _ _ _ hd, lexF, show l.isEmpty = false by cases l <;> simp_all]
    simp only [Bool.false_eq_true, if_false]

def wakeT : Byts8 := [97, 49, 43, 61, 46, 53, 59, 32, 47, 47, 32, 120]
def wakeL : List Tok := [⟨1, [97, 49], 0, 0, 0⟩, ⟨4, [43, 61], 0, 2, 0⟩, ⟨3, [46, 53], 32768, 4, 0⟩, ⟨4, [59], 0, 6, 0⟩]
set_option maxRecDepth 100000 in
theorem wake_lex : lexP wakeT = (wakeL, 0, 0) := by
  unfold lexP
  rw [if_neg (by decide), lexA_fuel 12 _ _ _ _ (by decide)]
  kernel_rfl


theorem keepM {w w' : World} {m : Int} (hm : w.cell? ⟨0, 0, none⟩ = some (.int .i64 m)) (hx : Ext w w') : w'.cell? ⟨0, 0, none⟩ = some (.int .i64 m) := by
  rw [hx.cell (p := ⟨0, 0, none⟩) (World.block_lt_of_cell? w _ hm)]
  exact hm
end Go.Proofs.YtjfhhhabcbkahaaGreat

/-
  Texts and their tokens, plain: blanks and comments ahead of a token; a token does not ask what stands far behind it.
-/
namespace Go.Proofs.YtjfhhhabcbkahaaGreat
set_option linter.unusedVariables false

theorem runN_take (p : UInt8 → Bool) : ∀ (l : Byts8) (m : Nat), runN p (l.take m) = min (runN p l) m
  | [], m => by simp [runN]
  | b :: l, 0 => by simp [runN]
  | b :: l, m + 1 => by
    rw [List.take_succ_cons, runN_cons, runN_cons, runN_take p l m]
    split <;> omega
theorem begN_take (p : UInt8 → Bool) (l : Byts8) (m : Nat) (h : 1 ≤ m) : begN p (l.take m) = begN p l := by
  cases m with
  | zero => omega
  | succ m => cases l <;> rfl
theorem pre2_take (x y : UInt8) (l : Byts8) (m : Nat) (h : 2 ≤ m) : pre2 x y (l.take m) = pre2 x y l := by
  obtain ⟨m, rfl⟩ : ∃ k, m = k + 2 := ⟨m - 2, by omega⟩
  rcases l with _ | ⟨a, _ | ⟨b, r⟩⟩
  · rfl
  · rfl
  · simp only [List.take_succ_cons, pre2_cons]
theorem index_take : ∀ (l : Byts8) (j : Nat), 0 ≤ Lib.index l [42, 47] → (Lib.index l [42, 47]).toNat + 2 ≤ j → Lib.index (l.take j) [42, 47] = Lib.index l [42, 47]
  | [], j, h, _ => by simp
  | b :: l, j, h, hj => by
    obtain ⟨j, rfl⟩ : ∃ k, j = k + 2 := ⟨j - 2, by omega⟩
    have hpre : ([42, 47] : Byts8).isPrefixOf ((b :: l).take (j + 2)) = ([42, 47] : Byts8).isPrefixOf (b :: l) := by
      cases l with
      | nil => rfl
      | cons c l => simp [List.isPrefixOf]
    have hg := Lib.index_ge l [42, 47]
    rw [Lib.index] at h hj
    rw [show (b :: l).take (j + 2) = b :: l.take (j + 1) from rfl] at hpre ⊢
    rw [Lib.index, Lib.index, hpre]
    by_cases h1 : ([42, 47] : Byts8).isPrefixOf (b :: l) = true
    · rw [if_pos h1, if_pos h1]
    · rw [if_neg h1] at h hj
      rw [if_neg h1, if_neg h1]
      by_cases h2 : (Lib.index l [42, 47] == -1) = true
      · rw [if_pos h2] at h
        omega
      · rw [if_neg h2] at h hj
        have h2' : Lib.index l [42, 47] ≠ -1 := by simpa using h2
        rw [index_take l (j + 1) (by omega) (by omega), if_neg h2]
theorem numP_kind (l : Byts8) : (numP l).1 = 2 ∨ (numP l).1 = 3 := by
  unfold numP
  split
  · exact .inr rfl
  · exact .inl rfl
theorem signP_kind (l : Byts8) : (signP l).1 = 4 ∨ (signP l).1 = -2 := by
  unfold signP
  split
  · exact .inl rfl
  · split
    · exact .inl rfl
    · exact .inr rfl
/-- Blanks and comments, cut behind their end, are told alike. -/
theorem gap_cut {l : Byts8} {z m : Nat} (hl : l ≠ []) (hp : pieceP l = (-1, z)) (hm : z ≤ m) : pieceP (l.take m) = (-1, z) := by
  have hr := piece_room l hl
  rw [hp] at hr
  simp only at hr
  unfold pieceP at hp ⊢
  rw [begN_take isBl l m (by omega)]
  by_cases c1 : begN isBl l = true
  · rw [if_pos c1] at hp ⊢
    rw [runN_take]
    cases hp
    rw [Nat.min_eq_left hm]
  rw [if_neg c1] at hp ⊢
  by_cases c2 : pre2 47 47 l = true
  · rw [if_pos c2] at hp
    obtain ⟨r, rfl⟩ := pre2_split c2
    have h2 : 2 ≤ z := by
      cases hp
      rw [runN_cons, if_pos (by rfl), runN_cons, if_pos (by rfl)]
      omega
    rw [pre2_take 47 47 _ m (by omega), if_pos c2, runN_take]
    cases hp
    rw [Nat.min_eq_left hm]
  rw [if_neg c2] at hp
  by_cases c3 : pre2 47 42 l = true
  · rw [if_pos c3] at hp
    unfold comP at hp
    by_cases hi : Lib.index (l.drop 2) [42, 47] < 0
    · rw [if_pos hi] at hp
      cases hp
    · rw [if_neg hi] at hp
      have hz : z = (Lib.index (l.drop 2) [42, 47]).toNat + 4 := by cases hp; rfl
      rw [pre2_take 47 47 _ m (by omega), if_neg c2, pre2_take 47 42 _ m (by omega), if_pos c3]
      unfold comP
      rw [List.drop_take, index_take _ _ (by omega) (by omega), if_neg hi, hz]
  rw [if_neg c3] at hp
  exfalso
  by_cases c4 : begN isLt l = true
  · rw [if_pos c4] at hp
    cases hp
  rw [if_neg c4] at hp
  by_cases c5 : (begN isDg l || (begN isPt l && begN isDg (l.drop 1))) = true
  · rw [if_pos c5] at hp
    have := numP_kind l
    rw [hp] at this
    simp at this
  · rw [if_neg c5] at hp
    have := signP_kind l
    rw [hp] at this
    simp at this

/-- How many bytes of blanks and comments a text begins with, by fuel. -/
def skipR : Nat → Byts8 → Nat
  | 0, _ => 0
  | f + 1, l => if l = [] then 0 else if (pieceP l).1 = -1 then (pieceP l).2 + skipR f (l.drop (pieceP l).2) else 0
theorem skipR_same (f : Nat) : ∀ (g : Nat) (l : Byts8), l.length ≤ f → l.length ≤ g → skipR f l = skipR g l := by
  induction f with
  | zero =>
    intro g l h _
    obtain rfl : l = [] := List.length_eq_zero_iff.1 (by omega)
    cases g with
    | zero => rfl
    | succ g => simp [skipR]
  | succ f ih =>
    intro g l h h2
    by_cases hl : l = []
    · subst hl
      cases g with
      | zero => simp [skipR]
      | succ g => simp [skipR]
    have hr := piece_room l hl
    cases g with
    | zero => omega
    | succ g =>
      have hd : (l.drop (pieceP l).2).length ≤ f := by rw [List.length_drop]; omega
      have hd2 : (l.drop (pieceP l).2).length ≤ g := by rw [List.length_drop]; omega
      rw [skipR, skipR, ih g _ hd hd2]
/-- How many bytes of blanks and comments a text begins with. -/
def skipN (l : Byts8) : Nat := skipR (l.length + 1) l
theorem skip_unf (l : Byts8) : skipN l = if l = [] then 0 else if (pieceP l).1 = -1 then (pieceP l).2 + skipN (l.drop (pieceP l).2) else 0 := by
  by_cases hl : l = []
  · subst hl
    rfl
  have hr := piece_room l hl
  have hd : (l.drop (pieceP l).2).length ≤ l.length := by rw [List.length_drop]; omega
  have e : skipR l.length (l.drop (pieceP l).2) = skipN (l.drop (pieceP l).2) := skipR_same l.length _ _ hd (Nat.le_succ _)
  show skipR (l.length + 1) l = _
  rw [skipR, e]
theorem skip_nil : skipN [] = 0 := rfl
theorem skip_gap {l : Byts8} {z : Nat} (hl : l ≠ []) (hp : pieceP l = (-1, z)) : skipN l = z + skipN (l.drop z) := by
  rw [skip_unf, if_neg hl, hp]
  simp
theorem skip_tok {l : Byts8} {k : Int} {z : Nat} (hl : l ≠ []) (hp : pieceP l = (k, z)) (hk : k ≠ -1) : skipN l = 0 := by
  rw [skip_unf, if_neg hl, hp]
  simp [hk]
/-- What holds of every text if it holds of none, of a token's begin, and of what stands behind a gap. -/
theorem skip_ind {M : Byts8 → Prop} (h0 : M []) (ht : ∀ l k z, l ≠ [] → pieceP l = (k, z) → k ≠ -1 → M l) (hg : ∀ l z, l ≠ [] → pieceP l = (-1, z) → M (l.drop z) → M l) (l : Byts8) : M l := by
  induction hn : l.length using Nat.strongRecOn generalizing l with
  | _ m ih =>
    by_cases hl : l = []
    · subst hl; exact h0
    obtain ⟨k, z, hp⟩ : ∃ k z, pieceP l = (k, z) := ⟨_, _, rfl⟩
    have hr := piece_room l hl
    rw [hp] at hr
    simp only at hr
    by_cases hk : k = -1
    · subst hk
      exact hg l z hl hp (ih _ (by rw [List.length_drop]; omega) _ rfl)
    · exact ht l k z hl hp hk
theorem skip_le (l : Byts8) : skipN l ≤ l.length := by
  refine skip_ind (M := fun l => skipN l ≤ l.length) (by rw [skip_nil]; simp) (fun l k z hl hp hk => by rw [skip_tok hl hp hk]; omega) (fun l z hl hp ih => ?_) l
  have hr := piece_room l hl
  rw [hp] at hr
  rw [skip_gap hl hp]
  rw [List.length_drop] at ih
  simp only at hr
  omega
theorem skip_stop (l : Byts8) (h : l.drop (skipN l) ≠ []) : (pieceP (l.drop (skipN l))).1 ≠ -1 := by
  revert h
  refine skip_ind (M := fun l => l.drop (skipN l) ≠ [] → (pieceP (l.drop (skipN l))).1 ≠ -1) (by simp) (fun l k z hl hp hk _ => ?_) (fun l z hl hp ih h => ?_) l
  · rw [skip_tok hl hp hk, List.drop_zero, hp]
    exact hk
  · rw [skip_gap hl hp, ← List.drop_drop] at h ⊢
    exact ih h
theorem cntL_add (x y : Byts8) : cntL (x ++ y) = cntL x + cntL y := by
  unfold cntL Lib.countByte
  exact List.count_append
theorem take_split (l : Byts8) (i j : Nat) : l.take (i + j) = l.take i ++ (l.drop i).take j := List.take_add
theorem lexA_skip (l : Byts8) : ∀ (a ln : Int) (n : Nat), lexA l a ln n = lexA (l.drop (skipN l)) (a + skipN l) (ln + cntL (l.take (skipN l))) n := by
  refine skip_ind (M := fun l => ∀ (a ln : Int) (n : Nat), lexA l a ln n = lexA (l.drop (skipN l)) (a + skipN l) (ln + cntL (l.take (skipN l))) n) ?_ (fun l k z hl hp hk a ln n => ?_) (fun l z hl hp ih a ln n => ?_) l
  · intro a ln n
    rw [skip_nil]
    simp [cntL, Lib.countByte]
  · rw [skip_tok hl hp hk]
    simp [cntL, Lib.countByte]
  · rw [lexA_gap hl hp, ih, skip_gap hl hp, List.drop_drop, take_split, cntL_add]
    push_cast
    rw [Int.add_assoc, Int.add_assoc]
theorem skip_take (l : Byts8) : ∀ (a ln : Int) (n : Nat), lexA (l.take (skipN l)) a ln n = ([], 0, 0) := by
  refine skip_ind (M := fun l => ∀ (a ln : Int) (n : Nat), lexA (l.take (skipN l)) a ln n = ([], 0, 0)) ?_ (fun l k z hl hp hk a ln n => ?_) (fun l z hl hp ih a ln n => ?_) l
  · intro a ln n
    rw [List.take_nil, lexA_nil]
  · rw [skip_tok hl hp hk, List.take_zero, lexA_nil]
  · have hr := piece_room l hl
    rw [hp] at hr
    simp only at hr
    have hne : l.take (z + skipN (l.drop z)) ≠ [] := by
      intro e
      have := congrArg List.length e
      rw [List.length_take, List.length_nil] at this
      omega
    rw [skip_gap hl hp, lexA_gap hne (gap_cut hl hp (by omega)), List.drop_take, Nat.add_sub_cancel_left]
    exact ih _ _ _
end Go.Proofs.YtjfhhhabcbkahaaGreat

/-
  Texts and their tokens, plain: a token does not ask what stands far behind it; where tokens stand is no matter for them.
-/
namespace Go.Proofs.YtjfhhhabcbkahaaGreat
set_option linter.unusedVariables false
set_option linter.unusedSimpArgs false

theorem runN_app_lt {p : UInt8 → Bool} : ∀ {x y : Byts8} (y' : Byts8), runN p (x ++ y) < x.length → runN p (x ++ y') = runN p (x ++ y)
  | [], y, y', h => by simp at h
  | c :: x, y, y', h => by
    rw [List.cons_append, runN_cons] at h
    rw [List.cons_append, List.cons_append, runN_cons, runN_cons]
    split at h
    · rename_i hc
      rw [if_pos hc, if_pos hc, runN_app_lt (x := x) (y := y) y' (by simpa using h)]
    · rename_i hc
      rw [if_neg hc, if_neg hc]
theorem runN_none {p : UInt8 → Bool} {y : Byts8} (h : begN p y = false) : runN p y = 0 := by
  cases y with
  | nil => rfl
  | cons b y => rw [runN_cons, if_neg (by rw [show p b = false from h]; simp)]
theorem runN_app_full {p : UInt8 → Bool} : ∀ {x y y' : Byts8}, runN p (x ++ y) = x.length → begN p y' = false → runN p (x ++ y') = x.length
  | [], y, y', h, hy => by simpa using runN_none hy
  | c :: x, y, y', h, hy => by
    rw [List.cons_append, runN_cons] at h
    rw [List.cons_append, runN_cons]
    split at h
    · rename_i hc
      rw [if_pos hc, runN_app_full (x := x) (y := y) (by simpa using h) hy]
      rfl
    · simp at h
theorem runN_full_beg {p : UInt8 → Bool} : ∀ {x y : Byts8}, runN p (x ++ y) = x.length → begN p y = false
  | [], y, h => by
    cases y with
    | nil => rfl
    | cons b y =>
      rw [List.nil_append, runN_cons] at h
      split at h
      · simp at h
      · rename_i hc; simpa [begN] using hc
  | c :: x, y, h => by
    rw [List.cons_append, runN_cons] at h
    split at h
    · exact runN_full_beg (x := x) (by simpa using h)
    · simp at h
theorem runN_all {p : UInt8 → Bool} : ∀ {x y : Byts8}, (∀ b ∈ x, p b = true) → runN p (x ++ y) = x.length + runN p y
  | [], y, _ => by simp
  | c :: x, y, h => by
    rw [List.cons_append, runN_cons, if_pos (h c (by simp)), runN_all (fun b hb => h b (by simp [hb]))]
    simp only [List.length_cons]
    omega

/-- What y does not begin with, y' does not begin with, as long as that is no blank. -/
def Nice (y y' : Byts8) : Prop := ∀ p : UInt8 → Bool, (∀ b, isBl b = true → p b = false) → begN p y = false → begN p y' = false
theorem nice_same {y y' : Byts8} (h : y'.head? = y.head?) : Nice y y' := by
  intro p _ hp
  cases y' with
  | nil => rfl
  | cons b r =>
    cases y with
    | nil => simp at h
    | cons c r' =>
      simp at h
      subst h
      exact hp
theorem nice_blank {y y' : Byts8} (h : begN isBl y' = true ∨ y' = []) : Nice y y' := by
  intro p hb _
  rcases h with h | rfl
  · cases y' with
    | nil => rfl
    | cons b r => exact hb b h
  · rfl
theorem bl_dg (b : UInt8) (h : isBl b = true) : isDg b = false := by
  simp only [isBl, Bool.or_eq_true, Bool.and_eq_true, decide_eq_true_eq] at h
  simp only [isDg, Bool.and_eq_false_iff, decide_eq_false_iff_not]
  omega
theorem bl_lt (b : UInt8) (h : isBl b = true) : isLt b = false := by
  simp only [isBl, Bool.or_eq_true, Bool.and_eq_true, decide_eq_true_eq] at h
  simp only [isLt, Bool.or_eq_false_iff, Bool.and_eq_false_iff, decide_eq_false_iff_not]
  omega
theorem bl_wd (b : UInt8) (h : isBl b = true) : isWd b = false := by
  unfold isWd
  rw [bl_dg b h, bl_lt b h]
  rfl
theorem bl_pt (b : UInt8) (h : isBl b = true) : isPt b = false := by
  simp only [isBl, Bool.or_eq_true, Bool.and_eq_true, decide_eq_true_eq] at h
  simp only [isPt, decide_eq_false_iff_not]
  omega
theorem bl_eq (c b : UInt8) (hc : isBl c = false) (h : isBl b = true) : (c == b) = false := by
  rw [beq_eq_false_iff_ne]
  intro e
  subst e
  rw [hc] at h
  cases h

theorem pre2_nice {u v c : UInt8} {x y y' : Byts8} (hv : isBl v = false) (hn : Nice y y') (h : pre2 u v (c :: x ++ y) = false) : pre2 u v (c :: x ++ y') = false := by
  cases x with
  | cons d x =>
    simp only [List.cons_append, pre2_cons] at h ⊢
    exact h
  | nil =>
    have e : ∀ r : Byts8, pre2 u v (c :: r) = ((u == c) && begN (fun b => v == b) r) := fun r => by
      cases r with
      | nil => rw [pre2_one]; simp [begN]
      | cons b r => rw [pre2_cons]; rfl
    simp only [List.cons_append, List.nil_append] at h ⊢
    rw [e] at h ⊢
    by_cases hc : (u == c) = true
    · rw [hc, Bool.true_and] at h ⊢
      exact hn _ (fun b hb => bl_eq v b hv hb) h
    · rw [show (u == c) = false by simpa using hc]
      rfl
theorem two_nice {c : UInt8} {x y y' : Byts8} (hn : Nice y y') (h : isTwo (c :: x ++ y) = false) : isTwo (c :: x ++ y') = false := by
  cases x with
  | cons d x => exact h
  | nil =>
    have hcons : ∀ (r : Byts8), isTwo (c :: r) = begN (fun b => twos.contains [c, b]) r := fun r => by
      cases r with
      | nil =>
        unfold isTwo
        show twos.contains [c] = false
        rw [List.contains_eq_any_beq]
        simp [twos]
      | cons b r => rfl
    simp only [List.cons_append, List.nil_append] at h ⊢
    rw [hcons] at h ⊢
    refine hn _ (fun b hb => ?_) h
    have h0 : ∀ t ∈ twos, ∀ b' , t.getLast? = some b' → isBl b' = false := by decide
    by_cases hc : twos.contains [c, b] = true
    · have := h0 [c, b] (by simpa using hc) b rfl
      rw [this] at hb
      cases hb
    · simpa using hc

theorem num_nice {x y y' : Byts8} {k : Int} (hn : Nice y y') (h : numP (x ++ y) = (k, x.length)) : numP (x ++ y') = (k, x.length) := by
  unfold numP at h ⊢
  have hle : runN isDg (x ++ y) ≤ x.length := by
    by_cases hb : begN isPt ((x ++ y).drop (runN isDg (x ++ y))) = true
    · rw [if_pos hb] at h
      have := (Prod.mk.inj h).2
      omega
    · rw [if_neg hb] at h
      have := (Prod.mk.inj h).2
      omega
  by_cases hlt : runN isDg (x ++ y) < x.length
  · have e1 := runN_app_lt (x := x) (y := y) y' hlt
    rw [e1]
    generalize runN isDg (x ++ y) = d at *
    have hdx : ∀ r : Byts8, begN isPt ((x ++ r).drop d) = begN isPt (x.drop d) := fun r => by
      rw [List.drop_append_of_le_length (by omega)]
      have : x.drop d ≠ [] := by
        intro e
        have := congrArg List.length e
        rw [List.length_drop, List.length_nil] at this
        omega
      cases hx : x.drop d with
      | nil => exact absurd hx this
      | cons b r => rfl
    rw [hdx] at h ⊢
    by_cases hb : begN isPt (x.drop d) = true
    · rw [if_pos hb] at h ⊢
      have hz := (Prod.mk.inj h).2
      have hk := (Prod.mk.inj h).1
      rw [List.drop_append_of_le_length (by omega)] at hz ⊢
      have hfull : runN isDg (x.drop (d + 1) ++ y) = (x.drop (d + 1)).length := by rw [List.length_drop]; omega
      rw [runN_app_full hfull (hn _ bl_dg (runN_full_beg hfull)), ← hk, List.length_drop]
      congr 1
      omega
    · rw [if_neg hb] at h
      have := (Prod.mk.inj h).2
      omega
  · have hfull : runN isDg (x ++ y) = x.length := by omega
    have hyf := hn _ bl_dg (runN_full_beg hfull)
    rw [runN_app_full hfull hyf]
    rw [hfull] at h
    rw [List.drop_left] at h ⊢
    by_cases hb : begN isPt y = true
    · rw [if_pos hb] at h
      have := (Prod.mk.inj h).2
      omega
    · rw [if_neg hb] at h
      rw [if_neg (by rw [hn _ bl_pt (by simpa using hb)]; simp)]
      exact h

/-- A token's begin is told alike whatever stands far behind it. -/
theorem tok_loc {c : UInt8} {x y y' : Byts8} {k : Int} (hn : Nice y y') (h : pieceP (c :: x ++ y) = (k, (c :: x).length)) (h1 : k ≠ -1) (h2 : k ≠ -2) : pieceP (c :: x ++ y') = (k, (c :: x).length) := by
  unfold pieceP at h ⊢
  have b1 : begN isBl (c :: x ++ y') = begN isBl (c :: x ++ y) := rfl
  rw [b1]
  by_cases c1 : begN isBl (c :: x ++ y) = true
  · rw [if_pos c1] at h
    exact absurd (Prod.mk.inj h).1.symm h1
  rw [if_neg c1] at h ⊢
  by_cases c2 : pre2 47 47 (c :: x ++ y) = true
  · rw [if_pos c2] at h
    exact absurd (Prod.mk.inj h).1.symm h1
  rw [if_neg c2] at h
  rw [if_neg (by rw [pre2_nice (by decide) hn (by simpa using c2)]; simp)]
  by_cases c3 : pre2 47 42 (c :: x ++ y) = true
  · rw [if_pos c3] at h
    exfalso
    unfold comP at h
    split at h
    · exact h2 (Prod.mk.inj h).1.symm
    · exact h1 (Prod.mk.inj h).1.symm
  rw [if_neg c3] at h
  rw [if_neg (by rw [pre2_nice (by decide) hn (by simpa using c3)]; simp)]
  have b4 : begN isLt (c :: x ++ y') = begN isLt (c :: x ++ y) := rfl
  rw [b4]
  by_cases c4 : begN isLt (c :: x ++ y) = true
  · rw [if_pos c4] at h ⊢
    have hz := (Prod.mk.inj h).2
    have hk := (Prod.mk.inj h).1
    rw [runN_app_full hz (hn _ bl_wd (runN_full_beg hz)), ← hk]
  rw [if_neg c4] at h ⊢
  have b5 : begN isDg (c :: x ++ y') = begN isDg (c :: x ++ y) := rfl
  have b6 : begN isPt (c :: x ++ y') = begN isPt (c :: x ++ y) := rfl
  have hd : ∀ r : Byts8, (c :: x ++ r).drop 1 = x ++ r := fun _ => rfl
  rw [b5, b6, hd]
  rw [hd] at h
  by_cases c5 : (begN isDg (c :: x ++ y) || (begN isPt (c :: x ++ y) && begN isDg (x ++ y))) = true
  · rw [if_pos c5] at h
    rw [if_pos, num_nice hn h]
    rcases (Bool.or_eq_true _ _).mp c5 with c6 | c6
    · rw [c6]; rfl
    · obtain ⟨c7, c8⟩ := (Bool.and_eq_true _ _).mp c6
      cases x with
      | cons d x =>
        rw [show begN isDg (d :: x ++ y') = begN isDg (d :: x ++ y) from rfl]
        exact c5
      | nil =>
        exfalso
        have hpt : isPt c = true := c7
        have hnd : isDg c = false := by
          simp only [isPt, decide_eq_true_eq] at hpt
          simp only [isDg, Bool.and_eq_false_iff, decide_eq_false_iff_not]
          omega
        have hz := (Prod.mk.inj h).2
        have e0 : runN isDg (c :: y) = 0 := by rw [runN_cons, if_neg (by rw [hnd]; simp)]
        have e1 : (numP (c :: y)).2 = 0 + 1 + runN isDg y := by
          unfold numP
          rw [e0, List.drop_zero, if_pos (show begN isPt (c :: y) = true from hpt)]
          rfl
        have e2 : (numP (c :: y)).2 = 1 := congrArg Prod.snd h
        have := runN_pos c8
        simp only [List.nil_append] at this
        omega
  · rw [if_neg c5] at h
    have c5f : begN isDg (c :: x ++ y) = false ∧ (begN isPt (c :: x ++ y) = true → begN isDg (x ++ y) = false) := by
      have := c5
      simp only [Bool.or_eq_true, Bool.and_eq_true, not_or, not_and, Bool.not_eq_true] at this
      exact ⟨this.1, this.2⟩
    rw [if_neg]
    · unfold signP at h ⊢
      by_cases c6 : isTwo (c :: x ++ y) = true
      · rw [if_pos c6] at h
        cases x with
        | cons d x =>
          rw [if_pos (show isTwo (c :: d :: x ++ y') = true from c6)]
          exact h
        | nil =>
          have := (Prod.mk.inj h).2
          simp at this
      · rw [if_neg c6] at h
        rw [if_neg (by rw [two_nice hn (by simpa using c6)]; simp)]
        exact h
    · intro hcon
      rcases (Bool.or_eq_true _ _).mp hcon with c6 | c6
      · rw [c5f.1] at c6; cases c6
      · obtain ⟨c7, c8⟩ := (Bool.and_eq_true _ _).mp c6
        have c9 := c5f.2 c7
        cases x with
        | cons d x => rw [show begN isDg (d :: x ++ y') = begN isDg (d :: x ++ y) from rfl, c9] at c8; cases c8
        | nil =>
          simp only [List.nil_append] at c8 c9
          rw [hn _ bl_dg c9] at c8
          cases c8
end Go.Proofs.YtjfhhhabcbkahaaGreat

/-
  Texts and their tokens, plain: blanks put ahead of a token.
-/
namespace Go.Proofs.YtjfhhhabcbkahaaGreat
set_option linter.unusedVariables false
set_option linter.unusedSimpArgs false

/-- A token without its place. -/
def key (t : Tok) : Int × Byts8 × Int := (t.kind, t.text, t.num)
def keys (L : List Tok) : List (Int × Byts8 × Int) := L.map key

/-- Where a text stands is no matter for its tokens. -/
theorem lexA_shift (l : Byts8) : ∀ (a ln a' ln' : Int) (n : Nat), (lexA l a ln n).2.1 = (lexA l a' ln' n).2.1 ∧ keys (lexA l a ln n).1 = keys (lexA l a' ln' n).1 := by
  induction hn : l.length using Nat.strongRecOn generalizing l with
  | _ m ih =>
    intro a ln a' ln' n
    by_cases hl : l = []
    · subst hl
      rw [lexA_nil, lexA_nil]
      exact ⟨rfl, rfl⟩
    obtain ⟨k, z, hp⟩ : ∃ k z, pieceP l = (k, z) := ⟨_, _, rfl⟩
    have hr := piece_room l hl
    rw [hp] at hr
    simp only at hr
    have hd : (l.drop z).length < m := by rw [List.length_drop]; omega
    by_cases hk : k = -1
    · subst hk
      rw [lexA_gap hl hp, lexA_gap hl hp]
      exact ih _ hd _ rfl _ _ _ _ _
    · by_cases ht : (tellP k (l.take z) (l.drop z) n).2 = 0
      · rw [lexA_tok hl hp hk a ln n ht, lexA_tok hl hp hk a' ln' n ht]
        have := ih _ hd _ rfl (a + z) (ln + cntL (l.take z)) (a' + z) (ln' + cntL (l.take z)) (n + 1)
        by_cases h0 : (lexA (l.drop z) (a + z) (ln + cntL (l.take z)) (n + 1)).2.1 = 0
        · rw [if_neg (by simpa using h0), if_neg (by rw [← this.1]; simpa using h0)]
          refine ⟨rfl, ?_⟩
          simp only [keys, List.map_cons] at this ⊢
          rw [this.2]
          rfl
        · rw [if_pos h0, if_pos (by rw [← this.1]; exact h0)]
          exact this
      · rw [lexA_bad hl hp hk a ln n ht, lexA_bad hl hp hk a' ln' n ht]
        exact ⟨rfl, rfl⟩

theorem begN_app {p : UInt8 → Bool} {l : Byts8} {m : Nat} (h : 1 ≤ m) (hl : l ≠ []) (y : Byts8) : begN p (l.take m ++ y) = begN p l := by
  cases l with
  | nil => exact absurd rfl hl
  | cons b l =>
    obtain ⟨m, rfl⟩ : ∃ k, m = k + 1 := ⟨m - 1, by omega⟩
    rfl
theorem pre2_app {u v : UInt8} {l : Byts8} {m : Nat} (h : 2 ≤ m) (hl : 2 ≤ l.length) (y : Byts8) : pre2 u v (l.take m ++ y) = pre2 u v l := by
  obtain ⟨m, rfl⟩ : ∃ k, m = k + 2 := ⟨m - 2, by omega⟩
  rcases l with _ | ⟨a, _ | ⟨b, r⟩⟩
  · simp at hl
  · simp at hl
  · simp only [List.take_succ_cons, List.cons_append, pre2_cons]
theorem index_app : ∀ (l y : Byts8), 0 ≤ Lib.index l [42, 47] → Lib.index (l ++ y) [42, 47] = Lib.index l [42, 47]
  | [], y, h => by simp [Lib.index] at h
  | b :: l, y, h => by
    have hg := Lib.index_ge l [42, 47]
    rw [Lib.index] at h
    rw [List.cons_append, Lib.index, Lib.index]
    by_cases h1 : ([42, 47] : Byts8).isPrefixOf (b :: l) = true
    · have h1' : ([42, 47] : Byts8).isPrefixOf (b :: (l ++ y)) = true := by
        cases l with
        | nil => simp [List.isPrefixOf] at h1
        | cons c l => simpa [List.isPrefixOf] using h1
      rw [if_pos h1, if_pos h1']
    · rw [if_neg h1] at h
      by_cases h2 : (Lib.index l [42, 47] == -1) = true
      · rw [if_pos h2] at h
        omega
      · rw [if_neg h2] at h
        have h2' : Lib.index l [42, 47] ≠ -1 := by simpa using h2
        have h1' : ¬ ([42, 47] : Byts8).isPrefixOf (b :: (l ++ y)) = true := by
          cases l with
          | nil => simp [Lib.index] at h2'
          | cons c l => simpa [List.isPrefixOf] using h1
        rw [if_neg h1, if_neg h1', index_app l y (by omega)]
/-- Which of the three gaps a text begins with. -/
theorem gap_cases {l : Byts8} {z : Nat} (hp : pieceP l = (-1, z)) : (begN isBl l = true ∧ z = runN isBl l) ∨ (begN isBl l = false ∧ pre2 47 47 l = true ∧ z = runN isLn l) ∨
    (begN isBl l = false ∧ pre2 47 47 l = false ∧ pre2 47 42 l = true ∧ 0 ≤ Lib.index (l.drop 2) [42, 47] ∧ z = (Lib.index (l.drop 2) [42, 47]).toNat + 4) := by
  unfold pieceP at hp
  by_cases c1 : begN isBl l = true
  · rw [if_pos c1] at hp
    exact .inl ⟨c1, (Prod.mk.inj hp).2.symm⟩
  rw [if_neg c1] at hp
  have c1' : begN isBl l = false := by simpa using c1
  by_cases c2 : pre2 47 47 l = true
  · rw [if_pos c2] at hp
    exact .inr (.inl ⟨c1', c2, (Prod.mk.inj hp).2.symm⟩)
  rw [if_neg c2] at hp
  have c2' : pre2 47 47 l = false := by simpa using c2
  by_cases c3 : pre2 47 42 l = true
  · rw [if_pos c3] at hp
    unfold comP at hp
    by_cases hi : Lib.index (l.drop 2) [42, 47] < 0
    · rw [if_pos hi] at hp
      have := (Prod.mk.inj hp).1
      omega
    · rw [if_neg hi] at hp
      exact .inr (.inr ⟨c1', c2', c3, by omega, (Prod.mk.inj hp).2.symm⟩)
  rw [if_neg c3] at hp
  exfalso
  by_cases c4 : begN isLt l = true
  · rw [if_pos c4] at hp
    have := (Prod.mk.inj hp).1
    omega
  rw [if_neg c4] at hp
  by_cases c5 : (begN isDg l || (begN isPt l && begN isDg (l.drop 1))) = true
  · rw [if_pos c5] at hp
    have := numP_kind l
    rw [hp] at this
    simp at this
  · rw [if_neg c5] at hp
    have := signP_kind l
    rw [hp] at this
    simp at this
theorem pre2_len {u v : UInt8} {l : Byts8} (h : pre2 u v l = true) : 2 ≤ l.length := by
  obtain ⟨r, rfl⟩ := pre2_split h
  simp
theorem runN_cut {p : UInt8 → Bool} {l : Byts8} {m : Nat} (h : runN p l < m) (hm : m ≤ l.length) (y : Byts8) : runN p (l.take m ++ y) = runN p l := by
  have e : l.take m ++ l.drop m = l := List.take_append_drop m l
  have hl : (l.take m).length = m := by rw [List.length_take]; omega
  have := runN_app_lt (p := p) (x := l.take m) (y := l.drop m) y (by rw [e, hl]; exact h)
  rw [this, e]
/-- A star comment is told alike whatever stands behind its end. -/
theorem star_loc {l : Byts8} {z m : Nat} (h1 : begN isBl l = false) (h2 : pre2 47 47 l = false) (h3 : pre2 47 42 l = true) (h4 : 0 ≤ Lib.index (l.drop 2) [42, 47]) (hz : z = (Lib.index (l.drop 2) [42, 47]).toNat + 4) (hm : z ≤ m) (y : Byts8) : pieceP (l.take m ++ y) = (-1, z) := by
  have hl := pre2_len h3
  have hne : l ≠ [] := by intro e; subst e; simp at hl
  have hroom := index_room (l.drop 2) (by omega)
  rw [List.length_drop] at hroom
  unfold pieceP
  rw [begN_app (by omega) hne, if_neg (by rw [h1]; simp), pre2_app (by omega) hl, if_neg (by rw [h2]; simp), pre2_app (by omega) hl, if_pos h3]
  have e : (l.take m ++ y).drop 2 = (l.drop 2).take (m - 2) ++ y := by
    rw [List.drop_append_of_le_length (by rw [List.length_take]; omega), List.drop_take]
  unfold comP
  rw [e, index_app _ _ (by rw [index_take _ _ h4 (by omega)]; exact h4), index_take _ _ h4 (by omega), if_neg (by omega), hz]
/-- Blanks and comments are told alike whatever stands behind the byte that ends them. -/
theorem gap_loc {l : Byts8} {z m : Nat} (hl : l ≠ []) (hp : pieceP l = (-1, z)) (hz : z < m) (hm : m ≤ l.length) (y : Byts8) : pieceP (l.take m ++ y) = (-1, z) := by
  rcases gap_cases hp with ⟨h1, h2⟩ | ⟨h1, h2, h3⟩ | ⟨h1, h2, h3, h4, h5⟩
  · unfold pieceP
    rw [begN_app (by omega) hl, if_pos h1, runN_cut (by omega) hm, h2]
  · have h2l := pre2_len h2
    have hz2 : 2 ≤ z := by
      obtain ⟨r, rfl⟩ := pre2_split h2
      rw [h3, runN_cons, if_pos (by rfl), runN_cons, if_pos (by rfl)]
      omega
    unfold pieceP
    rw [begN_app (by omega) hl, if_neg (by rw [h1]; simp), pre2_app (by omega) h2l, if_pos h2, runN_cut (by omega) hm, h3]
  · exact star_loc h1 h2 h3 h4 h5 (by omega) y

/-- Ahead of a byte of the token all is passed by as it was. -/
theorem skip_loc (l : Byts8) : ∀ (m : Nat) (y : Byts8) (a ln : Int) (n : Nat), skipN l < m → m ≤ l.length → ∃ a' ln', lexA (l.take m ++ y) a ln n = lexA ((l.drop (skipN l)).take (m - skipN l) ++ y) a' ln' n := by
  refine skip_ind (M := fun l => ∀ (m : Nat) (y : Byts8) (a ln : Int) (n : Nat), skipN l < m → m ≤ l.length → ∃ a' ln', lexA (l.take m ++ y) a ln n = lexA ((l.drop (skipN l)).take (m - skipN l) ++ y) a' ln' n) ?_ (fun l k z hl hp hk m y a ln n h1 h2 => ?_) (fun l z hl hp ih m y a ln n h1 h2 => ?_) l
  · intro m y a ln n h1 h2
    simp at h2
    omega
  · rw [skip_tok hl hp hk]
    exact ⟨a, ln, by simp⟩
  · rw [skip_gap hl hp] at h1 ⊢
    have hne : l.take m ++ y ≠ [] := by
      intro e
      have := congrArg List.length e
      rw [List.length_append, List.length_take, List.length_nil] at this
      omega
    have hd : (l.take m ++ y).drop z = (l.drop z).take (m - z) ++ y := by
      rw [List.drop_append_of_le_length (by rw [List.length_take]; omega), List.drop_take]
    obtain ⟨a', ln', h⟩ := ih (m - z) y (a + z) (ln + cntL ((l.take m ++ y).take z)) n (by omega) (by rw [List.length_drop]; omega)
    refine ⟨a', ln', ?_⟩
    rw [lexA_gap hne (gap_loc hl hp (by omega) h2 y), hd, h, List.drop_drop, show m - z - skipN (l.drop z) = m - (z + skipN (l.drop z)) by omega]

theorem tok_beg {l : Byts8} {k : Int} {z : Nat} (hp : pieceP l = (k, z)) (hk : k ≠ -1) : begN isBl l = false := by
  by_cases h : begN isBl l = true
  · unfold pieceP at hp
    rw [if_pos h] at hp
    exact absurd (Prod.mk.inj hp).1.symm hk
  · simpa using h
theorem blanks_pass {more l : Byts8} (hm : ∀ b ∈ more, isBl b = true) (hne : more ≠ []) (hb : begN isBl l = false) (a ln : Int) (n : Nat) : ∃ a' ln', lexA (more ++ l) a ln n = lexA l a' ln' n := by
  have hp : pieceP (more ++ l) = (-1, more.length) := by
    have h1 : begN isBl (more ++ l) = true := by
      cases more with
      | nil => exact absurd rfl hne
      | cons b r => exact hm b (by simp)
    unfold pieceP
    rw [if_pos h1, runN_all hm, runN_none hb]
    rfl
  have e := lexA_gap (l := more ++ l) (by simp [hne]) hp a ln n
  rw [List.drop_left] at e
  exact ⟨_, _, e⟩
/-- Blanks put right ahead of a token are passed by. -/
theorem gap_pass {more : Byts8} (hm : ∀ b ∈ more, isBl b = true) (hne : more ≠ []) (l : Byts8) : ∀ (a ln : Int) (n : Nat), l.drop (skipN l) ≠ [] → ∃ a' ln', lexA (l.take (skipN l) ++ (more ++ l.drop (skipN l))) a ln n = lexA (l.drop (skipN l)) a' ln' n := by
  refine skip_ind (M := fun l => ∀ (a ln : Int) (n : Nat), l.drop (skipN l) ≠ [] → ∃ a' ln', lexA (l.take (skipN l) ++ (more ++ l.drop (skipN l))) a ln n = lexA (l.drop (skipN l)) a' ln' n) ?_ (fun l k z hl hp hk a ln n h1 => ?_) (fun l z hl hp ih a ln n h1 => ?_) l
  · intro a ln n h
    simp at h
  · rw [skip_tok hl hp hk, List.drop_zero, List.take_zero, List.nil_append]
    exact blanks_pass hm hne (tok_beg hp hk) a ln n
  · have hst := skip_stop l h1
    obtain ⟨k1, z1, hp1⟩ : ∃ k z, pieceP (l.drop (skipN l)) = (k, z) := ⟨_, _, rfl⟩
    rw [hp1] at hst
    have hb1 := tok_beg hp1 hst
    have hroom := piece_room l hl
    rw [hp] at hroom
    simp only at hroom
    rw [skip_gap hl hp] at h1 hp1 hb1 ⊢
    rw [← List.drop_drop] at h1
    have hlen : z + skipN (l.drop z) < l.length := by
      refine Nat.lt_of_not_le fun h => h1 ?_
      rw [List.drop_drop]
      exact List.drop_of_length_le h
    have hd : ∀ y : Byts8, (l.take (z + skipN (l.drop z)) ++ y).drop z = (l.drop z).take (skipN (l.drop z)) ++ y := fun y => by
      rw [List.drop_append_of_le_length (by rw [List.length_take]; omega), List.drop_take, Nat.add_sub_cancel_left]
    have hne2 : ∀ y : Byts8, l.take (z + skipN (l.drop z)) ++ y ≠ [] := fun y e => by
      have := congrArg List.length e
      rw [List.length_append, List.length_take, List.length_nil] at this
      omega
    have go : ∀ y : Byts8, y = more ++ l.drop (z + skipN (l.drop z)) → pieceP (l.take (z + skipN (l.drop z)) ++ y) = (-1, z) → ∃ a' ln', lexA (l.take (z + skipN (l.drop z)) ++ y) a ln n = lexA (l.drop (z + skipN (l.drop z))) a' ln' n := fun y hy h => by
      subst hy
      obtain ⟨a', ln', h3⟩ := ih (a + z) (ln + cntL ((l.take (z + skipN (l.drop z)) ++ (more ++ l.drop (z + skipN (l.drop z)))).take z)) n h1
      refine ⟨a', ln', ?_⟩
      rw [List.drop_drop] at h3
      rw [lexA_gap (hne2 _) h, hd _, h3]
    by_cases hs0 : skipN (l.drop z) = 0
    · rw [hs0] at h1 hp1 hb1 hlen hd hne2 go ⊢
      rw [Nat.add_zero] at hp1 hb1 hlen hd hne2 go ⊢
      rcases gap_cases hp with ⟨g1, g2⟩ | ⟨g1, g2, g3⟩ | ⟨g1, g2, g3, g4, g5⟩
      · have hz1 : 1 ≤ z := hroom.1
        have hall : ∀ b ∈ l.take z, isBl b = true := by
          rw [g2]
          have : ∀ l : Byts8, ∀ b ∈ l.take (runN isBl l), isBl b = true := by
            intro l
            induction l with
            | nil => simp
            | cons c l ih2 =>
              intro b hb
              rw [runN_cons] at hb
              split at hb
              · rename_i hc
                rw [List.take_succ_cons] at hb
                rcases List.mem_cons.1 hb with rfl | hb
                · exact hc
                · exact ih2 b hb
              · simp at hb
          exact this l
        have := blanks_pass (more := l.take z ++ more) (l := l.drop z) (fun b hb => by
          rcases List.mem_append.1 hb with hb | hb
          · exact hall b hb
          · exact hm b hb) (by simp [hne]) hb1 a ln n
        rw [List.append_assoc] at this
        exact this
      · exfalso
        have hx : begN isBl (l.drop z) = true := by
          have e : l.take z ++ l.drop z = l := List.take_append_drop z l
          have hf : runN isLn (l.take z ++ l.drop z) = (l.take z).length := by rw [e, List.length_take, ← g3]; omega
          have hb := runN_full_beg hf
          have hnl : l.drop z ≠ [] := by
            intro e2
            have := congrArg List.length e2
            rw [List.length_drop, List.length_nil] at this
            omega
          cases hc : l.drop z with
          | nil => exact absurd hc hnl
          | cons b r =>
            rw [hc] at hb
            have h10 : b.toNat = 10 := by simpa [begN, isLn] using hb
            simp [begN, isBl, h10]
        rw [hx] at hb1
        cases hb1
      · exact go _ rfl (star_loc g1 g2 g3 g4 g5 (Nat.le_refl _) _)
    · exact go _ rfl (gap_loc hl hp (by omega) (by omega) _)

theorem tell_nice {k : Int} {t y y' : Byts8} {n : Nat} (hn : Nice y y') (h : (tellP k t y n).2 = 0) : tellP k t y' n = tellP k t y n := by
  have h1 : ¬ (decide (k = -2) || spoilt k t y) = true := fun e => by
    unfold tellP at h
    rw [if_pos e] at h
    cases h
  have h2 : ¬ (decide (k = -2) || spoilt k t y') = true := by
    simp only [Bool.or_eq_true, not_or, Bool.not_eq_true] at h1 ⊢
    refine ⟨h1.1, ?_⟩
    have h3 := h1.2
    unfold spoilt at h3 ⊢
    by_cases k2 : k = 2
    · rw [if_pos k2] at h3 ⊢
      rw [Bool.or_eq_false_iff] at h3 ⊢
      exact ⟨hn _ bl_lt h3.1, h3.2⟩
    · rw [if_neg k2] at h3 ⊢
      by_cases k3 : k = 3
      · rw [if_pos k3] at h3 ⊢
        rw [Bool.or_eq_false_iff] at h3 ⊢
        exact ⟨hn _ bl_lt h3.1, hn _ bl_pt h3.2⟩
      · rw [if_neg k3]
  unfold tellP
  rw [if_neg h1, if_neg h2]
theorem tell_kind {k : Int} {t y : Byts8} {n : Nat} (h : (tellP k t y n).2 = 0) : k ≠ -2 := fun e => by
  unfold tellP at h
  rw [if_pos (by simp [e])] at h
  cases h

/-- The first token of a text: what stands ahead of it, its piece, the others. -/
theorem lex_first {l : Byts8} {a ln : Int} {n : Nat} {ts : List Tok} (h : lexA l a ln n = (ts, 0, 0)) (hne : ts ≠ []) : ∃ (k : Int) (z : Nat) (x l2 : Byts8) (tm : Int) (ts' : List Tok) (ln2 : Int), l.drop (skipN l) = x ++ l2 ∧ x.length = z ∧ 1 ≤ z ∧ pieceP (x ++ l2) = (k, z) ∧ k ≠ -1 ∧ k ≠ -2 ∧
    (tellP k x l2 n).2 = 0 ∧ tm = (tellP k x l2 n).1 ∧ ts = ⟨k, x, tm, a + skipN l, ln + cntL (l.take (skipN l))⟩ :: ts' ∧ lexA l2 (a + skipN l + z) ln2 (n + 1) = (ts', 0, 0) ∧ lexA (x ++ l2) (a + skipN l) (ln + cntL (l.take (skipN l))) n = (ts, 0, 0) := by
  rw [lexA_skip] at h
  have hst := skip_stop l
  by_cases h0 : l.drop (skipN l) = []
  · rw [h0, lexA_nil] at h
    exact absurd (Prod.mk.inj h).1.symm hne
  have hst := hst h0
  generalize l.drop (skipN l) = l1 at *
  obtain ⟨k, z, hp⟩ : ∃ k z, pieceP l1 = (k, z) := ⟨_, _, rfl⟩
  have hr := piece_room _ h0
  rw [hp] at hr hst
  simp only at hr hst
  have h' := h
  by_cases ht : (tellP k (l1.take z) (l1.drop z) n).2 = 0
  · rw [lexA_tok h0 hp hst _ _ _ ht] at h
    obtain ⟨r, hq⟩ : ∃ r, lexA (l1.drop z) (a + skipN l + z) (ln + cntL (l.take (skipN l)) + cntL (l1.take z)) (n + 1) = r := ⟨_, rfl⟩
    have hf := lexA_form (l1.drop z) (a + skipN l + z) (ln + cntL (l.take (skipN l)) + cntL (l1.take z)) (n + 1)
    rw [hq] at h hf
    obtain ⟨r1, r2, r3⟩ := r
    by_cases hz : r2 = 0
    · rw [if_neg (by simpa using hz)] at h
      have h3 : r3 = 0 := hf.1 hz
      subst hz h3
      have e : l1.take z ++ l1.drop z = l1 := List.take_append_drop z l1
      refine ⟨k, z, l1.take z, l1.drop z, _, r1, _, e.symm, by rw [List.length_take]; omega, hr.1, by rw [e]; exact hp, hst, tell_kind ht, ht, rfl, (Prod.mk.inj h).1.symm, hq, by rw [e]; exact h'⟩
    · rw [if_pos hz] at h
      exact absurd (Prod.mk.inj (Prod.mk.inj h).2).1 hz
  · rw [lexA_bad h0 hp hst _ _ _ ht] at h
    simp only [Prod.mk.injEq] at h
    exact absurd h.2.1 ht
end Go.Proofs.YtjfhhhabcbkahaaGreat

/-
  Which lists of tokens are the same: alike, slices.EqualFunc, Same.
-/
namespace Go.Proofs.YtjfhhhabcbkahaaGreat
open Go.RowKit
set_option linter.unusedSimpArgs false
set_option linter.unusedVariables false

/-- A token as a value. -/
def tokV (t : Tok) : Value := .agg #[.int .i64 t.kind, .string ⟨t.text.toArray⟩, .int .i32 t.num, .int .i64 t.place, .int .i64 t.line]
def tokEq (a b : Tok) : Bool := decide (key a = key b)
theorem tokEq_iff (a b : Tok) : tokEq a b = (a.kind == b.kind && (a.text == b.text && a.num == b.num)) := by
  unfold tokEq key
  rw [Bool.eq_iff_iff]
  simp [Prod.mk.injEq]
set_option maxHeartbeats 1000000 in
theorem alike_any (a b : Tok) (w : World) : Calls Tryz.prog 72 #[.agg #[.int .i64 a.kind, .string ⟨a.text.toArray⟩, .int .i32 a.num, .int .i64 a.place, .int .i64 a.line], .agg #[.int .i64 b.kind, .string ⟨b.text.toArray⟩, .int .i32 b.num, .int .i64 b.place, .int .i64 b.line]] w fun e w' => e = .returned (.bool (tokEq a b)) ∧ Ext w w' := by
  rw [tokEq_iff]
  obtain ⟨k1, t1, n1, p1, l1⟩ := a
  obtain ⟨k2, t2, n2, p2, l2⟩ := b
  simp only
  go_enter Tryz.func72, Tryz.ntmps72
  by_cases hk : k1 = k2
  · subst hk
    by_cases ht : t1 = t2
    · subst ht
      go_wp2
      go_ret
      exact ⟨by simp, ((Ext.refl w).alloc _).alloc _⟩
    · have ht' : (t1 == t2) = false := beq_eq_false_iff_ne.2 ht
      go_wp2
      go_ret
      exact ⟨by simp [ht'], ((Ext.refl w).alloc _).alloc _⟩
  · have hk' : (k1 == k2) = false := beq_eq_false_iff_ne.2 hk
    go_wp2
    go_ret
    exact ⟨by simp [hk'], ((Ext.refl w).alloc _).alloc _⟩

/-- Whether tokens are the same, wherever they stand. -/
def sameK (A B : List Tok) : Bool := decide (keys A = keys B)
theorem keys_len (A : List Tok) : (keys A).length = A.length := by simp [keys]
theorem keys_step (A B : List Tok) (k : Nat) (hA : k < A.length) (hB : k < B.length) (h : keys (A.take k) = keys (B.take k)) : keys (A.take (k + 1)) = keys (B.take (k + 1)) ↔ key A[k] = key B[k] := by
  rw [List.take_succ_eq_append_getElem hA, List.take_succ_eq_append_getElem hB]
  unfold keys at *
  rw [List.map_append, List.map_append, h]
  simp
theorem keys_take (A B : List Tok) (k : Nat) (h : keys A = keys B) : keys (A.take k) = keys (B.take k) := by
  unfold keys at *
  rw [List.map_take, List.map_take, h]

set_option maxHeartbeats 1000000 in
set_option maxRecDepth 100000 in
theorem equal_any (A B : List Tok) (ao bo : Option Addr) (ca cb : Nat) (w : World) (hA : TR w (.slice ao A.length ca) A) (hB : TR w (.slice bo B.length cb) B) (eg : ∀ args w, (callFunc 72 args).run Tryz.prog w = .ok (.enter 72 args) w) :
    Calls Tryz.prog 71 #[.slice ao A.length ca, .slice bo B.length cb, .func (.func 72) #[] #[]] w fun e w' => e = .returned (.bool (sameK A B)) ∧ Ext w w' := by
  have HA := hide hA
  have HB := hide hB
  have hbig : B.length ≤ 9223372036854775807 := by
    obtain ⟨_, _, _, _, h1, h2, _⟩ := hB
    unfold maxLen at h2
    omega
  clear hA hB
  by_cases hlen : A.length = B.length
  · have hl' : (!((A.length : Int) == (B.length : Int))) = false := by rw [hlen]; simp
    go_enter Tryz.func71, Tryz.ntmps71
    rw [hlen]
    go_wp2
    go_loopw [17] (fun iv wr => ∃ k : Nat, k ≤ B.length ∧ iv = .int .i64 k ∧ keys (A.take k) = keys (B.take k) ∧ Ext w wr) (fun iv _ => B.length - (intOf iv).toNat)
    case atStart => exact ⟨0, by omega, rfl, by simp, Ext.refl _⟩
    case round =>
      obtain ⟨k, hk, rfl, hkeys, hx⟩ := hrel
      have HK := hide hkeys
      have X := hide hx
      clear hkeys hx
      by_cases hlt : k < B.length
      · have hlA : k < A.length := by omega
        obtain ⟨b1, o1, rfl, h1⟩ := ((unhide HA).ext (unhide X)).at k hlA
        obtain ⟨b2, o2, rfl, h2⟩ := ((unhide HB).ext (unhide X)).at k hlt
        have hc : ∀ b (o : Obj) j u, wr.cell? ⟨b, j, none⟩ = some u → (wr.alloc o).cell? ⟨b, j, none⟩ = some u := fun b o j u hu => by
          rw [((Ext.refl wr).alloc o).cell (p := ⟨b, j, none⟩) (World.block_lt_of_cell? wr _ hu)]
          exact hu
        have c0 := h1.kind; have c1 := h1.text; have c2 := h1.num; have c3 := h1.place; have c4 := h1.line
        have d0 := fun o => hc _ o _ _ h2.kind
        have d1 := fun o => hc _ o _ _ h2.text
        have d2 := fun o => hc _ o _ _ h2.num
        have d3 := fun o => hc _ o _ _ h2.place
        have d4 := fun o => hc _ o _ _ h2.line
        clear h1 h2 hc
        have HS := hide (keys_step A B k hlA hlt (unhide HK))
        have HQ := hide (fun W => alike_any A[k] B[k] W)
        have HTQ := hide (show tokEq A[k] B[k] = decide (key A[k] = key B[k]) from rfl)
        generalize tokEq A[k] B[k] = te at *
        generalize A[k] = x at *
        generalize B[k] = y at *
        cases te with
        | true =>
          go_wp2_with fail
          refine (unhide HQ _).mono ?_
          rintro e w2 ⟨rfl, hx2⟩
          have X2 := hide ((((unhide X).alloc _).alloc _).trans hx2)
          clear hx2
          go_wp2
          refine ⟨⟨k + 1, by omega, rfl, (unhide HS).2 (of_decide_eq_true (unhide HTQ).symm), unhide X2⟩, ?_⟩
          simp [intOf]
          omega
        | false =>
          go_wp2_with fail
          refine (unhide HQ _).mono ?_
          rintro e w2 ⟨rfl, hx2⟩
          have X2 := hide ((((unhide X).alloc _).alloc _).trans hx2)
          clear hx2
          go_wp2
          go_ret
          refine ⟨?_, unhide X2⟩
          have hne : sameK A B = false := by
            unfold sameK
            refine decide_eq_false fun e => ?_
            have := (unhide HS).1 (keys_take A B (k + 1) e)
            exact of_decide_eq_false (unhide HTQ).symm this
          rw [hne]
          rfl
      · have hke : k = B.length := by omega
        have hs : sameK A B = true := by
          unfold sameK
          refine decide_eq_true ?_
          have := unhide HK
          rw [hke, List.take_length, ← hlen, List.take_length] at this
          exact this
        go_wp2
        go_ret
        exact ⟨by rw [hs]; rfl, unhide X⟩
  · have hl' : ((A.length : Int) == (B.length : Int)) = false := beq_eq_false_iff_ne.2 (by omega)
    have hs : sameK A B = false := by
      unfold sameK
      refine decide_eq_false fun e => hlen ?_
      rw [← keys_len, e, keys_len]
    rw [hs]
    go_enter Tryz.func71, Tryz.ntmps71
    go_wp2
    go_ret
    exact ⟨rfl, Ext.refl _⟩
theorem eAlike : ∀ args w, (callFunc 72 args).run Tryz.prog w = .ok (.enter 72 args) w := enters_of Tryz.func72 (by kernel_rfl) rfl
theorem same_any (A B : List Tok) (ao bo : Option Addr) (ca cb : Nat) (w : World) (hA : TR w (.slice ao A.length ca) A) (hB : TR w (.slice bo B.length cb) B) :
    Calls Tryz.prog 51 #[.slice ao A.length ca, .slice bo B.length cb] w fun e w' => e = .returned (.bool (sameK A B)) ∧ Ext w w' := by
  have HQ := hide (equal_any A B ao bo ca cb w hA hB eAlike)
  clear hA hB
  go_enter Tryz.func51, Tryz.ntmps51
  go_wp2_with fail
  refine (unhide HQ).mono ?_
  rintro e w2 ⟨rfl, hx2⟩
  go_wp2
  go_ret
  exact ⟨rfl, hx2⟩
end Go.Proofs.YtjfhhhabcbkahaaGreat

/-
  Texts and their tokens, plain: blanks put ahead of a token change no token; the text of tokens has these tokens.
-/
namespace Go.Proofs.YtjfhhhabcbkahaaGreat
set_option linter.unusedVariables false
set_option linter.unusedSimpArgs false

theorem place_in (d : Nat) : ∀ (l : Byts8) (a ln : Int) (n : Nat) (ts : List Tok), l.length ≤ d → lexA l a ln n = (ts, 0, 0) → ∀ t ∈ ts, a ≤ t.place ∧ t.place < a + l.length := by
  induction d with
  | zero =>
    intro l a ln n ts hd h t ht
    have : l = [] := List.length_eq_zero_iff.1 (by omega)
    subst this
    rw [lexA_nil] at h
    cases h
    simp at ht
  | succ d ih =>
    intro l a ln n ts hd h t ht
    have hne : ts ≠ [] := by intro e; subst e; simp at ht
    obtain ⟨k, z, x, l2, tm, ts', ln2, e1, hz, hz1, hp, hk1, hk2, ht0, _, e2, hrest, _⟩ := lex_first h hne
    have hlen : l.length - skipN l = z + l2.length := by
      have := congrArg List.length e1
      rw [List.length_drop, List.length_append] at this
      omega
    have hsl := skip_le l
    subst e2
    rcases List.mem_cons.1 ht with rfl | ht
    · simp only
      omega
    · have := ih l2 _ _ _ _ (by omega) hrest t ht
      omega

theorem keys_tok {l : Byts8} {k : Int} {z : Nat} (h : l ≠ []) (hp : pieceP l = (k, z)) (hk : k ≠ -1) (a ln : Int) (n : Nat) (ht : (tellP k (l.take z) (l.drop z) n).2 = 0) (hr : (lexA (l.drop z) (a + z) (ln + cntL (l.take z)) (n + 1)).2.1 = 0) :
    (lexA l a ln n).2.1 = 0 ∧ keys (lexA l a ln n).1 = (k, l.take z, (tellP k (l.take z) (l.drop z) n).1) :: keys (lexA (l.drop z) (a + z) (ln + cntL (l.take z)) (n + 1)).1 := by
  rw [lexA_tok h hp hk a ln n ht, if_neg (by simpa using hr)]
  exact ⟨rfl, rfl⟩

/-- Blanks ahead of a token change no token. -/
theorem ins {more : Byts8} (hm : ∀ b ∈ more, isBl b = true) (hmn : more ≠ []) (d : Nat) : ∀ (l : Byts8) (a ln : Int) (n : Nat) (ts : List Tok), l.length ≤ d → lexA l a ln n = (ts, 0, 0) → ∀ (j kk : Nat) (hj : j < ts.length), ts[j].place = a + kk → ∀ a' ln' : Int,
    (lexA (l.take kk ++ (more ++ l.drop kk)) a' ln' n).2.1 = 0 ∧ keys (lexA (l.take kk ++ (more ++ l.drop kk)) a' ln' n).1 = keys ts := by
  induction d with
  | zero =>
    intro l a ln n ts hd h j kk hj
    have : l = [] := List.length_eq_zero_iff.1 (by omega)
    subst this
    rw [lexA_nil] at h
    cases h
    simp at hj
  | succ d ih =>
    intro l a ln n ts hd h j kk hj hpl a' ln'
    have hne : ts ≠ [] := by intro e; subst e; simp at hj
    obtain ⟨k, z, x, l2, tm, ts', ln2, e1, hz, hz1, hp, hk1, hk2, ht0, htm, e2, hrest, hwhole⟩ := lex_first h hne
    have hlen : l.length - skipN l = z + l2.length := by
      have := congrArg List.length e1
      rw [List.length_drop, List.length_append] at this
      omega
    have hsl := skip_le l
    cases j with
    | zero =>
      have hkk : kk = skipN l := by
        subst e2
        simp only [List.getElem_cons_zero] at hpl
        omega
      subst hkk
      have hd0 : l.drop (skipN l) ≠ [] := by
        intro e
        have := congrArg List.length e
        rw [List.length_drop, List.length_nil] at this
        omega
      obtain ⟨a2, ln3, h2⟩ := gap_pass hm hmn l a' ln' n hd0
      rw [h2, e1]
      have := lexA_shift (x ++ l2) a2 ln3 (a + skipN l) (ln + cntL (l.take (skipN l))) n
      rw [hwhole] at this
      exact this
    | succ j =>
      have hpl' : ∃ h : j < ts'.length, ts'[j].place = a + kk := by
        subst e2
        simp only [List.getElem_cons_succ] at hpl
        exact ⟨by simpa using hj, hpl⟩
      obtain ⟨hj', hpj⟩ := hpl'
      have hin := place_in l2.length l2 _ _ _ _ (Nat.le_refl _) hrest ts'[j] (List.getElem_mem hj')
      obtain ⟨q, hq⟩ : ∃ q, kk = skipN l + z + q := ⟨kk - (skipN l + z), by omega⟩
      have hql : q < l2.length := by omega
      obtain ⟨a2, ln3, h2⟩ := skip_loc l kk (more ++ l.drop kk) a' ln' n (by omega) (by omega)
      have e3 : l.drop kk = l2.drop q := by
        rw [hq, Nat.add_assoc, ← List.drop_drop, e1, ← hz, List.drop_append]
        simp
      have e4 : (l.drop (skipN l)).take (kk - skipN l) = x ++ l2.take q := by
        rw [e1, hq, show skipN l + z + q - skipN l = z + q by omega, ← hz, List.take_append]
        simp
        exact List.take_of_length_le (by omega)
      rw [h2, e4, e3, List.append_assoc]
      clear h2
      have hx : ∃ c x', x = c :: x' := by
        cases x with
        | nil => simp at hz; omega
        | cons c x' => exact ⟨c, x', rfl⟩
      obtain ⟨c, x', rfl⟩ := hx
      have hnice : Nice l2 (l2.take q ++ (more ++ l2.drop q)) := by
        cases q with
        | zero =>
          refine nice_blank (.inl ?_)
          cases more with
          | nil => exact absurd rfl hmn
          | cons b r => exact hm b (by simp)
        | succ q =>
          refine nice_same ?_
          cases l2 with
          | nil => simp at hql
          | cons b r => rfl
      have hp2 := tok_loc hnice (by rw [hz]; exact hp) hk1 hk2
      have htk : (c :: x' ++ (l2.take q ++ (more ++ l2.drop q))).take z = c :: x' := by rw [← hz]; exact List.take_left
      have hdk : (c :: x' ++ (l2.take q ++ (more ++ l2.drop q))).drop z = l2.take q ++ (more ++ l2.drop q) := by rw [← hz]; exact List.drop_left
      have htn := tell_nice hnice ht0
      have hI := ih l2 _ _ _ _ (by omega) hrest j q hj' (by rw [hpj, hq]; push_cast; omega) (a2 + z) (ln3 + cntL (c :: x'))
      have hfin := keys_tok (l := c :: x' ++ (l2.take q ++ (more ++ l2.drop q))) (by simp) (by rw [hz] at hp2; exact hp2) hk1 a2 ln3 n (by rw [htk, hdk, htn]; exact ht0) (by rw [htk, hdk]; exact hI.1)
      rw [htk, hdk, htn, hI.2, ← htm] at hfin
      rw [e2]
      exact hfin

/-- The text of tokens. -/
def joinT : List Tok → Byts8
  | [] => []
  | [t] => t.text
  | t :: u :: r => t.text ++ (if t.line < u.line then 10 else 32) :: joinT (u :: r)
theorem sep_bl (t u : Tok) : isBl (if t.line < u.line then 10 else 32) = true := by
  split <;> rfl
/-- Each token of a text is told alone. -/
def Alone (t : Tok) : Prop := ∃ (c : UInt8) (x : Byts8), t.text = c :: x ∧ t.kind ≠ -1 ∧ t.kind ≠ -2 ∧ pieceP (c :: x) = (t.kind, (c :: x).length) ∧ ∀ n, n < 2048 → tellP t.kind t.text [] n = (t.num, 0)
theorem tell_ahead {k : Int} {t y : Byts8} {n : Nat} (h : (tellP k t y n).2 = 0) : n ≠ 2048 ∧ ∀ m, m ≠ 2048 → tellP k t y m = tellP k t y n := by
  have h1 : ¬ (decide (k = -2) || spoilt k t y) = true := fun e => by
    unfold tellP at h
    rw [if_pos e] at h
    cases h
  have h2 : n ≠ 2048 := fun e => by
    unfold tellP at h
    rw [if_neg h1, if_pos e] at h
    cases h
  refine ⟨h2, fun m hm => ?_⟩
  unfold tellP
  rw [if_neg h1, if_neg h1, if_neg h2, if_neg hm]
theorem alone_all (d : Nat) : ∀ (l : Byts8) (a ln : Int) (n : Nat) (ts : List Tok), l.length ≤ d → n ≤ 2048 → lexA l a ln n = (ts, 0, 0) → (∀ t ∈ ts, Alone t) ∧ n + ts.length ≤ 2048 := by
  induction d with
  | zero =>
    intro l a ln n ts hd hn h
    have : l = [] := List.length_eq_zero_iff.1 (by omega)
    subst this
    rw [lexA_nil] at h
    cases h
    exact ⟨by simp, by simpa using hn⟩
  | succ d ih =>
    intro l a ln n ts hd hn h
    by_cases hne : ts = []
    · subst hne
      exact ⟨by simp, by simpa using hn⟩
    obtain ⟨k, z, x, l2, tm, ts', ln2, e1, hz, hz1, hp, hk1, hk2, ht0, htm, e2, hrest, _⟩ := lex_first h hne
    have hlen : l.length - skipN l = z + l2.length := by
      have := congrArg List.length e1
      rw [List.length_drop, List.length_append] at this
      omega
    have hta := tell_ahead ht0
    have hI := ih l2 _ _ _ _ (by omega) (by omega) hrest
    subst e2
    refine ⟨fun t ht => ?_, by simp only [List.length_cons]; omega⟩
    rcases List.mem_cons.1 ht with rfl | ht
    · cases x with
      | nil => simp at hz; omega
      | cons c x =>
        have hnice : Nice l2 [] := nice_blank (.inr rfl)
        refine ⟨c, x, rfl, hk1, hk2, ?_, fun m hm => ?_⟩
        · have := tok_loc hnice (by rw [hz]; exact hp) hk1 hk2
          rw [List.append_nil] at this
          exact this
        · have e := tell_nice hnice ht0
          simp only
          rw [(tell_ahead (by rw [e]; exact ht0)).2 m (by omega), e, htm]
          rw [← ht0]
    · exact hI.1 t ht
/-- A token alone. -/
theorem lex_alone {t : Tok} (h : Alone t) (hl : t.text.length ≤ 8192) : lexP t.text = ([⟨t.kind, t.text, t.num, 0, 0⟩], 0, 0) := by
  obtain ⟨c, x, e, h1, h2, hp, ht⟩ := h
  unfold lexP
  rw [if_neg (by omega)]
  have ht0 := ht 0 (by omega)
  rw [e] at ht0 ⊢
  have hz : (c :: x).take (c :: x).length = c :: x := List.take_length
  have hd : (c :: x).drop (c :: x).length = [] := List.drop_length
  rw [lexA_tok (by simp) hp h1 0 0 0 (by rw [hz, hd, ht0]), hz, hd, lexA_nil, ht0]
  rfl
/-- The text of tokens has these tokens. -/
theorem lex_join : ∀ (ts : List Tok) (a ln : Int) (n : Nat), (∀ t ∈ ts, Alone t) → n + ts.length ≤ 2048 → (lexA (joinT ts) a ln n).2.1 = 0 ∧ keys (lexA (joinT ts) a ln n).1 = keys ts
  | [], a, ln, n, _, _ => by
    rw [joinT, lexA_nil]
    exact ⟨rfl, rfl⟩
  | [t], a, ln, n, h, hn => by
    obtain ⟨c, x, e, h1, h2, hp, ht⟩ := h t (by simp)
    have hz : (c :: x).take (c :: x).length = c :: x := List.take_length
    have hd : (c :: x).drop (c :: x).length = [] := List.drop_length
    have ht0 := ht n (by simp only [List.length_cons, List.length_nil] at hn; omega)
    rw [joinT]
    rw [e] at ht0 ⊢
    have := keys_tok (l := c :: x) (by simp) hp h1 a ln n (by rw [hz, hd, ht0]) (by rw [hd, lexA_nil])
    rw [hz, hd, lexA_nil, ht0] at this
    refine ⟨this.1, this.2.trans ?_⟩
    simp [keys, key, e]
  | t :: u :: r, a, ln, n, h, hn => by
    obtain ⟨c, x, e, h1, h2, hp, ht⟩ := h t (by simp)
    obtain ⟨c2, x2, f, g1, g2, gp, gt⟩ := h u (by simp)
    simp only [List.length_cons] at hn
    have ht0 := ht n (by omega)
    rw [joinT, e]
    rw [e] at ht0
    have hnice : Nice [] ((if t.line < u.line then 10 else 32) :: joinT (u :: r)) := nice_blank (.inl (sep_bl t u))
    have hp2 := tok_loc hnice (by rw [List.append_nil]; exact hp) h1 h2
    have htn := tell_nice (k := t.kind) (t := c :: x) (n := n) hnice (by rw [ht0])
    have htk : (c :: x ++ (if t.line < u.line then 10 else 32) :: joinT (u :: r)).take (c :: x).length = c :: x := List.take_left
    have hdk : (c :: x ++ (if t.line < u.line then 10 else 32) :: joinT (u :: r)).drop (c :: x).length = (if t.line < u.line then 10 else 32) :: joinT (u :: r) := List.drop_left
    have hb : begN isBl (joinT (u :: r)) = false := by
      have hu : begN isBl (c2 :: x2) = false := tok_beg gp g1
      cases r with
      | nil => rw [joinT, f]; exact hu
      | cons v r => rw [joinT, f]; exact hu
    obtain ⟨a2, ln2, hps⟩ := blanks_pass (more := [if t.line < u.line then 10 else 32]) (l := joinT (u :: r)) (fun b hb => by simp at hb; subst hb; exact sep_bl t u) (by simp) hb (a + (c :: x).length) (ln + cntL (c :: x)) (n + 1)
    have hI := lex_join (u :: r) a2 ln2 (n + 1) (fun v hv => h v (by simp [List.mem_cons.1 hv])) (by simp only [List.length_cons]; omega)
    have hps' : lexA ((if t.line < u.line then 10 else 32) :: joinT (u :: r)) (a + (c :: x).length) (ln + cntL (c :: x)) (n + 1) = lexA (joinT (u :: r)) a2 ln2 (n + 1) := hps
    have := keys_tok (by simp) hp2 h1 a ln n (by rw [htk, hdk, htn, ht0]) (by rw [htk, hdk, hps']; exact hI.1)
    rw [htk, hdk, htn, ht0, hps', hI.2] at this
    refine ⟨this.1, this.2.trans ?_⟩
    simp [keys, key, e]
end Go.Proofs.YtjfhhhabcbkahaaGreat

/-
  Which tokens may be: wrong, Check.
-/
namespace Go.Proofs.YtjfhhhabcbkahaaGreat
open Go.RowKit
set_option linter.unusedSimpArgs false
set_option linter.unusedVariables false

/-- Whether a token is not what its text says. -/
def wrongP (t : Tok) : Bool := !sameK (lexP t.text).1 [t]
theorem TR.one (w : World) (t : Tok) : TR (w.alloc (.cells #[.int .i64 t.kind, .string ⟨t.text.toArray⟩, .int .i32 t.num, .int .i64 t.place, .int .i64 t.line] 44)) (.slice (some ⟨w.heap.size, 0, none⟩) 1 1) [t] := by
  have hB := Blk.new w #[.int .i64 t.kind, .string ⟨t.text.toArray⟩, .int .i32 t.num, .int .i64 t.place, .int .i64 t.line] 44
  refine ⟨_, 1, rfl, (fun h => by cases h), Nat.le_refl _, by unfold maxLen; omega, fun i hi => ⟨_, 0, rfl, ?_⟩⟩
  have : i = 0 := by simp at hi; omega
  subst this
  exact ⟨hB.cell rfl, hB.cell rfl, hB.cell rfl, hB.cell rfl, hB.cell rfl⟩
theorem lexT_any (l : Byts8) (w : World) (m : Int) (hm : w.cell? ⟨0, 0, none⟩ = some (.int .i64 m)) : Calls Tryz.prog 9 #[.string ⟨l.toArray⟩] w (LexQ w (lexP l)) := lex_any ⟨l.toArray⟩ w m hm
set_option maxHeartbeats 1000000 in
theorem wrong_any (t : Tok) (w : World) (m : Int) (hm : w.cell? ⟨0, 0, none⟩ = some (.int .i64 m)) :
    Calls Tryz.prog 38 #[.agg #[.int .i64 t.kind, .string ⟨t.text.toArray⟩, .int .i32 t.num, .int .i64 t.place, .int .i64 t.line]] w fun e w' => e = .returned (.bool (wrongP t)) ∧ Ext w w' := by
  have HB := hide (Blk.new w #[.int .i64 t.kind, .string ⟨t.text.toArray⟩, .int .i32 t.num, .int .i64 t.place, .int .i64 t.line] 44)
  have HM := hide (keepM hm ((Ext.refl w).alloc (.cells #[.int .i64 t.kind, .string ⟨t.text.toArray⟩, .int .i32 t.num, .int .i64 t.place, .int .i64 t.line] 44)))
  have HW : Hid (Ext w (w.alloc (.cells #[.int .i64 t.kind, .string ⟨t.text.toArray⟩, .int .i32 t.num, .int .i64 t.place, .int .i64 t.line] 44))) := (Ext.refl w).alloc _
  have HLX := lexT_any t.text _ m (unhide HM)
  have hwp : wrongP t = !sameK (lexP t.text).1 [t] := rfl
  rw [hwp]
  generalize lexP t.text = R at HLX ⊢
  obtain ⟨L, r1, r2⟩ := R
  have HLY := hide HLX
  clear HLX hwp
  simp only
  go_enter Tryz.func38, Tryz.ntmps38
  go_wp2_with fail
  refine (unhide HLY).mono ?_
  rintro e w1 ⟨ao, cap, rfl, hO, hx⟩
  simp only at hO ⊢
  have hB1 := (unhide HB).ext hx
  have hc : ∀ (o : Obj) j u, w1.cell? ⟨w.heap.size, j, none⟩ = some u → (w1.alloc o).cell? ⟨w.heap.size, j, none⟩ = some u := fun o j u hu => by
    rw [((Ext.refl w1).alloc o).cell (p := ⟨w.heap.size, j, none⟩) (World.block_lt_of_cell? w1 _ hu)]
    exact hu
  have c0 := fun o => hc o _ _ (hB1.cell (i := 0) (v := .int .i64 t.kind) rfl)
  have c1 := fun o => hc o _ _ (hB1.cell (i := 1) (v := .string ⟨t.text.toArray⟩) rfl)
  have c2 := fun o => hc o _ _ (hB1.cell (i := 2) (v := .int .i32 t.num) rfl)
  have c3 := fun o => hc o _ _ (hB1.cell (i := 3) (v := .int .i64 t.place) rfl)
  have c4 := fun o => hc o _ _ (hB1.cell (i := 4) (v := .int .i64 t.line) rfl)
  have hx2 := hx.alloc (.cells #[.int .i64 r1, .int .i64 r2] 31)
  have HT2 := hide (((TO.tr hO).ext ((Ext.refl w1).alloc (.cells #[.int .i64 r1, .int .i64 r2] 31))).ext ((Ext.refl _).alloc (.cells #[.int .i64 t.kind, .string ⟨t.text.toArray⟩, .int .i32 t.num, .int .i64 t.place, .int .i64 t.line] 44)))
  have HT1 := hide (TR.one (w1.alloc (.cells #[.int .i64 r1, .int .i64 r2] 31)) t)
  rw [World.size_alloc] at HT1
  have HX2 := hide (((unhide HW).trans hx2).alloc (.cells #[.int .i64 t.kind, .string ⟨t.text.toArray⟩, .int .i32 t.num, .int .i64 t.place, .int .i64 t.line] 44))
  clear hO hx hx2 HB HM HW hm hB1 hc HLY
  go_wp2_with fail
  refine (same_any L [t] _ _ cap 1 _ (unhide HT2) (unhide HT1)).mono ?_
  rintro e w3 ⟨rfl, hx3⟩
  have HX3 := hide ((unhide HX2).trans hx3)
  clear hx3
  go_wp2
  go_ret
  exact ⟨rfl, unhide HX3⟩

theorem eWrong : ∀ args w, (callFunc 38 args).run Tryz.prog w = .ok (.enter 38 args) w := enters_of Tryz.func38 (by kernel_rfl) rfl
set_option maxHeartbeats 1000000 in
theorem indexFunc_any (A : List Tok) (ao : Option Addr) (ca : Nat) (w : World) (m : Int) (hm : w.cell? ⟨0, 0, none⟩ = some (.int .i64 m)) (hA : TR w (.slice ao A.length ca) A) (eg : ∀ args w, (callFunc 38 args).run Tryz.prog w = .ok (.enter 38 args) w) :
    Calls Tryz.prog 39 #[.slice ao A.length ca, .func (.func 38) #[] #[]] w fun e w' => (∃ k : Int, e = .returned (.int .i64 k) ∧ decide (0 ≤ k) = A.any wrongP) ∧ Ext w w' := by
  have HA := hide hA
  have HM := hide hm
  have hbig : A.length ≤ 9223372036854775807 := by
    obtain ⟨_, _, _, _, h1, h2, _⟩ := hA
    unfold maxLen at h2
    omega
  clear hA hm
  go_enter Tryz.func39, Tryz.ntmps39
  go_wp2
  go_loopw [8] (fun iv wr => ∃ k : Nat, k ≤ A.length ∧ iv = .int .i64 k ∧ (A.take k).any wrongP = false ∧ Ext w wr) (fun iv _ => A.length - (intOf iv).toNat)
  case atStart => exact ⟨0, by omega, rfl, by simp, Ext.refl _⟩
  case round =>
    obtain ⟨k, hk, rfl, hno, hx⟩ := hrel
    have HN := hide hno
    have X := hide hx
    clear hno hx
    by_cases hlt : k < A.length
    · obtain ⟨b1, o1, rfl, h1⟩ := ((unhide HA).ext (unhide X)).at k hlt
      have c0 := h1.kind; have c1 := h1.text; have c2 := h1.num; have c3 := h1.place; have c4 := h1.line
      clear h1
      have HQ := hide (wrong_any A[k] wr m (keepM (unhide HM) (unhide X)))
      have HS : Hid ((A.take (k + 1)).any wrongP = wrongP A[k]) := by
        show (A.take (k + 1)).any wrongP = wrongP A[k]
        rw [List.take_succ_eq_append_getElem hlt, List.any_append, unhide HN]
        simp
      have HS2 : Hid (wrongP A[k] = true → A.any wrongP = true) := fun h => List.any_eq_true.2 ⟨A[k], List.getElem_mem hlt, h⟩
      generalize wrongP A[k] = wp at *
      generalize A[k] = x at *
      cases wp with
      | true =>
        go_wp2_with fail
        refine (unhide HQ).mono ?_
        rintro e w2 ⟨rfl, hx2⟩
        have X2 := hide ((unhide X).trans hx2)
        clear hx2
        go_wp2
        go_ret
        exact ⟨⟨k, rfl, by rw [unhide HS2 (by trivial)]; simp⟩, unhide X2⟩
      | false =>
        go_wp2_with fail
        refine (unhide HQ).mono ?_
        rintro e w2 ⟨rfl, hx2⟩
        have X2 := hide ((unhide X).trans hx2)
        clear hx2
        go_wp2
        refine ⟨⟨k + 1, by omega, rfl, unhide HS, unhide X2⟩, ?_⟩
        simp [intOf]
        omega
    · have hke : k = A.length := by omega
      have hs : A.any wrongP = false := by
        have := unhide HN
        rw [hke, List.take_length] at this
        exact this
      go_wp2
      go_ret
      exact ⟨⟨-1, rfl, by rw [hs]; rfl⟩, unhide X⟩
/-- What Check answers. -/
def checkE (A : List Tok) : Int := if 2048 < A.length ∨ A.any wrongP = true then 2 else 0
theorem tokContains_any (A : List Tok) (ao : Option Addr) (ca : Nat) (w : World) (m : Int) (hm : w.cell? ⟨0, 0, none⟩ = some (.int .i64 m)) (hA : TR w (.slice ao A.length ca) A) :
    Calls Tryz.prog 17 #[.slice ao A.length ca, .func (.func 38) #[] #[]] w fun e w' => e = .returned (.bool (A.any wrongP)) ∧ Ext w w' := by
  have HQ := hide (indexFunc_any A ao ca w m hm hA eWrong)
  clear hm hA
  go_enter Tryz.func17, Tryz.ntmps17
  go_wp2_with fail
  refine (unhide HQ).mono ?_
  rintro e w2 ⟨⟨k, rfl, hk⟩, hx2⟩
  have X := hide hx2
  have HK := hide hk
  clear hk hx2 HQ
  go_wp2
  go_ret
  exact ⟨by rw [← unhide HK]; rfl, unhide X⟩
theorem check_any (A : List Tok) (ao : Option Addr) (ca : Nat) (w : World) (m : Int) (hm : w.cell? ⟨0, 0, none⟩ = some (.int .i64 m)) (hA : TR w (.slice ao A.length ca) A) :
    Calls Tryz.prog 16 #[.slice ao A.length ca] w fun e w' => e = .returned (.int .i64 (checkE A)) ∧ Ext w w' := by
  have HQ := hide (tokContains_any A ao ca w m hm hA)
  clear hm hA
  unfold checkE
  by_cases hbig : 2048 < A.length
  · have d : decide ((2048 : Int) < (A.length : Int)) = true := by simp; omega
    rw [if_pos (.inl hbig)]
    go_enter Tryz.func16, Tryz.ntmps16
    go_wp2
    go_ret
    exact ⟨rfl, Ext.refl _⟩
  · have d : decide ((2048 : Int) < (A.length : Int)) = false := by simp; omega
    generalize A.any wrongP = b at *
    cases b with
    | true =>
      rw [if_pos (.inr rfl)]
      go_enter Tryz.func16, Tryz.ntmps16
      go_wp2_with fail
      refine (unhide HQ).mono ?_
      rintro e w2 ⟨rfl, hx2⟩
      go_wp2
      go_ret
      exact ⟨rfl, hx2⟩
    | false =>
      rw [if_neg (by simp; omega)]
      go_enter Tryz.func16, Tryz.ntmps16
      go_wp2_with fail
      refine (unhide HQ).mono ?_
      rintro e w2 ⟨rfl, hx2⟩
      go_wp2
      go_ret
      exact ⟨rfl, hx2⟩
end Go.Proofs.YtjfhhhabcbkahaaGreat

/-
  Tokens that stand nowhere.
-/
namespace Go.Proofs.YtjfhhhabcbkahaaGreat
open Go.RowKit
set_option linter.unusedSimpArgs false
set_option linter.unusedVariables false

/-- Whether a token stands ahead of every text's begin. -/
def nowhereP (t : Tok) : Bool := decide (t.place < 0)
set_option maxHeartbeats 1000000 in
theorem nowhere_any (t : Tok) (w : World) :
    Calls Tryz.prog 18 #[.agg #[.int .i64 t.kind, .string ⟨t.text.toArray⟩, .int .i32 t.num, .int .i64 t.place, .int .i64 t.line]] w fun e w' => e = .returned (.bool (nowhereP t)) ∧ Ext w w' := by
  have HB := (Blk.new w #[.int .i64 t.kind, .string ⟨t.text.toArray⟩, .int .i32 t.num, .int .i64 t.place, .int .i64 t.line] 44)
  have c3 := HB.cell (i := 3) (v := .int .i64 t.place) rfl
  have hx := (Ext.refl w).alloc (.cells #[.int .i64 t.kind, .string ⟨t.text.toArray⟩, .int .i32 t.num, .int .i64 t.place, .int .i64 t.line] 44)
  go_enter Tryz.func18, Tryz.ntmps18
  go_wp2
  go_ret
  first
  | exact ⟨rfl, hx⟩
  | exact ⟨rfl, Ext.refl _⟩
theorem eNowhere : ∀ args w, (callFunc 18 args).run Tryz.prog w = .ok (.enter 18 args) w := enters_of Tryz.func18 (by kernel_rfl) rfl
set_option maxHeartbeats 1000000 in
theorem indexNo_any (A : List Tok) (ao : Option Addr) (ca : Nat) (w : World) (hA : TR w (.slice ao A.length ca) A) (eg : ∀ args w, (callFunc 18 args).run Tryz.prog w = .ok (.enter 18 args) w) :
    Calls Tryz.prog 39 #[.slice ao A.length ca, .func (.func 18) #[] #[]] w fun e w' => (∃ k : Int, e = .returned (.int .i64 k) ∧ decide (0 ≤ k) = A.any nowhereP) ∧ Ext w w' := by
  have HA := hide hA
  have hbig : A.length ≤ 9223372036854775807 := by
    obtain ⟨_, _, _, _, h1, h2, _⟩ := hA
    unfold maxLen at h2
    omega
  clear hA
  go_enter Tryz.func39, Tryz.ntmps39
  go_wp2
  go_loopw [8] (fun iv wr => ∃ k : Nat, k ≤ A.length ∧ iv = .int .i64 k ∧ (A.take k).any nowhereP = false ∧ Ext w wr) (fun iv _ => A.length - (intOf iv).toNat)
  case atStart => exact ⟨0, by omega, rfl, by simp, Ext.refl _⟩
  case round =>
    obtain ⟨k, hk, rfl, hno, hx⟩ := hrel
    have HN := hide hno
    have X := hide hx
    clear hno hx
    by_cases hlt : k < A.length
    · obtain ⟨b1, o1, rfl, h1⟩ := ((unhide HA).ext (unhide X)).at k hlt
      have c0 := h1.kind; have c1 := h1.text; have c2 := h1.num; have c3 := h1.place; have c4 := h1.line
      clear h1
      have HQ := hide (nowhere_any A[k] wr)
      have HS : Hid ((A.take (k + 1)).any nowhereP = nowhereP A[k]) := by
        show (A.take (k + 1)).any nowhereP = nowhereP A[k]
        rw [List.take_succ_eq_append_getElem hlt, List.any_append, unhide HN]
        simp
      have HS2 : Hid (nowhereP A[k] = true → A.any nowhereP = true) := fun h => List.any_eq_true.2 ⟨A[k], List.getElem_mem hlt, h⟩
      generalize nowhereP A[k] = wp at *
      generalize A[k] = x at *
      cases wp with
      | true =>
        go_wp2_with fail
        refine (unhide HQ).mono ?_
        rintro e w2 ⟨rfl, hx2⟩
        have X2 := hide ((unhide X).trans hx2)
        clear hx2
        go_wp2
        go_ret
        exact ⟨⟨k, rfl, by rw [unhide HS2 (by trivial)]; simp⟩, unhide X2⟩
      | false =>
        go_wp2_with fail
        refine (unhide HQ).mono ?_
        rintro e w2 ⟨rfl, hx2⟩
        have X2 := hide ((unhide X).trans hx2)
        clear hx2
        go_wp2
        refine ⟨⟨k + 1, by omega, rfl, unhide HS, unhide X2⟩, ?_⟩
        simp [intOf]
        omega
    · have hke : k = A.length := by omega
      have hs : A.any nowhereP = false := by
        have := unhide HN
        rw [hke, List.take_length] at this
        exact this
      go_wp2
      go_ret
      exact ⟨⟨-1, rfl, by rw [hs]; rfl⟩, unhide X⟩
theorem containsNo_any (A : List Tok) (ao : Option Addr) (ca : Nat) (w : World) (hA : TR w (.slice ao A.length ca) A) :
    Calls Tryz.prog 17 #[.slice ao A.length ca, .func (.func 18) #[] #[]] w fun e w' => e = .returned (.bool (A.any nowhereP)) ∧ Ext w w' := by
  have HQ := hide (indexNo_any A ao ca w hA eNowhere)
  clear hA
  go_enter Tryz.func17, Tryz.ntmps17
  go_wp2_with fail
  refine (unhide HQ).mono ?_
  rintro e w2 ⟨⟨k, rfl, hk⟩, hx2⟩
  have X := hide hx2
  have HK := hide hk
  clear hk hx2 HQ
  go_wp2
  go_ret
  exact ⟨by rw [← unhide HK]; rfl, unhide X⟩
end Go.Proofs.YtjfhhhabcbkahaaGreat

/-
  Parse.
-/
namespace Go.Proofs.YtjfhhhabcbkahaaGreat
open Go.RowKit
set_option linter.unusedVariables false
set_option linter.unusedSimpArgs false

theorem tell_i32 (k : Int) (t b : Byts8) (n : Nat) : I32 (tellP k t b n).1 := by
  have z : I32 0 := by unfold I32; omega
  unfold tellP
  split
  · exact z
  split
  · exact z
  unfold measP
  split
  · split <;> exact z
  split
  · split
    · exact rawI_i32 _
    · exact z
  split
  · unfold parseI
    split
    · exact z
    split
    · exact rawI_i32 _
    · exact z
  · exact z
theorem lexR_i32 : ∀ (f : Nat) (l : Byts8) (a ln : Int) (n : Nat), ∀ t ∈ (lexR f l a ln n).1, I32 t.num
  | 0, l, a, ln, n, t, h => by cases h
  | f + 1, l, a, ln, n, t, h => by
    rw [lexR] at h
    split at h
    · cases h
    split at h
    · exact lexR_i32 f _ _ _ _ t h
    split at h
    · cases h
    split at h
    · exact lexR_i32 f _ _ _ _ t h
    · rcases List.mem_cons.1 h with rfl | h
      · exact tell_i32 _ _ _ _
      · exact lexR_i32 f _ _ _ _ t h
theorem right_tok0 {t : Tok} (h : wrongP t = false) : I32 t.num ∧ t.text ≠ [] := by
  unfold wrongP sameK at h
  have hk : keys (lexP t.text).1 = keys [t] := by simpa using h
  have hl := congrArg List.length hk
  rw [keys_len, keys_len] at hl
  obtain ⟨u, hu⟩ := List.length_eq_one_iff.1 hl
  have hm : u ∈ (lexP t.text).1 := by rw [hu]; simp
  rw [hu] at hk
  have he : key u = key t := by simpa [keys] using hk
  refine ⟨?_, fun h0 => ?_⟩
  · have h1 : u.num = t.num := by
      unfold key at he
      simp only [Prod.mk.injEq] at he
      first
      | exact he.2.2
      | exact he.2.1
    rw [← h1]
    unfold lexP at hm
    split at hm
    · cases hm
    · exact lexR_i32 _ _ _ _ _ u hm
  · rw [h0] at hm
    cases hm
theorem tokOk_of {L : List Tok} (h : L.any wrongP = false) : TokOk L := fun k => by
  by_cases hk : k < L.length
  · have ht : tk L k = L[k] := by unfold tk; simp [hk]
    have := right_tok0 (t := L[k]) (by
      have h2 := List.any_eq_false.1 h L[k] (List.getElem_mem hk)
      simpa using h2)
    rw [ht]
    exact ⟨this.1, fun _ => this.2⟩
  · have ht : tk L k = noTok := by unfold tk; simp [Nat.le_of_not_lt hk]
    refine ⟨by rw [ht]; unfold I32 noTok; decide, fun e => ?_⟩
    unfold isNm at e
    rw [ht] at e
    simp [noTok] at e
theorem shad_le {L : List Tok} (hk : TokOk L) : (shadP L).1 ≤ L.length := by
  have hv : ∀ r k, k ≤ L.length → Adv L k (goP L (fuelP L) r k) := fun r k hk2 => adv_go hk _ r k hk2
  have hl : ∀ (n : Nat) (acc : List (List Nd)) (i : Nat), i ≤ L.length → Lea L i (shadL L (goP L (fuelP L)) n acc i) := by
    intro n
    induction n with
    | zero => intro acc i hi; exact ⟨Nat.le_refl _, hi⟩
    | succ n ih =>
      intro acc i hi
      rw [shadL]
      split
      · refine lea_bnd ?_ (fun j x _ hj => ih _ _ hj)
        split
        · exact (adv_func hv hi).1
        · exact (adv_decl hv hi (by decide)).1
      · exact lea_here _ hi
  have hl2 := lea_bnd (hl (L.length + 1) [] 0 (Nat.zero_le _)) (f := fun j l => (j, some (mkN 1 [] [] 0 0 l))) (fun j l _ hj => lea_here _ hj)
  exact hl2.2
/-- What Parse answers. -/
def parseP (L : List Tok) : List Nd × Int × Int := if checkE L ≠ 0 ∨ L.any nowhereP = true then ([], 2, 0) else (absN 0 (treeP L).1, (treeP L).2)
def ParQ (w : World) (R : List Nd × Int × Int) (e : Ending) (w' : World) : Prop := Ext w w' ∧ ∃ ao n cap ns base, e = .returned (.tuple #[.agg #[.slice ao n cap], .agg #[.int .i64 R.2.1, .int .i64 R.2.2]]) ∧ w.heap.size ≤ base ∧ NR w' base (.slice ao n cap) ns ∧ ns.map Prod.snd = R.1
theorem ParQ.non {w w' : World} {R : List Nd × Int × Int} {a b : Int} (h : R = ([], a, b)) (hx : Ext w w') : ParQ w R (.returned (.tuple #[.agg #[.slice none 0 0], .agg #[.int .i64 a, .int .i64 b]])) w' := by
  subst h
  exact ⟨hx, none, 0, 0, [], w.heap.size, rfl, Nat.le_refl _, NR.nil _ _, rfl⟩
theorem parse_fin {w w1 : World} {r0 r1 : Nat} {v a b : Value} {x0 y0 y1 : Value} (h0 : Blk w1 r0 #[x0] 24) (h1 : Blk w1 r1 #[y0, y1] 31) (hne : r0 < r1) :
    (((w1.setCell ⟨r0, 0, none⟩ v).setCell ⟨r1, 0, none⟩ a).setCell ⟨r1, 1, none⟩ b).cell? ⟨r0, 0, none⟩ = some v ∧ (((w1.setCell ⟨r0, 0, none⟩ v).setCell ⟨r1, 0, none⟩ a).setCell ⟨r1, 1, none⟩ b).cell? ⟨r1, 0, none⟩ = some a ∧ (((w1.setCell ⟨r0, 0, none⟩ v).setCell ⟨r1, 0, none⟩ a).setCell ⟨r1, 1, none⟩ b).cell? ⟨r1, 1, none⟩ = some b :=
  ⟨(((h0.set 0 v).other 0 a (by omega)).other 1 b (by omega)).cell (i := 0) rfl, (((h1.other 0 v (by omega)).set 0 a).set 1 b).cell (i := 0) rfl, (((h1.other 0 v (by omega)).set 0 a).set 1 b).cell (i := 1) rfl⟩
theorem NR.fin {w1 : World} {r0 r1 base : Nat} {u v a b : Value} {ns : List Nt} (h : NR w1 base u ns) (h0 : r0 < base) (h1 : r1 < base) : NR (((w1.setCell ⟨r0, 0, none⟩ v).setCell ⟨r1, 0, none⟩ a).setCell ⟨r1, 1, none⟩ b) base u ns :=
  ((h.out (T := fun k => k = r0) (Out.of_grown (grownBy_set _ r0 0 _) (fun k e => by cases e; rfl)) (fun k e => by omega)).out (T := fun k => k = r1) (Out.of_grown (grownBy_set _ r1 0 _) (fun k e => by cases e; rfl)) (fun k e => by omega)).out (T := fun k => k = r1) (Out.of_grown (grownBy_set _ r1 1 _) (fun k e => by cases e; rfl)) (fun k e => by omega)
set_option maxHeartbeats 4000000 in
set_option maxRecDepth 100000 in
theorem Parse_any (L : List Tok) (ta : Option Addr) (tc : Nat) (w : World) (m : Int) (hm : w.cell? ⟨0, 0, none⟩ = some (.int .i64 m)) (hT : TR w (.slice ta L.length tc) L) :
    Calls Tryz.prog 10 #[.slice ta L.length tc] w (ParQ w (parseP L)) := by
  obtain ⟨w1, h1⟩ : ∃ y, y = w.alloc (.cells #[.slice none 0 0] 24) := ⟨_, rfl⟩
  obtain ⟨w2, h2⟩ : ∃ y, y = w1.alloc (.cells #[.int .i64 0, .int .i64 0] 31) := ⟨_, rfl⟩
  have z1 : w1.heap.size = w.heap.size + 1 := by rw [h1]; simp
  have z2 : w2.heap.size = w.heap.size + 1 + 1 := by rw [h2]; simp [z1]
  have x1 : Ext w w1 := by rw [h1]; exact (Ext.refl _).alloc _
  have x2 : Ext w1 w2 := by rw [h2]; exact (Ext.refl _).alloc _
  have B0 : Blk w2 w.heap.size #[.slice none 0 0] 24 := (show Blk w1 w.heap.size _ _ by rw [h1]; exact Blk.new _ _ _).ext x2
  have B1 : Blk w2 (w.heap.size + 1) #[.int .i64 0, .int .i64 0] 31 := by rw [h2]; exact BlkAt z1
  have X2 : Ext w w2 := x1.trans x2
  have HE : Hid (w2 = (w.alloc (.cells #[.slice none 0 0] 24)).alloc (.cells #[.int .i64 0, .int .i64 0] 31)) := by
    show w2 = _
    rw [h2, h1]
  obtain ⟨r0, hr0⟩ : ∃ y, y = w.heap.size := ⟨_, rfl⟩
  obtain ⟨r1, hr1⟩ : ∃ y, y = w.heap.size + 1 := ⟨_, rfl⟩
  have o0 : w.heap.size ≤ r0 := by omega
  have o1 : r0 < r1 := by omega
  have o2 : r1 < w2.heap.size := by omega
  rw [← hr1] at B1
  rw [← hr0] at B0
  have HB0 := hide B0; have HB1 := hide B1; have HX2 := hide X2; have HR0 := hide hr0; have HR1 := hide hr1
  have HT := hide (hT.ext X2)
  have HC := hide (check_any L ta tc w2 m (keepM hm X2) (hT.ext X2))
  have HPP : Hid (parseP L = if checkE L ≠ 0 ∨ L.any nowhereP = true then ([], 2, 0) else (absN 0 (treeP L).1, (treeP L).2)) := rfl
  clear B0 B1 X2 x1 x2 z1 z2 h1 h2 hr0 hr1 hT hm
  obtain ⟨R, hR⟩ : ∃ R, R = parseP L := ⟨_, rfl⟩
  rw [← hR] at HPP ⊢
  clear hR
  go_enter Tryz.func10, Tryz.ntmps10
  go_wp2_with fail
  rw [← unhide HE, ← unhide HR1, ← unhide HR0]
  by_cases hc : checkE L = 0
  · rw [hc] at HC
    refine (unhide HC).mono ?_
    rintro e w3 ⟨rfl, hx3⟩
    have HX3 := hide ((unhide HX2).trans hx3)
    have HB03 := hide ((unhide HB0).ext hx3)
    have HB13 := hide ((unhide HB1).ext hx3)
    have o3 := Nat.lt_of_lt_of_le o2 hx3.size
    have HT3 := hide ((unhide HT).ext hx3)
    have HCN := hide (containsNo_any L ta tc w3 (unhide HT3))
    have HCK := hide hc
    clear hx3 hc HC HB0 HB1 HX2 HT
    by_cases hn : L.any nowhereP = true
    · rw [hn] at HCN
      have HR : Hid (R = ([], 2, 0)) := by
        show R = _
        rw [unhide HPP, if_pos (.inr hn)]
      clear hn HPP
      go_wp2_with fail
      refine (unhide HCN).mono ?_
      rintro e w4 ⟨rfl, hx4⟩
      have HB04 := hide ((unhide HB03).ext hx4)
      have HB14 := hide ((unhide HB13).ext hx4)
      have HX4 := hide ((unhide HX3).trans hx4)
      have q0 := (unhide HB04).cell (i := 0) (v := .slice none 0 0) rfl
      have q1 := (unhide HB14).cell (i := 0) (v := .int .i64 0) rfl
      have q2 := (unhide HB14).cell (i := 1) (v := .int .i64 0) rfl
      have ga := fun j => (unhide HB04).free j
      have gb := fun j => (unhide HB14).free j
      clear hx4
      go_wp2
      have hf := parse_fin (v := .slice none 0 0) (a := .int .i64 2) (b := .int .i64 0) (w := w) (unhide HB04) (unhide HB14) o1
      obtain ⟨s0, s1, s2⟩ := hf
      exact bodyPost_ret (v := .tuple #[.agg #[.slice none 0 0], .agg #[.int .i64 2, .int .i64 0]]) (by simp [results, Tryz.results10, go_sem, s0, s1, s2]) rfl (ParQ.non (unhide HR) (setX (setX (setX (unhide HX4) o0) (by omega)) (by omega)))
    · have hn2 : L.any nowhereP = false := by simpa using hn
      rw [hn2] at HCN
      have hck := unhide HCK
      have hsm : L.length ≤ 2048 ∧ L.any wrongP = false := by
        unfold checkE at hck
        split at hck
        · cases hck
        · rename_i h
          simp only [not_or] at h
          exact ⟨by omega, by simpa using h.2⟩
      have HR : Hid (R = (absN 0 (treeP L).1, (treeP L).2)) := by
        show R = _
        rw [unhide HPP, if_neg]
        intro h
        rcases h with h | h
        · exact h hck
        · exact hn h
      have hok := tokOk_of hsm.2
      have HSL := hide (shad_le hok)
      have HOK := hide hok
      have hL : L.length ≤ 2048 := hsm.1
      clear hn hn2 hck hsm hok HPP
      go_wp2_with fail
      refine (unhide HCN).mono ?_
      rintro e w4 ⟨rfl, hx4⟩
      have HB04 := hide ((unhide HB03).ext hx4)
      have HB14 := hide ((unhide HB13).ext hx4)
      have HX4 := hide ((unhide HX3).trans hx4)
      have HRD := hide (readP_any L ta tc w4 ((unhide HT3).ext hx4) (unhide HOK) (by omega))
      have o4 := Nat.lt_of_lt_of_le o3 hx4.size
      clear hx4 HB03 HB13 HX3 HT3 HCN
      go_wp2_with fail
      refine (unhide HRD).mono ?_
      intro e w5 hq
      obtain ⟨⟨j, o⟩, hS⟩ : ∃ S, shadP L = S := ⟨_, rfl⟩
      have hsl := unhide HSL
      rw [hS] at hsl
      unfold ReadQ at hq
      rw [hS] at hq
      obtain ⟨hx5, hq⟩ := hq
      have HB05 := hide ((unhide HB04).ext hx5)
      have HB15 := hide ((unhide HB14).ext hx5)
      have HX5 := hide ((unhide HX4).trans hx5)
      have o5 := Nat.lt_of_lt_of_le o4 hx5.size
      have HSZ := hide hx5.size
      clear hx5 HB04 HB14 HX4 HRD
      cases o with
      | none =>
        have e := hq
        simp only at e
        subst e
        have HR2 : Hid (R = ([], 220, hereP L j)) := by
          show R = _
          rw [unhide HR]
          unfold treeP
          rw [hS]
          rfl
        obtain ⟨w6, h6⟩ : ∃ y, y = w5.alloc (.cells #[.int .i64 220, .int .i64 (hereP L j)] 31) := ⟨_, rfl⟩
        obtain ⟨sp, hsp⟩ : ∃ y, y = w5.heap.size := ⟨_, rfl⟩
        have hxa : Ext w5 w6 := by rw [h6]; exact (Ext.refl w5).alloc _
        have hS6 : Blk w6 sp #[.int .i64 220, .int .i64 (hereP L j)] 31 := by rw [h6, hsp]; exact Blk.new _ _ _
        have HB06 := hide ((unhide HB05).ext hxa)
        have HB16 := hide ((unhide HB15).ext hxa)
        have HX6 := hide ((unhide HX5).trans hxa)
        have HE6 := hide h6
        have HSP := hide hsp
        have c0 := hS6.cell (i := 0) (v := .int .i64 220) rfl
        have c1 := hS6.cell (i := 1) (v := .int .i64 (hereP L j)) rfl
        have q0 := (unhide HB06).cell (i := 0) (v := .slice none 0 0) rfl
        have q1 := (unhide HB16).cell (i := 0) (v := .int .i64 0) rfl
        have q2 := (unhide HB16).cell (i := 1) (v := .int .i64 0) rfl
        have ga := fun j => (unhide HB06).free j
        have gb := fun j => (unhide HB16).free j
        have e0 : ¬ sp = r0 := by omega
        have e1 : ¬ sp = r1 := by omega
        have e2 : ¬ r1 = r0 := by omega
        have e3 : ¬ r0 = r1 := by omega
        clear hS hq HR h6 hsp hxa hS6
        go_wp2
        rw [← unhide HE6, ← unhide HSP]
        go_region
        all_goals go_wp2
        have hf := parse_fin (v := .slice none 0 0) (a := .int .i64 220) (b := .int .i64 (hereP L j)) (w := w) (unhide HB06) (unhide HB16) o1
        obtain ⟨s0, s1, s2⟩ := hf
        have hxe := (setX (i := 1) (v := .int .i64 (hereP L j)) (setX (i := 0) (v := .int .i64 220) (setX (i := 0) (v := .slice none 0 0) (unhide HX6) o0) (show w.heap.size ≤ r1 by omega)) (show w.heap.size ≤ r1 by omega)).drew
        exact bodyPost_ret (v := .tuple #[.agg #[.slice none 0 0], .agg #[.int .i64 220, .int .i64 (hereP L j)]]) (by simp [results, Tryz.results10, go_sem, s0, s1, s2]) rfl (ParQ.non (unhide HR2) hxe)
      | some x =>
        obtain ⟨b, rfl, hpi⟩ := hq
        have hlen := few_shad hS
        have HTB := hide (tree_bad L hS)
        have HPI := hide hpi
        clear hS
        obtain ⟨w6, h6⟩ : ∃ y, y = w5.alloc (.cells #[.int .i64 0, .int .i64 0] 31) := ⟨_, rfl⟩
        have hxa : Ext w5 w6 := by rw [h6]; exact (Ext.refl w5).alloc _
        have HB06 := hide ((unhide HB05).ext hxa)
        have HB16 := hide ((unhide HB15).ext hxa)
        have HX6 := hide ((unhide HX5).trans hxa)
        have HE6 := hide h6
        have o6 : r1 < w6.heap.size := Nat.lt_of_lt_of_le o5 hxa.size
        have hw6 : w.heap.size ≤ w6.heap.size := (unhide HX6).size
        have HORD := hide (order_any w6 (hpi.ext hxa) (by simp only at hsl; omega))
        clear h6 hxa hpi HB05 HB15 HX5
        go_wp2_with fail
        rw [← unhide HE6]
        refine (unhide HORD).mono ?_
        intro e w7 hq
        unfold OrdQ at hq
        obtain ⟨ob, hob⟩ : ∃ ob, badP 0 x = ob := ⟨_, rfl⟩
        have htb := unhide HTB
        rw [hob] at hq htb
        obtain ⟨hx7, hq⟩ := hq
        have HB07 := hide ((unhide HB06).ext hx7)
        have HB17 := hide ((unhide HB16).ext hx7)
        have HX7 := hide ((unhide HX6).trans hx7)
        have q0 := (unhide HB07).cell (i := 0) (v := .slice none 0 0) rfl
        have q1 := (unhide HB17).cell (i := 0) (v := .int .i64 0) rfl
        have q2 := (unhide HB17).cell (i := 1) (v := .int .i64 0) rfl
        have ga := fun j => (unhide HB07).free j
        have gb := fun j => (unhide HB17).free j
        clear hx7 hob HORD HB06 HB16 HX6
        cases ob with
        | some p =>
          simp only at hq htb
          subst hq
          have HR2 : Hid (R = ([], 3, p)) := by
            show R = _
            rw [unhide HR, htb]
            rfl
          clear htb
          go_wp2
          have hf := parse_fin (v := .slice none 0 0) (a := .int .i64 3) (b := .int .i64 p) (w := w) (unhide HB07) (unhide HB17) o1
          obtain ⟨s0, s1, s2⟩ := hf
          exact bodyPost_ret (v := .tuple #[.agg #[.slice none 0 0], .agg #[.int .i64 3, .int .i64 p]]) (by simp [results, Tryz.results10, go_sem, s0, s1, s2]) rfl (ParQ.non (unhide HR2) (setX (setX (setX (unhide HX7) o0) (by omega)) (by omega)))
        | none =>
          simp only at hq htb
          obtain ⟨ao, n, cap, ns, base, rfl, hbase, hnr, hns⟩ := hq
          have HR2 : Hid (R = (absN 0 x, 0, 0)) := by
            show R = _
            rw [unhide HR, htb]
          have HNR := hide hnr
          have HNS := hide hns
          clear htb hnr hns
          go_wp2
          have hf := parse_fin (v := .slice ao n cap) (a := .int .i64 0) (b := .int .i64 0) (w := w) (unhide HB07) (unhide HB17) o1
          obtain ⟨s0, s1, s2⟩ := hf
          have hfin : ParQ w R (.returned (.tuple #[.agg #[.slice ao n cap], .agg #[.int .i64 0, .int .i64 0]])) (((w7.setCell ⟨r0, 0, none⟩ (.slice ao n cap)).setCell ⟨r1, 0, none⟩ (.int .i64 0)).setCell ⟨r1, 1, none⟩ (.int .i64 0)) := by
            rw [unhide HR2]
            exact ⟨setX (setX (setX (unhide HX7) o0) (by omega)) (by omega), ao, n, cap, ns, base, rfl, by omega, (unhide HNR).fin (by omega) (by omega), unhide HNS⟩
          exact bodyPost_ret (v := .tuple #[.agg #[.slice ao n cap], .agg #[.int .i64 0, .int .i64 0]]) (by simp [results, Tryz.results10, go_sem, s0, s1, s2]) rfl hfin
  · have hc2 : checkE L = 2 := by
      unfold checkE at hc ⊢
      split at hc
      · rename_i h
        rw [if_pos h]
      · exact absurd rfl hc
    rw [hc2] at HC
    have HR : Hid (R = ([], 2, 0)) := by
      show R = _
      rw [unhide HPP, if_pos (.inl hc)]
    clear hc hc2 HPP
    refine (unhide HC).mono ?_
    rintro e w3 ⟨rfl, hx3⟩
    have HX3 := hide ((unhide HX2).trans hx3)
    have HB03 := hide ((unhide HB0).ext hx3)
    have HB13 := hide ((unhide HB1).ext hx3)
    have q0 := (unhide HB03).cell (i := 0) (v := .slice none 0 0) rfl
    have q1 := (unhide HB13).cell (i := 0) (v := .int .i64 0) rfl
    have q2 := (unhide HB13).cell (i := 1) (v := .int .i64 0) rfl
    have ga := fun j => (unhide HB03).free j
    have gb := fun j => (unhide HB13).free j
    clear hx3
    go_wp2
    have hf := parse_fin (v := .slice none 0 0) (a := .int .i64 2) (b := .int .i64 0) (w := w) (unhide HB03) (unhide HB13) o1
    obtain ⟨s0, s1, s2⟩ := hf
    exact bodyPost_ret (v := .tuple #[.agg #[.slice none 0 0], .agg #[.int .i64 2, .int .i64 0]]) (by simp [results, Tryz.results10, go_sem, s0, s1, s2]) rfl (ParQ.non (unhide HR) (setX (setX (setX (unhide HX3) o0) (by omega)) (by omega)))
end Go.Proofs.YtjfhhhabcbkahaaGreat

/-
  The layer does something: the tree of one text.
-/
namespace Go.Proofs.YtjfhhhabcbkahaaGreat
open Go.RowKit
set_option linter.unusedVariables false
set_option linter.unusedSimpArgs false

def wkT : Byts8 := [118, 111, 105, 100, 32, 109, 97, 105, 110, 40, 41, 123, 105, 110, 116, 32, 97, 61, 49, 45, 50, 45, 51, 59, 125]
def wkK : List Tok := [⟨1, [118, 111, 105, 100], 0, 0, 0⟩, ⟨1, [109, 97, 105, 110], 0, 5, 0⟩, ⟨4, [40], 0, 9, 0⟩, ⟨4, [41], 0, 10, 0⟩, ⟨4, [123], 0, 11, 0⟩, ⟨1, [105, 110, 116], 0, 12, 0⟩, ⟨1, [97], 0, 16, 0⟩, ⟨4, [61], 0, 17, 0⟩, ⟨2, [49], 65536, 18, 0⟩, ⟨4, [45], 0, 19, 0⟩, ⟨2, [50], 131072, 20, 0⟩, ⟨4, [45], 0, 21, 0⟩, ⟨2, [51], 196608, 22, 0⟩, ⟨4, [59], 0, 23, 0⟩, ⟨4, [125], 0, 24, 0⟩]
set_option maxRecDepth 100000 in
theorem wk_lex : lexP wkT = (wkK, 0, 0) := by kernel_rfl
set_option maxRecDepth 100000 in
theorem wk_spot : (parseP wkK).2 = (0, 0) := by kernel_rfl
set_option maxRecDepth 100000 in
theorem wk_kinds : (parseP wkK).1.map (fun n => n.kind) = [1, 4, 6, 2, 3, 15, 15, 20, 20, 20] := by kernel_rfl
set_option maxRecDepth 100000 in
theorem wk_bad : (parseP (wkK.take 3)).2.1 = 220 := by kernel_rfl
theorem TR.takeW {w : World} {ao : Option Addr} {n cap : Nat} {L : List Tok} (h : TR w (.slice ao n cap) L) (m : Nat) (hm : m ≤ L.length) : TR w (.slice ao m cap) (L.take m) := by
  obtain ⟨a, c, e, h1, h2, h3, h4⟩ := h
  cases e
  have hl : (L.take m).length = m := by rw [List.length_take]; omega
  refine ⟨_, _, by rw [hl], fun h0 => ?_, by omega, h3, fun i hi => ?_⟩
  · have := h1 h0
    first
    | (rw [hl]; omega)
    | omega
    | simp_all
  · rw [hl] at hi
    obtain ⟨b, off, e2, t⟩ := h4 i (by omega)
    exact ⟨b, off, e2, by rw [List.getElem_take]; exact t⟩
/-- What Parse answers of the whole. -/
def WkQ (w : World) (e : Ending) (w' : World) : Prop := Ext w w' ∧ ∃ b off cap, e = .returned (.tuple #[.agg #[.slice (some ⟨b, off, none⟩) 10 cap], .agg #[.int .i64 0, .int .i64 0]]) ∧ w'.cell? ⟨b, off + 18, none⟩ = some (.int .i64 2)
theorem wk_whole {w : World} {e : Ending} {w' : World} (h : ParQ w (parseP wkK) e w') : WkQ w e w' := by
  obtain ⟨hx, ao, n, cap, ns, base, rfl, hb, hnr, hns⟩ := h
  have hk : ns.map (fun p => p.2.kind) = [1, 4, 6, 2, 3, 15, 15, 20, 20, 20] := by
    rw [← wk_kinds, ← hns, List.map_map]
    rfl
  have hl : ns.length = 10 := by
    have := congrArg List.length hk
    simpa using this
  rw [wk_spot]
  refine ⟨hx, ?_⟩
  rcases hnr.own.2 with ⟨e1, h0⟩ | ⟨g, c2, cur, e1, h1⟩
  · exact absurd h0 (by omega)
  · have e1' := e1
    cases e1
    have hc := World.ownsRow.cells hnr.own (g := g) rfl (3 * 6 + 0) (.int .i64 2) (by
      rw [ncells_get _ 3 (by omega) 0 (by decide)]
      have h3 : (ns[3]'(by omega)).2.kind = 2 := by
        have := congrArg (fun l => l[3]?) hk
        simpa [hl] using this
      simp [ncell, h3])
    rw [Addr.add_lit] at hc
    refine ⟨g, 0, _, by rw [hl], ?_⟩
    simpa using hc
/-- What it answers of its begin. -/
theorem wk_part {w : World} {e : Ending} {w' : World} (h : ParQ w (parseP (wkK.take 3)) e w') : Ext w w' ∧ ∃ ao n cap b, e = .returned (.tuple #[.agg #[.slice ao n cap], .agg #[.int .i64 220, .int .i64 b]]) := by
  obtain ⟨hx, ao, n, cap, ns, base, rfl, hb, hnr, hns⟩ := h
  rw [wk_bad]
  exact ⟨hx, ao, n, cap, _, rfl⟩
set_option maxHeartbeats 4000000 in
set_option maxRecDepth 100000 in
theorem wakes12_any (w : World) (m : Int) (hm : w.cell? ⟨0, 0, none⟩ = some (.int .i64 m)) :
    Calls Tryz.prog 4 #[] w fun e w' => e = .returned (.bool true) ∧ Ext w w' := by
  have HL := lexT_any wkT w m hm
  rw [wk_lex] at HL
  have HLX := hide HL
  have HM := hide hm
  clear HL hm
  go_enter Tryz.func4, Tryz.ntmps4
  go_wp2_with fail
  refine (unhide HLX).mono ?_
  rintro e w1 ⟨ao, cap, rfl, hown, hx⟩
  have hcap : 15 ≤ cap := by
    obtain ⟨_, _, e0, _, hc, _⟩ := hown.tr
    cases e0
    exact hc
  have hT := hown.tr
  obtain ⟨w2, h2⟩ : ∃ y, y = w1.alloc (.cells #[.int .i64 0, .int .i64 0] 31) := ⟨_, rfl⟩
  have hx2 : Ext w w2 := hx.trans (by rw [h2]; exact (Ext.refl w1).alloc _)
  have hT2 : TR w2 (.slice ao 15 cap) wkK := hT.ext (by rw [h2]; exact (Ext.refl w1).alloc _)
  have HT2 := hide hT2
  have HX2 := hide hx2
  have HE2 := hide h2
  have HP := hide (Parse_any wkK ao cap w2 m (keepM (unhide HM) hx2) hT2)
  have hc3 : decide ((3 : Int) ≤ (cap : Int)) = true := by simp; omega
  clear hx hown hT h2 hx2 hT2
  simp only [show wkK.length = 15 from rfl] at HP ⊢
  go_wp2_with fail
  rw [← unhide HE2]
  refine (unhide HP).mono ?_
  intro e w3 hq
  obtain ⟨hx3, b, off, c3, rfl, hcell⟩ := wk_whole hq
  have HX3 := hide hx3
  have HC3 := hide hcell
  clear hq hx3 hcell
  obtain ⟨w4, h4⟩ : ∃ y, y = w3.alloc (.cells #[.slice (some ⟨b, off, none⟩) 10 c3] 24) := ⟨_, rfl⟩
  obtain ⟨w5, h5⟩ : ∃ y, y = w4.alloc (.cells #[.int .i64 0, .int .i64 0] 31) := ⟨_, rfl⟩
  have z4 : w4.heap.size = w3.heap.size + 1 := by rw [h4]; simp
  have x4 : Ext w3 w4 := by rw [h4]; exact (Ext.refl _).alloc _
  have x5 : Ext w4 w5 := by rw [h5]; exact (Ext.refl _).alloc _
  have B3 : Blk w5 w3.heap.size #[.slice (some ⟨b, off, none⟩) 10 c3] 24 := (show Blk w4 w3.heap.size _ _ by rw [h4]; exact Blk.new _ _ _).ext x5
  have B4 : Blk w5 (w3.heap.size + 1) #[.int .i64 0, .int .i64 0] 31 := by rw [h5]; exact BlkAt z4
  have x35 := x4.trans x5
  have HX5 := hide (((unhide HX2).trans (unhide HX3)).trans x35)
  have HT5 := hide ((((unhide HT2).ext (unhide HX3)).ext x35).takeW 3 (by decide))
  have hE5 : w5 = (w3.alloc (.cells #[.slice (some ⟨b, off, none⟩) 10 c3] 24)).alloc (.cells #[.int .i64 0, .int .i64 0] 31) := by rw [h5, h4]
  have HE5 := hide hE5
  have HC5 : Hid (w5.cell? ⟨b, off + 18, none⟩ = some (.int .i64 2)) := by
    show w5.cell? ⟨b, off + 18, none⟩ = some (.int .i64 2)
    rw [x35.cell (p := ⟨b, off + 18, none⟩) (World.block_lt_of_cell? w3 _ (unhide HC3))]
    exact unhide HC3
  have HP5 := hide (Parse_any (wkK.take 3) ao cap w5 m (keepM (unhide HM) (unhide HX5)) (unhide HT5))
  simp only [show (wkK.take 3).length = 3 from rfl] at HP5
  have HB3 := hide B3; have HB4 := hide B4
  clear h4 h5 z4 x4 x5 B3 B4 x35 hE5
  go_wp2_with fail
  rw [← unhide HE5]
  refine (unhide HP5).mono ?_
  intro e w6 hq
  obtain ⟨hx6, ao6, n6, cap6, p6, rfl⟩ := wk_part hq
  have hk : ∀ (a : Addr) u, w5.cell? a = some u → ∀ o1 o2, ((w6.alloc o1).alloc o2).cell? a = some u := fun a u hu o1 o2 => by
    rw [((hx6.alloc o1).alloc o2).cell (p := a) (World.block_lt_of_cell? w5 _ hu)]
    exact hu
  have d1 := hk _ _ ((unhide HB3).cell (i := 0) (v := .slice (some ⟨b, off, none⟩) 10 c3) rfl)
  have d2 := hk _ _ ((unhide HB4).cell (i := 0) (v := .int .i64 0) rfl)
  have d3 := hk _ _ ((unhide HB4).cell (i := 1) (v := .int .i64 0) rfl)
  have d4 := hk _ _ (unhide HC5)
  have HX6 := hide (((unhide HX5).trans hx6))
  clear hq hx6 hk
  go_wp2
  go_ret
  exact ⟨rfl, ((unhide HX6).alloc _).alloc _⟩
end Go.Proofs.YtjfhhhabcbkahaaGreat
