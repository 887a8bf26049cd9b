/-
  A store in memory: its cells, its budget, its map, its buffers' bytes; the walks of New, find, within, piece, Size.
-/
import Derived.Test.YtagbenjaidikmaaBB
import Derived.Test.YtagbenjaidikmaaW1
namespace Go.Proofs.Ytagbenjaidikmaa
open Go.RowKit

def I64 (n : Int) : Prop := -9223372036854775808 ≤ n ∧ n ≤ 9223372036854775807
/-- The store in block S: its budget in G, its map in M, its buffers K, each with bytes of its own. -/
structure Sto (w : World) (base S G M : Nat) (all tk : Int) (K : List Ent) : Prop where
  st : Blk w S #[.pointer (some ⟨G, 0, none⟩), .map (some M)] 63
  bu : Blk w G (bud all tk) 60
  ok : BudOk all tk
  mp : w.ownsMap Try.prog 3 heldE M K.length (dat K)
  rise : Rise K
  ids : ∀ p ∈ K, I64 p.1
  own : ∀ p ∈ K, Own .u8 w base 5 p.2.1 p.2.2
  fit : ∀ p ∈ K, p.2.2.length ≤ 140737488355328
  apart : ∀ p ∈ K, ∀ b, p.2.1.ownBlock = some b → b ≠ S ∧ b ≠ G ∧ b ≠ M
  alone : K.Pairwise fun p q => ∀ b, p.2.1.ownBlock = some b → q.2.1.ownBlock ≠ some b
  low : base ≤ S ∧ base ≤ G ∧ base ≤ M
  ne : S ≠ G ∧ S ≠ M ∧ G ≠ M

/-- The blocks that a store's calls may turn. -/
def Mine (G M : Nat) (K : List Ent) (b : Nat) : Prop := b = G ∨ b = M ∨ ∃ p ∈ K, p.2.1.ownBlock = some b

section
variable {w w' : World} {base S G M : Nat} {all tk : Int} {K : List Ent}
theorem Sto.c0 (h : Sto w base S G M all tk K) : w.cell? ⟨S, 0, none⟩ = some (.pointer (some ⟨G, 0, none⟩)) := h.st.cell (i := 0) rfl
theorem Sto.c1 (h : Sto w base S G M all tk K) : w.cell? ⟨S, 1, none⟩ = some (.map (some M)) := h.st.cell (i := 1) rfl
theorem Sto.mine_low (h : Sto w base S G M all tk K) {b : Nat} (hb : Mine G M K b) : base ≤ b := by
  rcases hb with rfl | rfl | ⟨p, hp, hv⟩
  · exact h.low.2.1
  · exact h.low.2.2
  · exact ((h.own p hp).lt b hv).1
theorem Sto.mine_lt (h : Sto w base S G M all tk K) {b : Nat} (hb : Mine G M K b) : b < w.heap.size := by
  rcases hb with rfl | rfl | ⟨p, hp, hv⟩
  · exact h.bu.lt
  · exact h.mp.lt
  · exact ((h.own p hp).lt b hv).2
theorem map_tight {n : Nat} (h : w.ownsMap Try.prog 3 heldE M n (dat K)) : w.ownsMap Try.prog 3 heldE M K.length (dat K) := by
  obtain ⟨es, clock, hb, F, _, hD⟩ := h
  refine ⟨es, clock, hb, F, ?_, hD⟩
  have := congrArg Maps.size hD
  rw [dat_size] at this
  simp only [Maps.size, length_sorted] at this
  simp at this
  omega
theorem map_ext {n : Nat} {D : DataW Value} (h : w.ownsMap Try.prog 3 heldE M n D) (hx : Ext w w') : w'.ownsMap Try.prog 3 heldE M n D := h.kept (ext_grown hx none) (by simp)
theorem Sto.ext (h : Sto w base S G M all tk K) (hx : Ext w w') : Sto w' base S G M all tk K :=
  ⟨h.st.ext hx, h.bu.ext hx, h.ok, map_ext h.mp hx, h.rise, h.ids, fun p hp => (h.own p hp).kept hx, h.fit, h.apart, h.alone, h.low, h.ne⟩
/-- The budget alone has turned. -/
theorem Sto.budget {tk' : Int} (h : Sto w base S G M all tk K) (hg : w.grownBy w' (some G)) (hb : Blk w' G (bud all tk') 60) (hok : BudOk all tk') : Sto w' base S G M all tk' K :=
  ⟨h.st.grown hg h.ne.1, hb, hok, h.mp.kept hg (fun e => h.ne.2.2 (by cases e; rfl)), h.rise, h.ids,
    fun p hp => (h.own p hp).grown hg (fun b hv e => by cases e; exact (h.apart p hp G hv).2.1 rfl), h.fit, h.apart, h.alone, h.low, h.ne⟩

theorem zero_slice (w : World) : (zeroValue 34).run Try.prog w = .ok (.slice none 0 0) w := Try.zeroValue34 w
/-- What stands under a number. -/
def valOf (id : Int) (K : List Ent) : Value := match look id K with | some p => p.1 | none => .slice none 0 0
theorem dat_val (id : Int) (K : List Ent) : (dat K).atKey (.int .i64 id) (.held (.slice none 0 0)) = .held (valOf id K) := by
  rw [dat_at]
  unfold valOf
  cases look id K <;> rfl
theorem I64.wf {n : Int} (h : I64 n) : (Lit.int .i64 n).wf = true := by
  obtain ⟨h1, h2⟩ := h
  have h3 := wrap64_wf n
  rwa [show wrap64 n = n by unfold wrap64; omega] at h3
theorem I64.key {n : Int} (h : I64 n) : keyOf Try.prog 3 (.int .i64 n) = some (.int .i64 n) := Maps.keyOf_int_mk Try.underlying3 h.wf
theorem held_inv {v : Value} {d : DataW Value} {ps : List MemPlace} {u : Value} (h : heldE v = some (d, ps)) (hd : d = .held u) : v = u := by
  unfold heldE at h
  subst hd
  simp at h
  exact h.1
theorem look_run {id : Int} (h : w.ownsMap Try.prog 3 heldE M K.length (dat K)) (hid : I64 id) :
    (Instr.lookup 61 (.map (some M)) (.int .i64 id) false).run Try.prog w = .ok (valOf id K) w := by
  obtain ⟨v, ps, hrun, hv⟩ := h.lookup (Maps.int_keyed Try.underlying3) Try.underlying61 (zero_slice w) (zd := .held (.slice none 0 0)) (zp := []) rfl hid.key
  rw [hrun, held_inv hv (dat_val id K)]
theorem look_run_ok {id : Int} (h : w.ownsMap Try.prog 3 heldE M K.length (dat K)) (hid : I64 id) :
    (Instr.lookup 61 (.map (some M)) (.int .i64 id) true).run Try.prog w = .ok (.tuple #[valOf id K, .bool (look id K).isSome]) w := by
  obtain ⟨v, ps, hrun, hv⟩ := h.look_ok (Maps.int_keyed Try.underlying3) Try.underlying61 (zero_slice w) (zd := .held (.slice none 0 0)) (zp := []) rfl hid.key
  rw [hrun, held_inv hv (dat_val id K), dat_has]
theorem val_none {id : Int} (h : look id K = none) : valOf id K = .slice none 0 0 := by unfold valOf; rw [h]
theorem val_some {id : Int} {v : Value} {bs : List Int} (h : look id K = some (v, bs)) : valOf id K = v := by unfold valOf; rw [h]
end

set_option maxHeartbeats 1000000 in
theorem new_any (G : Nat) (w : World) :
    Calls Try.prog 9 #[.pointer (some ⟨G, 0, none⟩)] w fun e w' => e = .returned (.tuple #[.pointer (some ⟨w.heap.size + 1, 0, none⟩), .int .i64 0]) ∧ w' = (w.alloc (.map #[] 0)).alloc (.cells #[.pointer (some ⟨G, 0, none⟩), .map (some w.heap.size)] 63) := by
  have hmm := @run_makeMap Try.prog
  go_enter Try.func9, Try.ntmps9
  go_wp2
  exact bodyPost_ret (v := .tuple #[.pointer (some ⟨w.heap.size + 1, 0, none⟩), .int .i64 0]) (by simp [results, Try.results9, go_sem]) rfl ⟨rfl, rfl⟩
theorem new_nil (w : World) :
    Calls Try.prog 9 #[.pointer none] w fun e w' => e = .returned (.tuple #[.pointer none, .int .i64 1]) ∧ w' = w := by
  go_enter Try.func9, Try.ntmps9
  go_wp2
  exact bodyPost_ret (v := .tuple #[.pointer none, .int .i64 1]) (by simp [results, Try.results9, go_sem]) rfl ⟨rfl, rfl⟩
/-- A new store of a budget. -/
theorem new_sto {w : World} {base G : Nat} {all tk : Int} (hG : Blk w G (bud all tk) 60) (hok : BudOk all tk) (hb : base ≤ G) :
    Calls Try.prog 9 #[.pointer (some ⟨G, 0, none⟩)] w fun e w' => ∃ S M, e = .returned (.tuple #[.pointer (some ⟨S, 0, none⟩), .int .i64 0]) ∧ Sto w' base S G M all tk [] ∧ Ext w w' := by
  refine (new_any G w).mono ?_
  rintro e w' ⟨rfl, rfl⟩
  have hlt := hG.lt
  have e1 : (w.alloc (.map #[] 0)).heap.size = w.heap.size + 1 := by simp
  refine ⟨w.heap.size + 1, w.heap.size, rfl, ⟨?_, ?_, hok, ?_, by simp [Rise], by simp, by simp, by simp, by simp, by simp, ⟨by omega, hb, by omega⟩, ⟨by omega, by omega, by omega⟩⟩, ((Ext.refl w).alloc _).alloc _⟩
  · have := Blk.new (w.alloc (.map #[] 0)) #[.pointer (some ⟨G, 0, none⟩), .map (some w.heap.size)] 63
    rw [e1] at this
    exact this
  · exact (hG.alloc _).alloc _
  · exact (World.ownsMap_made w Try.prog 3 heldE).alloc _

section
variable {w : World} {base S G M : Nat} {all tk : Int} {K : List Ent}
set_option maxHeartbeats 1000000 in
theorem find_none (h : Sto w base S G M all tk K) {id : Int} (hid : I64 id) (hn : look id K = none) :
    Calls Try.prog 33 #[.pointer (some ⟨S, 0, none⟩), .int .i64 id] w fun e w' => e = .returned (.tuple #[.slice none 0 0, .int .i64 4]) ∧ w' = w := by
  have c1 := h.c1
  have hr := look_run_ok h.mp hid
  rw [val_none hn, hn] at hr
  simp only [Option.isSome_none] at hr
  clear h hn
  go_enter Try.func33, Try.ntmps33
  go_wp2
  exact bodyPost_ret (v := .tuple #[.slice none 0 0, .int .i64 4]) (by simp [results, Try.results33, go_sem]) rfl ⟨rfl, rfl⟩
set_option maxHeartbeats 1000000 in
theorem find_some (h : Sto w base S G M all tk K) {id : Int} (hid : I64 id) {ao : Option Addr} {n cap : Nat} {bs : List Int} (hn : look id K = some (.slice ao n cap, bs)) :
    Calls Try.prog 33 #[.pointer (some ⟨S, 0, none⟩), .int .i64 id] w fun e w' => e = .returned (.tuple #[.slice ao n cap, .int .i64 0]) ∧ w' = w := by
  have c1 := h.c1
  have hr := look_run_ok h.mp hid
  rw [val_some hn, hn] at hr
  simp only [Option.isSome_some] at hr
  clear h hn
  go_enter Try.func33, Try.ntmps33
  go_wp2
  exact bodyPost_ret (v := .tuple #[.slice ao n cap, .int .i64 0]) (by simp [results, Try.results33, go_sem]) rfl ⟨rfl, rfl⟩
end
theorem find_nil (id : Int) (w : World) :
    Calls Try.prog 33 #[.pointer none, .int .i64 id] w fun e w' => e = .returned (.tuple #[.slice none 0 0, .int .i64 1]) ∧ w' = w := by
  go_enter Try.func33, Try.ntmps33
  go_wp2
  exact bodyPost_ret (v := .tuple #[.slice none 0 0, .int .i64 1]) (by simp [results, Try.results33, go_sem]) rfl ⟨rfl, rfl⟩
end Go.Proofs.Ytagbenjaidikmaa
