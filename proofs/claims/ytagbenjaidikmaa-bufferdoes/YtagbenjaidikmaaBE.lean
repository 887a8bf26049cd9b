/-
  Buffers: the walks of Sub, Drop, Data.
-/
import Derived.Test.YtagbenjaidikmaaBD
import Derived.Laws.CopyOwn
import Derived.Deep.RegionHeld3
namespace Go.Proofs.Ytagbenjaidikmaa
open Go.RowKit

theorem size8 : (Try.prog.info? 5).map (·.size) = some 1 := by kernel_rfl

/-! ### what becomes of a store -/
/-- xs laid over bs from p on. -/
def layB (bs : List Int) (p : Nat) (xs : List Int) : List Int := bs.take p ++ (xs ++ bs.drop (p + xs.length))
theorem layB_len {bs : List Int} {p : Nat} {xs : List Int} (h : p + xs.length ≤ bs.length) : (layB bs p xs).length = bs.length := by
  unfold layB
  simp
  omega
theorem take_app3 {α : Type} (A X D : List α) (n : Nat) (h : A.length + X.length ≤ n) : (A ++ (X ++ D)).take n = A ++ (X ++ D.take (n - (A.length + X.length))) := by
  rw [List.take_append, List.take_append, List.take_of_length_le (show A.length ≤ n by omega), List.take_of_length_le (show X.length ≤ n - A.length by omega), Nat.sub_sub]
theorem ins_rem {α : Type} {id : Int} {x : α} : ∀ {K : List (Int × α)}, Rise K → look id K = some x → ins (id, x) (rem id K) = K := by
  intro K
  induction K with
  | nil => intro _ h; simp [look] at h
  | cons y r ih =>
    intro hr h
    have h2 := List.pairwise_cons.1 hr
    by_cases hy : y.1 = id
    · have e : look id (y :: r) = some y.2 := by unfold look; rw [List.find?_cons_of_pos (by simp [hy])]; rfl
      rw [e] at h
      cases h
      have e1 : rem id (y :: r) = rem id r := by unfold rem; rw [List.filter_cons_of_neg (by simp [hy])]
      have hn : rem id r = r := by
        unfold rem
        rw [List.filter_eq_self]
        intro p hp
        have := h2.1 p hp
        simp
        omega
      rw [e1, hn]
      have e2 : ((id, y.2) : Int × α) = y := by rw [← hy]
      rw [e2]
      cases r with
      | nil => rfl
      | cons z r2 =>
        unfold ins
        rw [if_pos (h2.1 z (by simp))]
    · have e : look id (y :: r) = look id r := by unfold look; rw [List.find?_cons_of_neg (by simp [hy])]
      rw [e] at h
      have e1 : rem id (y :: r) = y :: rem id r := by unfold rem; rw [List.filter_cons_of_pos (by simp [hy])]
      have hlt := h2.1 _ (look_mem h)
      rw [e1]
      unfold ins
      rw [if_neg (by simp at hlt ⊢; omega), ih h2.2 h]
/-- Other bytes under the same slice: the map is the same. -/
theorem dat_over {K : List Ent} (hr : Rise K) {id : Int} {v : Value} {bs : List Int} (h : look id K = some (v, bs)) (bs' : List Int) : dat (ins (id, v, bs') (rem id K)) = dat K := by
  have e : ∀ L : List Ent, dat L = .map ((L.map fun p => (p.1, p.2.1)).map fun p => (Lit.int .i64 p.1, .held p.2)) := by
    intro L
    unfold dat
    rw [List.map_map]
    rfl
  rw [e, e K]
  congr 2
  rw [map_ins (fun p : Value × List Int => p.1), map_rem (fun p : Value × List Int => p.1)]
  refine ins_rem ?_ ?_
  · exact List.pairwise_map.2 hr
  · rw [map_look (fun p : Value × List Int => p.1), h]
    rfl

section
variable {w w' : World} {base S G M : Nat} {all tk : Int} {K : List Ent}
/-- One buffer's bytes alone have turned. -/
theorem Sto.over {id : Int} {v : Value} {bs bs' : List Int} {g : Nat} (h : Sto w base S G M all tk K) (hn : look id K = some (v, bs)) (hv : v.ownBlock = some g) (hg : w.grownBy w' (some g)) (ho : Own .u8 w' base 5 v bs') (hl : bs'.length ≤ 140737488355328) :
    Sto w' base S G M all tk (ins (id, v, bs') (rem id K)) := by
  have hm := look_mem hn
  have ha := h.apart _ hm g hv
  have halone : ∀ p ∈ rem id K, ∀ b, p.2.1.ownBlock = some b → some b ≠ some g := by
    intro p hp b hb e
    cases e
    obtain ⟨hp1, hp2⟩ := mem_rem.1 hp
    obtain ⟨i, hi, ei⟩ := List.getElem_of_mem hp1
    obtain ⟨j, hj, ej⟩ := List.getElem_of_mem hm
    have hpw := List.pairwise_iff_getElem.1 h.alone
    rcases Nat.lt_trichotomy i j with hij | hij | hij
    · have := hpw i j hi hj hij
      rw [ei, ej] at this
      exact this g hb hv
    · subst hij
      rw [ei] at ej
      subst ej
      exact hp2 rfl
    · have := hpw j i hj hi hij
      rw [ei, ej] at this
      exact this g hv hb
  refine ⟨h.st.grown hg (fun e => ha.1 e.symm), h.bu.grown hg (fun e => ha.2.1 e.symm), h.ok, ?_, ?_, ?_, ?_, ?_, ?_, ?_, h.low, h.ne⟩
  · rw [dat_over h.rise hn]
    refine World.ownsMap.mono (h.mp.kept hg (fun e => by cases e; exact ha.2.2 rfl)) ?_
    · rw [len_ins]
      have h1 := congrArg List.length (ins_rem h.rise hn)
      rw [len_ins] at h1
      omega
  · exact (h.rise.rem id).ins (fun y hy => (mem_rem.1 hy).2)
  · intro p hp
    rcases mem_ins.1 hp with rfl | hp
    · exact h.ids (id, v, bs) hm
    · exact h.ids p (mem_rem.1 hp).1
  · intro p hp
    rcases mem_ins.1 hp with rfl | hp
    · exact ho
    · exact (h.own p (mem_rem.1 hp).1).grown hg (halone p hp)
  · intro p hp
    rcases mem_ins.1 hp with rfl | hp
    · exact hl
    · exact h.fit p (mem_rem.1 hp).1
  · intro p hp
    rcases mem_ins.1 hp with rfl | hp
    · exact fun b hb => h.apart _ hm b hb
    · exact h.apart p (mem_rem.1 hp).1
  · refine pair_ins (fun a b hab c h1 h2 => hab c h2 h1) (List.Pairwise.filter _ h.alone) ?_
    intro y hy b h1 h2
    rw [hv] at h1
    cases h1
    exact halone y hy g h2 rfl
/-- A buffer is put: the map alone has turned, its bytes are new. -/
theorem Sto.put {id : Int} {v : Value} {bs : List Int} (h : Sto w base S G M all tk K) (hid : I64 id) (hg : w.grownBy w' (some M)) {n : Nat} (hmap : w'.ownsMap Try.prog 3 heldE M n ((dat K).put (.int .i64 id) (.held v))) {w0 : Nat} (ho : Own .u8 w w0 5 v bs) (h0 : base ≤ w0)
    (hnew : ∀ b, v.ownBlock = some b → b ≠ S ∧ b ≠ G ∧ b ≠ M ∧ ∀ p ∈ K, p.2.1.ownBlock ≠ some b) (hl : bs.length ≤ 140737488355328) : Sto w' base S G M all tk (ins (id, v, bs) (rem id K)) := by
  have hM : ∀ p ∈ K, ∀ b, p.2.1.ownBlock = some b → some b ≠ some M := fun p hp b hb e => by cases e; exact (h.apart p hp M hb).2.2 rfl
  have ho2 : Own .u8 w' base 5 v bs := by
    have ho1 := ho.grown hg (fun b hb e => by cases e; exact (hnew M hb).2.2.1 rfl)
    rcases ho1 with ⟨h1, h2 | ⟨g, cap, cur, e1, e2, e3⟩⟩
    · exact ⟨h1, .inl h2⟩
    · exact ⟨h1, .inr ⟨g, cap, cur, e1, by omega, e3⟩⟩
  refine ⟨h.st.grown hg h.ne.2.1, h.bu.grown hg h.ne.2.2, h.ok, ?_, ?_, ?_, ?_, ?_, ?_, ?_, h.low, h.ne⟩
  · rw [dat_put id v bs K] at hmap
    exact map_tight hmap
  · exact (h.rise.rem id).ins (fun y hy => (mem_rem.1 hy).2)
  · intro p hp
    rcases mem_ins.1 hp with rfl | hp
    · exact hid
    · exact h.ids p (mem_rem.1 hp).1
  · intro p hp
    rcases mem_ins.1 hp with rfl | hp
    · exact ho2
    · exact (h.own p (mem_rem.1 hp).1).grown hg (hM p (mem_rem.1 hp).1)
  · intro p hp
    rcases mem_ins.1 hp with rfl | hp
    · exact hl
    · exact h.fit p (mem_rem.1 hp).1
  · intro p hp
    rcases mem_ins.1 hp with rfl | hp
    · exact fun b hb => ⟨(hnew b hb).1, (hnew b hb).2.1, (hnew b hb).2.2.1⟩
    · exact h.apart p (mem_rem.1 hp).1
  · refine pair_ins (fun a b hab c h1 h2 => hab c h2 h1) (List.Pairwise.filter _ h.alone) ?_
    intro y hy b h1 h2
    exact (hnew b h1).2.2.2 y (mem_rem.1 hy).1 h2
/-- A buffer is dropped: the map alone has turned. -/
theorem Sto.gone {id : Int} (h : Sto w base S G M all tk K) (hg : w.grownBy w' (some M)) {n : Nat} (hmap : w'.ownsMap Try.prog 3 heldE M n ((dat K).del (.int .i64 id))) : Sto w' base S G M all tk (rem id K) := by
  have hM : ∀ p ∈ K, ∀ b, p.2.1.ownBlock = some b → some b ≠ some M := fun p hp b hb e => by cases e; exact (h.apart p hp M hb).2.2 rfl
  refine ⟨h.st.grown hg h.ne.2.1, h.bu.grown hg h.ne.2.2, h.ok, ?_, h.rise.rem id, fun p hp => h.ids p (mem_rem.1 hp).1, ?_, ?_, ?_, List.Pairwise.filter _ h.alone, h.low, h.ne⟩
  · rw [dat_del id K] at hmap
    exact map_tight hmap
  · exact fun p hp => (h.own p (mem_rem.1 hp).1).grown hg (hM p (mem_rem.1 hp).1)
  · exact fun p hp => h.fit p (mem_rem.1 hp).1
  · exact fun p hp => h.apart p (mem_rem.1 hp).1
theorem mine_rem {id : Int} {b : Nat} (h : Mine G M (rem id K) b) : Mine G M K b := by
  rcases h with h | h | ⟨p, hp, hv⟩
  · exact .inl h
  · exact .inr (.inl h)
  · exact .inr (.inr ⟨p, (mem_rem.1 hp).1, hv⟩)
theorem mine_ins {id : Int} {v : Value} {bs : List Int} {b : Nat} (h : Mine G M (ins (id, v, bs) (rem id K)) b) : Mine G M K b ∨ v.ownBlock = some b := by
  rcases h with h | h | ⟨p, hp, hv⟩
  · exact .inl (.inl h)
  · exact .inl (.inr (.inl h))
  · rcases mem_ins.1 hp with rfl | hp
    · exact .inr hv
    · exact .inl (.inr (.inr ⟨p, (mem_rem.1 hp).1, hv⟩))

/-! ### Sub -/
set_option maxHeartbeats 1000000 in
theorem sub_none (h : Sto w base S G M all tk K) {id : Int} (hid : I64 id) (hn : look id K = none) (at' : Int) {v : Value} {xs : List Int} (hr : Row .u8 w v xs) :
    Calls Try.prog 12 #[.pointer (some ⟨S, 0, none⟩), .int .i64 id, .int .i64 at', v] w fun e w' => e = .returned (.int .i64 4) ∧ w' = w := by
  obtain ⟨ao, cap, rfl, _⟩ := hr.shape
  go_enter Try.func12, Try.ntmps12
  go_wp2_with fail
  refine (piece_none h hid hn at' _).mono ?_
  rintro e w1 ⟨rfl, rfl⟩
  clear h hn hr
  go_wp2
  go_ret
  exact ⟨rfl, rfl⟩
set_option maxHeartbeats 1000000 in
theorem sub_bad (h : Sto w base S G M all tk K) {id : Int} (hid : I64 id) {u : Value} {bs : List Int} (hn : look id K = some (u, bs)) (at' : Int) {v : Value} {xs : List Int} (hr : Row .u8 w v xs) (hb : inB at' xs.length bs.length = false) :
    Calls Try.prog 12 #[.pointer (some ⟨S, 0, none⟩), .int .i64 id, .int .i64 at', v] w fun e w' => e = .returned (.int .i64 2) ∧ w' = w := by
  obtain ⟨ao, cap, rfl, _⟩ := hr.shape
  go_enter Try.func12, Try.ntmps12
  go_wp2_with fail
  refine (piece_bad h hid hn at' _ hb).mono ?_
  rintro e w1 ⟨rfl, rfl⟩
  clear h hn hr hb
  go_wp2
  go_ret
  exact ⟨rfl, rfl⟩
set_option maxHeartbeats 1000000 in
theorem sub_some (h : Sto w base S G M all tk K) {id : Int} (hid : I64 id) {u : Value} {bs : List Int} (hn : look id K = some (u, bs)) (p : Nat) {v : Value} {xs : List Int} (hr : Row .u8 w v xs) (hpm : p + xs.length ≤ bs.length) :
    Calls Try.prog 12 #[.pointer (some ⟨S, 0, none⟩), .int .i64 id, .int .i64 (p : Int), v] w fun e w' => e = .returned (.int .i64 0) ∧ Sto w' base S G M all tk (ins (id, u, layB bs p xs) (rem id K)) ∧ Out (Mine G M K) w w' := by
  have hf := h.fit _ (look_mem hn)
  simp only at hf
  have ho := h.own _ (look_mem hn)
  simp only at ho
  obtain ⟨ao, cap, rfl, hao, hlc, hcm⟩ := hr.shape
  go_enter Try.func12, Try.ntmps12
  go_wp2_with fail
  refine (piece_some h hid hn p xs.length hpm).mono ?_
  rintro e w1 ⟨⟨ao2, cap2, rfl, hpc⟩, rfl⟩
  have HH := hide h
  have HN := hide hn
  have HR := hide hr
  have HO := hide ho
  have HP := hide hpc
  have HA := hide hao
  clear h hn hr ho hpc hao
  by_cases hx : xs.length = 0
  · obtain rfl : xs = [] := List.eq_nil_of_length_eq_zero hx
    clear hx
    have hrun := fun ty => run_copy_none (P := Try.prog) w1 34 34 ty 5 ao2 ao ([] : List Int).length cap2 ([] : List Int).length cap Try.underlying34 size8 (by simp)
    simp only [List.length_nil, goInt] at hrun ⊢
    go_wp2
    go_ret
    have e : layB bs p [] = bs := by unfold layB; simp
    refine ⟨rfl, ?_, Out.refl _ _⟩
    rw [e, ins_rem (unhide HH).rise (unhide HN)]
    exact unhide HH
  · obtain ⟨_, _, e1, _, _, _, h4⟩ := unhide HP
    cases e1
    obtain ⟨g, l, c, rfl, rfl⟩ := h4 (by omega)
    have hl : l = bs.length := by obtain ⟨_, _, e⟩ := (unhide HO).shape; cases e; rfl
    subst hl
    obtain ⟨hlen, hown⟩ := unhide HO
    rcases hown with ⟨e, _⟩ | ⟨g2, c2, cur, e, hbase, hblk, hnc, hccm, hsz, htake⟩
    · cases e
    cases e
    obtain ⟨b, off, rfl, hc⟩ := (unhide HR).at 0 (by omega)
    have HBLK := hide hblk
    have HSZ := hide hsz
    have HTK := hide htake
    have HCC := hide hc
    clear hblk htake h4 hlen hc hsz
    simp only [Nat.mul_one] at HSZ HTK
    have D1 : (xs.map (Value.int .u8)).length = Nat.min xs.length xs.length := by simp
    have D2 : ∀ j v, (xs.map (Value.int .u8))[j]? = some v → w1.cell? ((⟨b, off, none⟩ : Addr).add j) = some v := by
      refine Row.news fun i hi => ?_
      rw [unhide HCC i hi]
      simp [hi]
    have D3 : p + (xs.map (Value.int .u8)).length ≤ cur.size := by rw [unhide HSZ]; simp; omega
    have HD1 := hide D1
    have HD2 := hide D2
    have HD3 := hide D3
    clear D1 D2 D3
    have hrun := fun ty => run_copy_row (P := Try.prog) w1 34 34 ty 5 g p xs.length cap2 ⟨b, off, none⟩ xs.length cap cur 5 (xs.map (Value.int .u8)) Try.underlying34 size8 (unhide HBLK) (unhide HD1) (unhide HD2) (unhide HD3) (ints_oneCell _ _)
    have hg : w1.grownBy (w1.setRow g (cur.toList.take p ++ xs.map (Value.int .u8) ++ cur.toList.drop (p + (xs.map (Value.int .u8)).length)).toArray) (some g) :=
      ⟨rfl, rfl, rfl, by simp [World.setRow], fun k _ hk => setRow_other w1 g k _ (fun e => hk (by rw [e]))⟩
    have hnew := setRow_heap w1 g cur (cur.toList.take p ++ xs.map (Value.int .u8) ++ cur.toList.drop (p + (xs.map (Value.int .u8)).length)).toArray 5 (0, 0) (unhide HBLK)
    have HG := hide hg
    have HNEW := hide hnew
    clear hg hnew
    generalize w1.setRow g (cur.toList.take p ++ xs.map (Value.int .u8) ++ cur.toList.drop (p + (xs.map (Value.int .u8)).length)).toArray = w2 at HG HNEW hrun
    simp only [List.length_map, goInt] at hrun
    go_wp2
    go_ret
    have hg := unhide HG
    refine ⟨rfl, Sto.over (unhide HH) (unhide HN) rfl hg ?_ ?_, Out.of_grown hg (.inr (.inr ⟨_, look_mem (unhide HN), rfl⟩))⟩
    · have hcur := unhide HTK
      have hsz := unhide HSZ
      have hlb := layB_len hpm
      refine ⟨by simp, .inr ⟨g, c, _, by rw [hlb], hbase, unhide HNEW, by rw [hlb]; exact hnc, hccm, ?_, ?_⟩⟩
      · simp
        omega
      · rw [hlb, Nat.mul_one]
        unfold layB
        have e1 : cur.toList.take p = (bs.take p).map (Value.int .u8) := by
          rw [List.map_take, ← hcur, List.take_take, Nat.min_eq_left (by omega)]
        have e2 : (cur.toList.drop (p + xs.length)).take (bs.length - (p + xs.length)) = (bs.drop (p + xs.length)).map (Value.int .u8) := by
          rw [List.map_drop, ← hcur, List.drop_take]
        simp only [List.length_map, List.map_append, List.append_assoc]
        rw [e1, ← e2]
        have l1 : ((bs.take p).map (Value.int .u8)).length = p := by simp; omega
        have l2 : (xs.map (Value.int .u8)).length = xs.length := by simp
        rw [take_app3 _ _ _ _ (by rw [l1, l2]; omega), l1, l2]
    · rw [layB_len hpm]; exact hf

/-! ### Drop -/
set_option maxHeartbeats 1000000 in
theorem drop_none (h : Sto w base S G M all tk K) {id : Int} (hid : I64 id) (hn : look id K = none) :
    Calls Try.prog 19 #[.pointer (some ⟨S, 0, none⟩), .int .i64 id] w fun e w' => e = .returned (.int .i64 4) ∧ w' = w := by
  go_enter Try.func19, Try.ntmps19
  go_wp2_with fail
  refine (find_none h hid hn).mono ?_
  rintro e w1 ⟨rfl, rfl⟩
  clear h hn
  go_wp2
  go_ret
  exact ⟨rfl, rfl⟩
set_option maxHeartbeats 1000000 in
theorem drop_some (h : Sto w base S G M all tk K) {id : Int} (hid : I64 id) {u : Value} {bs : List Int} (hn : look id K = some (u, bs)) :
    Calls Try.prog 19 #[.pointer (some ⟨S, 0, none⟩), .int .i64 id] w fun e w' => e = .returned (.int .i64 0) ∧ Sto w' base S G M all (max 0 (tk - bs.length)) (rem id K) ∧ Out (Mine G M K) w w' := by
  have hf := h.fit _ (look_mem hn)
  simp only at hf
  have ho := h.own _ (look_mem hn)
  simp only at ho
  obtain ⟨ao, cap, rfl⟩ := ho.shape
  go_enter Try.func19, Try.ntmps19
  go_wp2_with fail
  refine (find_some h hid hn).mono ?_
  rintro e w1 ⟨rfl, rfl⟩
  have c0 := h.c0
  have HH := hide h
  have HO := hide ho
  clear h hn ho
  go_wp2_with fail
  have hok := (unhide HH).ok
  refine (trade_any G all tk bs.length 0 _ (unhide HH).ok (by omega) (by omega) (by omega) (by omega) (unhide HH).bu).mono ?_
  rintro e w2 ⟨rfl, hb, hg⟩
  have hT : trT all tk bs.length 0 = max 0 (tk - bs.length) := by
    obtain ⟨_, _, _⟩ := hok
    unfold trT
    rw [if_neg (by omega)]
    simp
  have hs2 := (unhide HH).budget hg hb (trT_ok hok)
  rw [hT] at hs2
  have HG := hide hg
  clear hb hg hT hok c0
  have c1 := hs2.c1
  have HS := hide hs2
  clear hs2
  go_wp2_with (at_delete; refine wpList_delete_own _ rfl _ _ 61 3 rfl 34 (Maps.int_keyed Try.underlying3) Try.underlying61 heldE M _ (dat K) rfl (unhide HS).mp _ _ rfl hid.key ?_; intro w3 hown3 hturn3)
  go_ret
  refine ⟨rfl, (unhide HS).gone hturn3.grown hown3, ?_⟩
  exact (Out.of_grown (unhide HG) (.inl rfl)).trans (Out.of_grown hturn3.grown (.inr (.inl rfl))) (fun k hk => .inl hk)
end
theorem drop_nil (id : Int) (w : World) :
    Calls Try.prog 19 #[.pointer none, .int .i64 id] w fun e w' => e = .returned (.int .i64 1) ∧ w' = w := by
  go_enter Try.func19, Try.ntmps19
  go_wp2_with fail
  refine (find_nil id _).mono ?_
  rintro e w1 ⟨rfl, rfl⟩
  go_wp2
  go_ret
  exact ⟨rfl, rfl⟩
theorem sub_nil (id at' : Int) (ao : Option Addr) (n cap : Nat) (w : World) :
    Calls Try.prog 12 #[.pointer none, .int .i64 id, .int .i64 at', .slice ao n cap] w fun e w' => e = .returned (.int .i64 1) ∧ w' = w := by
  go_enter Try.func12, Try.ntmps12
  go_wp2_with fail
  refine (piece_nil id at' _ _).mono ?_
  rintro e w1 ⟨rfl, rfl⟩
  go_wp2
  go_ret
  exact ⟨rfl, rfl⟩
end Go.Proofs.Ytagbenjaidikmaa
