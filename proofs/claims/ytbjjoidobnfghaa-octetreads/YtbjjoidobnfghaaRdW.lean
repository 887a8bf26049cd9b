/-
  The walk of OctetReads: the round of each kind of call, the Reader and the document's own side by side.
-/
import Derived.Test.YtbjjoidobnfghaaFr
import Derived.Test.YtbjjoidobnfghaaW5
import Derived.Test.YtbjjoidobnfghaaW7
import Derived.Test.YtbjjoidobnfghaaW9a
import Derived.Test.YtbjjoidobnfghaaW9b
import Derived.Test.YtbjjoidobnfghaaW9c
import Derived.Test.YtbjjoidobnfghaaW9d
namespace Go.Proofs.Ytbjjoidobnfghaa
open Go.ChangeShapes Go.WideShapes Go.ChangeAt Go.RowKit
open Go.ChangeMaps (open_string shut_string)

theorem do_any (sv : Value) (bs : List Int) (p : Nat) (err K n : Int) (w : World) (hr : Row .u8 w sv bs) (hp : p ≤ bs.length) (hlen : bs.length ≤ 140737488355328) (hB : Byt bs) (hn1 : n ≤ 9223372036854775807) (h0 : 0 ≤ K) (h8 : K < 8) :
    Calls Try.prog 15 #[.agg #[sv, .int .i64 (p : Int), .int .i64 err], .agg #[.int .i64 K, .int .i64 n]] w (DoEnds sv bs p err K n w) := by
  have hK : K = 0 ∨ K = 1 ∨ K = 2 ∨ K = 3 ∨ K = 4 ∨ K = 5 ∨ K = 6 ∨ K = 7 := by omega
  rcases hK with rfl | rfl | rfl | rfl | rfl | rfl | rfl | rfl
  · exact do_0 sv bs p err n w hr hp hlen hB hn1
  · exact do_1 sv bs p err n w hr hp hlen hB hn1
  · exact do_2 sv bs p err n w hr hp hlen hB hn1
  · exact do_3 sv bs p err n w hr hp hlen hB hn1
  · exact do_4 sv bs p err n w hr hp hlen hB hn1
  · exact do_5 sv bs p err n w hr hp hlen hB hn1
  · exact do_6 sv bs p err n w hr hp hlen hB hn1
  · exact do_7 sv bs p err n w hr hp hlen hB hn1

/-- The slice value v holds pairs of numbers. -/
def RowP (w : World) (v : Value) (xs : List (Int × Int)) : Prop :=
  (xs = [] ∧ ∃ ao cap, v = .slice ao 0 cap) ∨
  (xs ≠ [] ∧ ∃ b off cap, v = .slice (some ⟨b, off, none⟩) xs.length cap ∧ ∀ i (hi : i < xs.length), w.cell? ⟨b, off + i * 2, none⟩ = some (.int .i64 xs[i].1) ∧ w.cell? ⟨b, off + i * 2 + 1, none⟩ = some (.int .i64 xs[i].2))
theorem RowP.shape {w : World} {v : Value} {xs : List (Int × Int)} (h : RowP w v xs) : ∃ ao cap, v = .slice ao xs.length cap := by
  rcases h with ⟨rfl, ao, cap, rfl⟩ | ⟨_, b, off, cap, rfl, _⟩
  · exact ⟨ao, cap, rfl⟩
  · exact ⟨_, cap, rfl⟩
theorem RowP.below {w w' : World} {v : Value} {xs : List (Int × Int)} (h : RowP w v xs) (hb : Below w.heap.size w w') : RowP w' v xs := by
  rcases h with h | ⟨hne, b, off, cap, rfl, hc⟩
  · exact .inl h
  · refine .inr ⟨hne, b, off, cap, rfl, fun i hi => ?_⟩
    rw [hb.cell (p := ⟨b, off + i * 2, none⟩) (World.block_lt_of_cell? w _ (hc i hi).1), hb.cell (p := ⟨b, off + i * 2 + 1, none⟩) (World.block_lt_of_cell? w _ (hc i hi).2)]
    exact hc i hi
theorem RowP.at {w : World} {ao : Option Addr} {n cap : Nat} {xs : List (Int × Int)} (h : RowP w (.slice ao n cap) xs) (i : Nat) (hi : i < xs.length) : ∃ b off, ao = some ⟨b, off, none⟩ ∧ w.cell? ⟨b, off + i * 2, none⟩ = some (.int .i64 xs[i].1) ∧ w.cell? ⟨b, off + i * 2 + 1, none⟩ = some (.int .i64 xs[i].2) := by
  rcases h with ⟨rfl, _⟩ | ⟨hne, b, off, c, hv, hc⟩
  · simp at hi
  · cases hv
    exact ⟨b, off, rfl, hc i hi⟩

/-- What holds at the head of each round: the Reader r and the document's own (in block mb) stand alike; the Reader s has not moved. -/
structure Inv (w wr : World) (rb rb2 mb : Nat) (sv sv2 mv : Value) (bs : List Int) (p : Nat) (err : Int) : Prop where
  r : Rd wr rb sv bs p err
  s : Rd wr rb2 sv2 bs 0 0
  m : Blk wr mb #[mv, .int .i64 (p : Int), .int .i64 err] 38
  row : Row .u8 wr mv bs
  bel : Below w.heap.size w wr






theorem kind_range (K : Int) : 0 ≤ (wrap64 (K.tmod 8 + 8)).tmod 8 ∧ (wrap64 (K.tmod 8 + 8)).tmod 8 < 8 := by
  have h1 : K.tmod 8 < 8 := Int.tmod_lt_of_pos _ (by omega)
  have h2 : -8 < K.tmod 8 := Int.lt_tmod_of_pos _ (by omega)
  have e : wrap64 (K.tmod 8 + 8) = K.tmod 8 + 8 := by unfold wrap64; omega
  rw [e, Int.tmod_eq_emod_of_nonneg (by omega)]
  omega
theorem took_lens (bs : List Int) (p : Nat) (err : Int) (c : Nat) : (took bs p err c).1 = [] ∨ (took bs p err c).1.length = c := by
  unfold took
  (repeat' split) <;> simp <;> omega
theorem took_le {bs : List Int} {p : Nat} {err n : Int} (h : bs.length ≤ 140737488351232) : (took bs p err n).1.length ≤ 140737488355328 := by
  unfold took
  (repeat' split) <;> simp <;> omega
theorem took_short4 {bs : List Int} {p : Nat} {err n : Int} (h : n ≤ 4) : (took bs p err n).1.length ≤ 4 := by
  have := took_len (bs := bs) (p := p) (err := err) (n := n)
  omega
theorem told_u {K : Int} {l : List Int} (h : K < 3) : toldN K l = numOf l := by simp [toldN, h]
theorem told_s1 {l : List Int} (h : l = [] ∨ l.length = 1) : toldN 3 l = sgn 128 (numOf l) := by
  rcases h with rfl | h
  · rfl
  · simp [toldN, h, half]
theorem told_s2 {l : List Int} (h : l = [] ∨ l.length = 2) : toldN 4 l = sgn 32768 (numOf l) := by
  rcases h with rfl | h
  · rfl
  · simp [toldN, h, half]
theorem told_s4 {l : List Int} (h : l = [] ∨ l.length = 4) : toldN 5 l = sgn 2147483648 (numOf l) := by
  rcases h with rfl | h
  · rfl
  · simp [toldN, h, half]
theorem sgn_lo {h x : Int} (hh : 0 < h) (h2 : h ≤ 2147483648) (hx : 0 ≤ x) : -2147483648 ≤ sgn h x := by unfold sgn; split <;> omega
theorem sgn_hi {h x : Int} (hh : 0 < h) (hx : x < 4294967296) : sgn h x < 4294967296 := by unfold sgn; split <;> omega

theorem ext3 (w : World) (a b c : Obj) : Ext w (((w.alloc a).alloc b).alloc c) := (((Ext.refl w).alloc a).alloc b).alloc c
/-- What stands in the world behind the Reader's own call: beside the rest the document's next Reader, what it told, what the Reader told. -/
structure Mid (w w8 : World) (rb rb2 mb B : Nat) (sv sv2 mv bv : Value) (gcs : Array Value) (bs bl : List Int) (p q : Nat) (err er x : Int) : Prop where
  r : Rd w8 rb sv bs q er
  s : Rd w8 rb2 sv2 bs 0 0
  m : Blk w8 mb #[mv, .int .i64 (p : Int), .int .i64 err] 38
  row : Row .u8 w8 mv bs
  bel : Below w.heap.size w w8
  n : Blk w8 B #[mv, .int .i64 (q : Int), .int .i64 er] 38
  t : Blk w8 (B + 1) #[.int .i64 x, bv] 42
  g : Blk w8 (B + 1 + 1) gcs 42
  trow : Row .u8 w8 bv bl
  rlt : rb < B
  slt : rb2 < B
  mlt : mb < B
  wlt : w.heap.size ≤ B

theorem Rd.grown2 {w w' : World} {rb r : Nat} {sv : Value} {bs : List Int} {p : Nat} {err : Int} (h : Rd w rb sv bs p err) (hg : w.grownBy w' (some r)) (hne : rb ≠ r) (hno : ∀ i n, w.cell? ⟨r, i, none⟩ ≠ some (.int .u8 n)) : Rd w' rb sv bs p err :=
  ⟨by rw [hg.block rb h.lt (by simpa using hne)]; exact h.blk, h.row.grown hg hno, h.le, h.len, h.byt⟩

theorem mid_call {w w5 w7 : World} {rb rb2 mb : Nat} {sv sv2 mv bv : Value} {bs bl : List Int} {p q : Nat} {err er x : Int} (h : Inv w w5 rb rb2 mb sv sv2 mv bs p err) (hb : Row .u8 w5 bv bl) (h7 : Rd w7 rb sv bs q er)
    (g7 : (((w5.alloc (.cells #[mv, .int .i64 (q : Int), .int .i64 er] 38)).alloc (.cells #[.int .i64 x, bv] 42)).alloc (.cells #[.int .i64 0, .slice none 0 0] 42)).grownBy w7 (some rb)) (hne : rb ≠ rb2) (hm1 : rb ≠ mb) (hs1 : w.heap.size ≤ rb) :
    Mid w w7 rb rb2 mb w5.heap.size sv sv2 mv bv #[.int .i64 0, .slice none 0 0] bs bl p q err er x := by
  have e := ext3 w5 (.cells #[mv, .int .i64 (q : Int), .int .i64 er] 38) (.cells #[.int .i64 x, bv] 42) (.cells #[.int .i64 0, .slice none 0 0] 42)
  have R := h.r.below e
  have l1 := h.r.lt
  have l2 := h.s.lt
  have l3 := h.m.lt
  have b0 : Blk _ w5.heap.size _ _ := (((Blk.new w5 #[mv, .int .i64 (q : Int), .int .i64 er] 38).alloc (.cells #[.int .i64 x, bv] 42)).alloc (.cells #[.int .i64 0, .slice none 0 0] 42))
  have b1 := (Blk.new (w5.alloc (.cells #[mv, .int .i64 (q : Int), .int .i64 er] 38)) #[.int .i64 x, bv] 42).alloc (.cells #[.int .i64 0, .slice none 0 0] 42)
  have b2 := Blk.new ((w5.alloc (.cells #[mv, .int .i64 (q : Int), .int .i64 er] 38)).alloc (.cells #[.int .i64 x, bv] 42)) #[.int .i64 0, .slice none 0 0] 42
  simp only [World.size_alloc] at b1 b2
  exact ⟨h7, (h.s.below e).other R (Ne.symm hne) g7, (h.m.ext e).grown g7 (Ne.symm hm1), (h.row.ext e).apart R g7, below_grown (h.bel.trans (e.mono h.bel.size)) g7 (Nat.le_trans h.bel.size e.size) hs1,
    b0.grown g7 (by omega), b1.grown g7 (by omega), b2.grown g7 (by omega), (hb.ext e).apart R g7, l1, l2, l3, h.bel.size⟩

/-- The document's Reader is laid anew, cell by cell. -/
structure InvC (w wr : World) (rb rb2 mb : Nat) (sv sv2 mv : Value) (cs : Array Value) (bs : List Int) (q : Nat) (er : Int) : Prop where
  r : Rd wr rb sv bs q er
  s : Rd wr rb2 sv2 bs 0 0
  m : Blk wr mb cs 38
  row : Row .u8 wr mv bs
  bel : Below w.heap.size w wr
theorem InvC.set {w wr : World} {rb rb2 mb : Nat} {sv sv2 mv : Value} {cs : Array Value} {bs : List Int} {q : Nat} {er : Int} (h : InvC w wr rb rb2 mb sv sv2 mv cs bs q er) (i : Nat) (v : Value) (hno : ∀ u ∈ cs.toList, ∀ n, u ≠ .int .u8 n) (h1 : rb ≠ mb) (h2 : rb2 ≠ mb) (h3 : w.heap.size ≤ mb) :
    InvC w (wr.setCell ⟨mb, i, none⟩ v) rb rb2 mb sv sv2 mv (cs.setIfInBounds i v) bs q er := by
  have g := grownBy_set wr mb i v
  have no := h.m.no hno
  exact ⟨h.r.grown2 g h1 no, h.s.grown2 g h2 no, h.m.set i v, h.row.grown g no, h.bel.setCell h3 v⟩
theorem Mid.next {w w8 : World} {rb rb2 mb B : Nat} {sv sv2 mv bv : Value} {gcs : Array Value} {bs bl : List Int} {p q : Nat} {err er x : Int} (h : Mid w w8 rb rb2 mb B sv sv2 mv bv gcs bs bl p q err er x) (n : Nat) (hmv : ∀ n, mv ≠ .int .u8 n) (h1 : rb ≠ mb) (h2 : rb2 ≠ mb) (h3 : w.heap.size ≤ mb) :
    Inv w ((((w8.drewN n).setCell ⟨mb, 0, none⟩ mv).setCell ⟨mb, 1, none⟩ (.int .i64 (q : Int))).setCell ⟨mb, 2, none⟩ (.int .i64 er)) rb rb2 mb sv sv2 mv bs q er := by
  have c0 : InvC w (w8.drewN n) rb rb2 mb sv sv2 mv #[mv, .int .i64 (p : Int), .int .i64 err] bs q er := ⟨h.r.drewN n, h.s.drewN n, h.m.drewN n, h.row.ext ((Ext.refl _).drewN n), below_drewN h.bel n⟩
  have c1 := c0.set 0 mv (by simpa using hmv) h1 h2 h3
  have c2 := c1.set 1 (.int .i64 (q : Int)) (by simpa using hmv) h1 h2 h3
  have c3 := c2.set 2 (.int .i64 er) (by simpa using hmv) h1 h2 h3
  exact ⟨c3.r, c3.s, c3.m, c3.row, c3.bel⟩

theorem Mid.setG {w w8 : World} {rb rb2 mb B : Nat} {sv sv2 mv bv : Value} {gcs : Array Value} {bs bl : List Int} {p q : Nat} {err er x : Int} (h : Mid w w8 rb rb2 mb B sv sv2 mv bv gcs bs bl p q err er x) (i : Nat) (v : Value) (hno : ∀ u ∈ gcs.toList, ∀ n, u ≠ .int .u8 n) :
    Mid w (w8.setCell ⟨B + 1 + 1, i, none⟩ v) rb rb2 mb B sv sv2 mv bv (gcs.setIfInBounds i v) bs bl p q err er x := by
  have g := grownBy_set w8 (B + 1 + 1) i v
  have no := h.g.no hno
  have l1 := h.rlt
  have l2 := h.slt
  have l3 := h.mlt
  have l4 := h.wlt
  exact ⟨h.r.grown2 g (by omega) no, h.s.grown2 g (by omega) no, h.m.grown g (by omega), h.row.grown g no, h.bel.setCell (show w.heap.size ≤ B + 1 + 1 by omega) v, h.n.grown g (by omega), h.t.grown g (by omega), h.g.set i v, h.trow.grown g no, l1, l2, l3, l4⟩

theorem Inv.ext {w wr w' : World} {rb rb2 mb : Nat} {sv sv2 mv : Value} {bs : List Int} {p : Nat} {err : Int} (h : Inv w wr rb rb2 mb sv sv2 mv bs p err) (hx : Ext wr w') : Inv w w' rb rb2 mb sv sv2 mv bs p err :=
  ⟨h.r.below hx, h.s.below hx, h.m.ext hx, h.row.ext hx, h.bel.trans (hx.mono h.bel.size)⟩
/-- What stands in the world behind Do: the call that was asked (a block of the round's own), the document's Reader, the two Readers. -/
theorem mid_of {w wr w5 : World} {rb rb2 mb : Nat} {sv sv2 mv : Value} {bs : List Int} {p : Nat} {err K n : Int} (h : Inv w wr rb rb2 mb sv sv2 mv bs p err) (hx : Ext (wr.alloc (.cells #[.int .i64 K, .int .i64 n] 40)) w5) :
    Blk w5 wr.heap.size #[.int .i64 K, .int .i64 n] 40 ∧ Inv w w5 rb rb2 mb sv sv2 mv bs p err := by
  have h1 : Ext wr w5 := ((Ext.refl wr).alloc _).trans hx
  exact ⟨(Blk.new _ _ _).ext hx, h.r.below h1, h.s.below h1, h.m.ext h1, h.row.ext h1, h.bel.trans (h1.mono h.bel.size)⟩

set_option maxRecDepth 100000 in
set_option maxHeartbeats 8000000 in
theorem reads_walk (v lv : Value) (bs : List Int) (ls : List (Int × Int)) (w : World) (hr : Row .u8 w v bs) (hl : RowP w lv ls) (hm : bs.length ≤ 140737488351232) (hlm : ls.length ≤ 140737488351232) (hB : Byt bs)
    (hw : ∀ x ∈ ls, -9223372036854775808 ≤ x.1 ∧ x.1 ≤ 9223372036854775807 ∧ x.2 ≤ 9223372036854775807) :
    Calls Try.prog 4 #[v, lv] w fun e w' => e = .returned (.bool true) ∧ Ext w w' := by
  have HR := hide hr
  have HL := hide hl
  obtain ⟨ao, cap, rfl, _⟩ := hr.shape
  obtain ⟨lo, lcap, rfl⟩ := hl.shape
  clear hr hl
  go_enter Try.func4, Try.ntmps4
  go_wp2_with fail
  refine (wakes_any w).mono ?_
  rintro e w1 ⟨rfl, hb1⟩
  have e1 : Hid (Ext w w1) := hb1
  clear hb1
  go_wp2_with fail
  refine (read_any _ bs _ ((unhide HR).ext (unhide e1)) (by omega) hB).mono ?_
  rintro e w2 ⟨rb, sv, rfl, hrb, hrd, hb2⟩
  have e2 : Hid (Ext w1 w2) := hb2
  have hs1 : w.heap.size ≤ rb := Nat.le_trans (unhide e1).size hrb
  have D1 := hide hrd
  clear hrb hrd hb2
  go_wp2_with fail
  refine (read_any _ bs _ ((unhide HR).ext ((unhide e1).trans (unhide e2))) (by omega) hB).mono ?_
  rintro e w3 ⟨rb2, sv2, rfl, hrb2, hrd2, hb3⟩
  have hne : rb ≠ rb2 := by have := (unhide D1).lt; omega
  have hs2 : w.heap.size ≤ rb2 := Nat.le_trans ((unhide e1).trans (unhide e2)).size hrb2
  have D2 : Hid (Rd w3 rb sv bs 0 0 ∧ Rd w3 rb2 sv2 bs 0 0 ∧ Ext w w3) := ⟨(unhide D1).below hb3, hrd2, (unhide e1).trans ((unhide e2).trans hb3)⟩
  clear hrb2 hrd2 hb3 D1
  go_wp2_with fail
  refine (both_any _ _ bs [] _ ((unhide HR).ext (unhide D2).2.2) (Row.nil _ _) (by simp; omega)).mono ?_
  rintro e w4 ⟨ao4, cap4, rfl, hown4, hb4⟩
  rw [List.append_nil] at hown4
  have e4 : Hid (Ext w3 w4) := hb4
  have hR4 := hide hown4.row
  clear hown4 hb4
  go_wp2
  have hI : Hid (Inv w (w4.alloc (.cells #[.slice ao4 bs.length cap4, .int .i64 0, .int .i64 0] 38)) rb rb2 w4.heap.size sv sv2 (.slice ao4 bs.length cap4) bs 0 0) :=
    ⟨((unhide D2).1.below (unhide e4)).below ((Below.refl _ _).alloc (Nat.le_refl _) _), ((unhide D2).2.1.below (unhide e4)).below ((Below.refl _ _).alloc (Nat.le_refl _) _), Blk.new _ _ _, (unhide hR4).ext ((Ext.refl _).alloc _), ((unhide D2).2.2.trans (unhide e4)).alloc _⟩
  have hm1 : rb ≠ w4.heap.size := by have := ((unhide D2).1.below (unhide e4)).lt; omega
  have hm2 : rb2 ≠ w4.heap.size := by have := ((unhide D2).2.1.below (unhide e4)).lt; omega
  have hm3 : w.heap.size ≤ w4.heap.size := ((unhide D2).2.2.trans (unhide e4)).size
  clear D2 e1 e2 e4 hR4
  generalize hmb : w4.heap.size = mb at *
  clear hmb
  go_loopw [24] (fun i wr => ∃ (k p : Nat) (err : Int), k ≤ ls.length ∧ i = .int .i64 k ∧ Inv w wr rb rb2 mb sv sv2 (.slice ao4 bs.length cap4) bs p err) (fun i _ => ls.length - (intOf i).toNat)
  case atStart => exact ⟨0, 0, 0, Nat.zero_le _, rfl, unhide hI⟩
  case round =>
    obtain ⟨k, p, err, hk, rfl, hinv⟩ := hrel
    have HI := hide hinv
    have HL2 := hide ((unhide HL).below hinv.bel)
    have hmlt := hinv.m.lt
    have c0 := hinv.m.cell (i := 0) rfl
    have c1 := hinv.m.cell (i := 1) rfl
    have c2 := hinv.m.cell (i := 2) rfl
    clear hinv hI
    by_cases hlt : k < ls.length
    · obtain ⟨b, off, rfl, ha0, ha1⟩ := (unhide HL2).at k hlt
      have hbd := hw ls[k] (List.getElem_mem hlt)
      by_cases h200 : k = 200
      · have hc200 : ((k : Int) == 200) = true := by simp [h200]
        clear h200
        generalize hx : ls[k] = x at *
        clear hx
        obtain ⟨K0, n⟩ := x
        simp only at ha0 ha1
        have hI2 : Hid (Inv w (wr.alloc (.cells #[.int .i64 K0, .int .i64 n] 40)) rb rb2 mb sv sv2 (.slice ao4 bs.length cap4) bs p err) := (unhide HI).ext ((Ext.refl _).alloc _)
        clear HI
        go_wp2_with fail
        refine (left_any (unhide hI2).s).mono ?_
        rintro e w6 ⟨rfl, n6, rfl⟩
        go_wp2_with fail
        refine (err_any ((unhide hI2).s.drewN _)).mono ?_
        rintro e w7 ⟨rfl, rfl⟩
        go_wp2
        go_ret
        exact ⟨rfl, below_drewN (unhide hI2).bel _⟩
      · have hc200 : ((k : Int) == 200) = false := by simp; omega
        clear h200
        generalize hx : ls[k] = x at *
        clear hx
        obtain ⟨K0, n⟩ := x
        simp only at ha0 ha1 hbd
        obtain ⟨hk0, hk1, hn1⟩ := hbd
        have HK := hide (kind_range K0)
        go_wp2_with fail
        generalize (wrap64 (K0.tmod 8 + 8)).tmod 8 = K at *
        have hK := unhide HK
        clear HK ha0 ha1 hk0 hk1
        have h8 : K = 0 ∨ K = 1 ∨ K = 2 ∨ K = 3 ∨ K = 4 ∨ K = 5 ∨ K = 6 ∨ K = 7 := by omega
        clear hK
        rcases h8 with rfl | rfl | rfl | rfl | rfl | rfl | rfl | rfl
        · -- a call of kind 0
          have HE : Hid (cnt 0 n = 1) := by simp [Hid, cnt]
          have HD := hide (do_any (.slice ao4 bs.length cap4) bs p err 0 n (wr.alloc (.cells #[.int .i64 0, .int .i64 n] 40)) ((unhide HI).row.ext ((Ext.refl _).alloc _)) (unhide HI).r.le (unhide HI).r.len hB hn1 (by omega) (by omega))
          unfold DoEnds at HD
          rw [unhide HE] at HD
          have HV : Hid (toldN 0 (took bs p err 1).1 = numOf (took bs p err 1).1) := told_u (by omega)
          rw [unhide HV, show toldB 0 (took bs p err 1).1 = [] from rfl] at HD
          have HM := hide (fun (W : World) (h : Rd W rb sv bs p err) => u8_any h)
          have hx0 : 0 ≤ numOf (took bs p err 1).1 := (numOf_le _ (took_byt hB) 4 (took_short4 (by omega))).1
          have hx1 : numOf (took bs p err 1).1 < 4294967296 := (numOf_le _ (took_byt hB) 4 (took_short4 (by omega))).2
          generalize numOf (took bs p err 1).1 = x at *
          generalize took bs p err 1 = t at *
          obtain ⟨cs, q, er⟩ := t
          simp only at HM HD
          clear HE HV
          refine (unhide HD).mono ?_
          rintro e w5 ⟨bv, rfl, hrow5, hx5⟩
          obtain ⟨bo, bcap, rfl, _⟩ := hrow5.shape
          have F := hide (mid_of (unhide HI) hx5)
          have hw5 : wr.heap.size < w5.heap.size := by have := hx5.size; simp at this; omega
          have hw5a : wr.heap.size < w5.heap.size + 1 := by omega
          have hw5b : wr.heap.size < w5.heap.size + 1 + 1 := by omega
          have ck := (unhide F).1.cell (i := 0) rfl
          have HB5 := hide hrow5
          clear hrow5 hx5 HD c0 c1 c2
          go_wp2_with fail
          have HQ := hide (And.intro ((unhide F).2.r.below (ext3 w5 (.cells #[.slice ao4 bs.length cap4, .int .i64 (q : Int), .int .i64 er] 38) (.cells #[.int .i64 x, .slice bo 0 bcap] 42) (.cells #[.int .i64 0, .slice none 0 0] 42))) trivial)
          refine (unhide HM _ (unhide HQ).1).mono ?_
          rintro e w7 ⟨rfl, h7, g7⟩
          have M7 := hide (mid_call (unhide F).2 (unhide HB5) h7 g7 hne hm1 hs1)
          have cg := (unhide M7).g.cell (i := 0) rfl
          have fg := (unhide M7).g.free 0
          clear h7 g7 HQ HM F HB5 hw5 hw5a hw5b ck HI
          go_wp2
          have M8 := hide ((unhide M7).setG 0 (.int .i64 x) (by simp))
          clear M7 cg fg
          have d0 := (unhide M8).g.cell (i := 0) rfl
          have d1 := (unhide M8).g.cell (i := 1) rfl
          have t0 := (unhide M8).t.cell (i := 0) rfl
          have t1 := (unhide M8).t.cell (i := 1) rfl
          have n0 := (unhide M8).n.cell (i := 0) rfl
          have n1 := (unhide M8).n.cell (i := 1) rfl
          have n2 := (unhide M8).n.cell (i := 2) rfl
          have m0 := (unhide M8).m.cell (i := 0) rfl
          have m1 := (unhide M8).m.cell (i := 1) rfl
          have m2 := (unhide M8).m.cell (i := 2) rfl
          have hq := (unhide M8).r.le
          have f0 := (unhide M8).m.free 0
          have f1 := (unhide M8).m.free 1
          have f2 := (unhide M8).m.free 2
          generalize w7.setCell ⟨w5.heap.size + 1 + 1, 0, none⟩ (.int .i64 x) = w8 at *
          go_quiet (first | (go_at_call 12; refine Calls.quiet_of (same_any _ _ [] [] _ (Row.nil _ _) (by exact (unhide M8).trow.ext ((Ext.refl _).drewN _)) (by simp))) | (go_at_call 24; refine Calls.quiet_of (left_any ((unhide M8).r.drewN _))) | (go_at_call 25; refine Calls.quiet_of_same (err_any ((unhide M8).r.drewN _))))
          clear d0 d1 t0 t1 hq
          go_wp2
          go_roundw
          case rel => exact ⟨k + 1, q, er, by omega, by go_num, (unhide M8).next _ (by simp) hm1 hm2 hm3⟩
          case measure => simp [intOf]; omega
        · -- a call of kind 1
          have HE : Hid (cnt 1 n = 2) := by simp [Hid, cnt]
          have HD := hide (do_any (.slice ao4 bs.length cap4) bs p err 1 n (wr.alloc (.cells #[.int .i64 1, .int .i64 n] 40)) ((unhide HI).row.ext ((Ext.refl _).alloc _)) (unhide HI).r.le (unhide HI).r.len hB hn1 (by omega) (by omega))
          unfold DoEnds at HD
          rw [unhide HE] at HD
          have HV : Hid (toldN 1 (took bs p err 2).1 = numOf (took bs p err 2).1) := told_u (by omega)
          rw [unhide HV, show toldB 1 (took bs p err 2).1 = [] from rfl] at HD
          have HM := hide (fun (W : World) (h : Rd W rb sv bs p err) => u16_any h)
          have hx0 : 0 ≤ numOf (took bs p err 2).1 := (numOf_le _ (took_byt hB) 4 (took_short4 (by omega))).1
          have hx1 : numOf (took bs p err 2).1 < 4294967296 := (numOf_le _ (took_byt hB) 4 (took_short4 (by omega))).2
          generalize numOf (took bs p err 2).1 = x at *
          generalize took bs p err 2 = t at *
          obtain ⟨cs, q, er⟩ := t
          simp only at HM HD
          clear HE HV
          refine (unhide HD).mono ?_
          rintro e w5 ⟨bv, rfl, hrow5, hx5⟩
          obtain ⟨bo, bcap, rfl, _⟩ := hrow5.shape
          have F := hide (mid_of (unhide HI) hx5)
          have hw5 : wr.heap.size < w5.heap.size := by have := hx5.size; simp at this; omega
          have hw5a : wr.heap.size < w5.heap.size + 1 := by omega
          have hw5b : wr.heap.size < w5.heap.size + 1 + 1 := by omega
          have ck := (unhide F).1.cell (i := 0) rfl
          have HB5 := hide hrow5
          clear hrow5 hx5 HD c0 c1 c2
          go_wp2_with fail
          have HQ := hide (And.intro ((unhide F).2.r.below (ext3 w5 (.cells #[.slice ao4 bs.length cap4, .int .i64 (q : Int), .int .i64 er] 38) (.cells #[.int .i64 x, .slice bo 0 bcap] 42) (.cells #[.int .i64 0, .slice none 0 0] 42))) trivial)
          refine (unhide HM _ (unhide HQ).1).mono ?_
          rintro e w7 ⟨rfl, h7, g7⟩
          have M7 := hide (mid_call (unhide F).2 (unhide HB5) h7 g7 hne hm1 hs1)
          have cg := (unhide M7).g.cell (i := 0) rfl
          have fg := (unhide M7).g.free 0
          clear h7 g7 HQ HM F HB5 hw5 hw5a hw5b ck HI
          go_wp2
          have M8 := hide ((unhide M7).setG 0 (.int .i64 x) (by simp))
          clear M7 cg fg
          have d0 := (unhide M8).g.cell (i := 0) rfl
          have d1 := (unhide M8).g.cell (i := 1) rfl
          have t0 := (unhide M8).t.cell (i := 0) rfl
          have t1 := (unhide M8).t.cell (i := 1) rfl
          have n0 := (unhide M8).n.cell (i := 0) rfl
          have n1 := (unhide M8).n.cell (i := 1) rfl
          have n2 := (unhide M8).n.cell (i := 2) rfl
          have m0 := (unhide M8).m.cell (i := 0) rfl
          have m1 := (unhide M8).m.cell (i := 1) rfl
          have m2 := (unhide M8).m.cell (i := 2) rfl
          have hq := (unhide M8).r.le
          have f0 := (unhide M8).m.free 0
          have f1 := (unhide M8).m.free 1
          have f2 := (unhide M8).m.free 2
          generalize w7.setCell ⟨w5.heap.size + 1 + 1, 0, none⟩ (.int .i64 x) = w8 at *
          go_quiet (first | (go_at_call 12; refine Calls.quiet_of (same_any _ _ [] [] _ (Row.nil _ _) (by exact (unhide M8).trow.ext ((Ext.refl _).drewN _)) (by simp))) | (go_at_call 24; refine Calls.quiet_of (left_any ((unhide M8).r.drewN _))) | (go_at_call 25; refine Calls.quiet_of_same (err_any ((unhide M8).r.drewN _))))
          clear d0 d1 t0 t1 hq
          go_wp2
          go_roundw
          case rel => exact ⟨k + 1, q, er, by omega, by go_num, (unhide M8).next _ (by simp) hm1 hm2 hm3⟩
          case measure => simp [intOf]; omega
        · -- a call of kind 2
          have HE : Hid (cnt 2 n = 4) := by simp [Hid, cnt]
          have HD := hide (do_any (.slice ao4 bs.length cap4) bs p err 2 n (wr.alloc (.cells #[.int .i64 2, .int .i64 n] 40)) ((unhide HI).row.ext ((Ext.refl _).alloc _)) (unhide HI).r.le (unhide HI).r.len hB hn1 (by omega) (by omega))
          unfold DoEnds at HD
          rw [unhide HE] at HD
          have HV : Hid (toldN 2 (took bs p err 4).1 = numOf (took bs p err 4).1) := told_u (by omega)
          rw [unhide HV, show toldB 2 (took bs p err 4).1 = [] from rfl] at HD
          have HM := hide (fun (W : World) (h : Rd W rb sv bs p err) => u32_any h)
          have hx0 : 0 ≤ numOf (took bs p err 4).1 := (numOf_le _ (took_byt hB) 4 (took_short4 (by omega))).1
          have hx1 : numOf (took bs p err 4).1 < 4294967296 := (numOf_le _ (took_byt hB) 4 (took_short4 (by omega))).2
          generalize numOf (took bs p err 4).1 = x at *
          generalize took bs p err 4 = t at *
          obtain ⟨cs, q, er⟩ := t
          simp only at HM HD
          clear HE HV
          refine (unhide HD).mono ?_
          rintro e w5 ⟨bv, rfl, hrow5, hx5⟩
          obtain ⟨bo, bcap, rfl, _⟩ := hrow5.shape
          have F := hide (mid_of (unhide HI) hx5)
          have hw5 : wr.heap.size < w5.heap.size := by have := hx5.size; simp at this; omega
          have hw5a : wr.heap.size < w5.heap.size + 1 := by omega
          have hw5b : wr.heap.size < w5.heap.size + 1 + 1 := by omega
          have ck := (unhide F).1.cell (i := 0) rfl
          have HB5 := hide hrow5
          clear hrow5 hx5 HD c0 c1 c2
          go_wp2_with fail
          have HQ := hide (And.intro ((unhide F).2.r.below (ext3 w5 (.cells #[.slice ao4 bs.length cap4, .int .i64 (q : Int), .int .i64 er] 38) (.cells #[.int .i64 x, .slice bo 0 bcap] 42) (.cells #[.int .i64 0, .slice none 0 0] 42))) trivial)
          refine (unhide HM _ (unhide HQ).1).mono ?_
          rintro e w7 ⟨rfl, h7, g7⟩
          have M7 := hide (mid_call (unhide F).2 (unhide HB5) h7 g7 hne hm1 hs1)
          have cg := (unhide M7).g.cell (i := 0) rfl
          have fg := (unhide M7).g.free 0
          clear h7 g7 HQ HM F HB5 hw5 hw5a hw5b ck HI
          go_wp2
          have M8 := hide ((unhide M7).setG 0 (.int .i64 x) (by simp))
          clear M7 cg fg
          have d0 := (unhide M8).g.cell (i := 0) rfl
          have d1 := (unhide M8).g.cell (i := 1) rfl
          have t0 := (unhide M8).t.cell (i := 0) rfl
          have t1 := (unhide M8).t.cell (i := 1) rfl
          have n0 := (unhide M8).n.cell (i := 0) rfl
          have n1 := (unhide M8).n.cell (i := 1) rfl
          have n2 := (unhide M8).n.cell (i := 2) rfl
          have m0 := (unhide M8).m.cell (i := 0) rfl
          have m1 := (unhide M8).m.cell (i := 1) rfl
          have m2 := (unhide M8).m.cell (i := 2) rfl
          have hq := (unhide M8).r.le
          have f0 := (unhide M8).m.free 0
          have f1 := (unhide M8).m.free 1
          have f2 := (unhide M8).m.free 2
          generalize w7.setCell ⟨w5.heap.size + 1 + 1, 0, none⟩ (.int .i64 x) = w8 at *
          go_quiet (first | (go_at_call 12; refine Calls.quiet_of (same_any _ _ [] [] _ (Row.nil _ _) (by exact (unhide M8).trow.ext ((Ext.refl _).drewN _)) (by simp))) | (go_at_call 24; refine Calls.quiet_of (left_any ((unhide M8).r.drewN _))) | (go_at_call 25; refine Calls.quiet_of_same (err_any ((unhide M8).r.drewN _))))
          clear d0 d1 t0 t1 hq
          go_wp2
          go_roundw
          case rel => exact ⟨k + 1, q, er, by omega, by go_num, (unhide M8).next _ (by simp) hm1 hm2 hm3⟩
          case measure => simp [intOf]; omega
        · -- a call of kind 3
          have HE : Hid (cnt 3 n = 1) := by simp [Hid, cnt]
          have HD := hide (do_any (.slice ao4 bs.length cap4) bs p err 3 n (wr.alloc (.cells #[.int .i64 3, .int .i64 n] 40)) ((unhide HI).row.ext ((Ext.refl _).alloc _)) (unhide HI).r.le (unhide HI).r.len hB hn1 (by omega) (by omega))
          unfold DoEnds at HD
          rw [unhide HE] at HD
          have HV : Hid (toldN 3 (took bs p err 1).1 = sgn 128 (numOf (took bs p err 1).1)) := told_s1 (took_lens bs p err 1)
          rw [unhide HV, show toldB 3 (took bs p err 1).1 = [] from rfl] at HD
          have HM := hide (fun (W : World) (h : Rd W rb sv bs p err) => i8_any h)
          have hx0 : -2147483648 ≤ sgn 128 (numOf (took bs p err 1).1) := sgn_lo (by omega) (by omega) (numOf_le _ (took_byt hB) 4 (took_short4 (by omega))).1
          have hx1 : sgn 128 (numOf (took bs p err 1).1) < 4294967296 := sgn_hi (by omega) (numOf_le _ (took_byt hB) 4 (took_short4 (by omega))).2
          generalize sgn 128 (numOf (took bs p err 1).1) = x at *
          generalize took bs p err 1 = t at *
          obtain ⟨cs, q, er⟩ := t
          simp only at HM HD
          clear HE HV
          refine (unhide HD).mono ?_
          rintro e w5 ⟨bv, rfl, hrow5, hx5⟩
          obtain ⟨bo, bcap, rfl, _⟩ := hrow5.shape
          have F := hide (mid_of (unhide HI) hx5)
          have hw5 : wr.heap.size < w5.heap.size := by have := hx5.size; simp at this; omega
          have hw5a : wr.heap.size < w5.heap.size + 1 := by omega
          have hw5b : wr.heap.size < w5.heap.size + 1 + 1 := by omega
          have ck := (unhide F).1.cell (i := 0) rfl
          have HB5 := hide hrow5
          clear hrow5 hx5 HD c0 c1 c2
          go_wp2_with fail
          have HQ := hide (And.intro ((unhide F).2.r.below (ext3 w5 (.cells #[.slice ao4 bs.length cap4, .int .i64 (q : Int), .int .i64 er] 38) (.cells #[.int .i64 x, .slice bo 0 bcap] 42) (.cells #[.int .i64 0, .slice none 0 0] 42))) trivial)
          refine (unhide HM _ (unhide HQ).1).mono ?_
          rintro e w7 ⟨rfl, h7, g7⟩
          have M7 := hide (mid_call (unhide F).2 (unhide HB5) h7 g7 hne hm1 hs1)
          have cg := (unhide M7).g.cell (i := 0) rfl
          have fg := (unhide M7).g.free 0
          clear h7 g7 HQ HM F HB5 hw5 hw5a hw5b ck HI
          go_wp2
          have M8 := hide ((unhide M7).setG 0 (.int .i64 x) (by simp))
          clear M7 cg fg
          have d0 := (unhide M8).g.cell (i := 0) rfl
          have d1 := (unhide M8).g.cell (i := 1) rfl
          have t0 := (unhide M8).t.cell (i := 0) rfl
          have t1 := (unhide M8).t.cell (i := 1) rfl
          have n0 := (unhide M8).n.cell (i := 0) rfl
          have n1 := (unhide M8).n.cell (i := 1) rfl
          have n2 := (unhide M8).n.cell (i := 2) rfl
          have m0 := (unhide M8).m.cell (i := 0) rfl
          have m1 := (unhide M8).m.cell (i := 1) rfl
          have m2 := (unhide M8).m.cell (i := 2) rfl
          have hq := (unhide M8).r.le
          have f0 := (unhide M8).m.free 0
          have f1 := (unhide M8).m.free 1
          have f2 := (unhide M8).m.free 2
          generalize w7.setCell ⟨w5.heap.size + 1 + 1, 0, none⟩ (.int .i64 x) = w8 at *
          go_quiet (first | (go_at_call 12; refine Calls.quiet_of (same_any _ _ [] [] _ (Row.nil _ _) (by exact (unhide M8).trow.ext ((Ext.refl _).drewN _)) (by simp))) | (go_at_call 24; refine Calls.quiet_of (left_any ((unhide M8).r.drewN _))) | (go_at_call 25; refine Calls.quiet_of_same (err_any ((unhide M8).r.drewN _))))
          clear d0 d1 t0 t1 hq
          go_wp2
          go_roundw
          case rel => exact ⟨k + 1, q, er, by omega, by go_num, (unhide M8).next _ (by simp) hm1 hm2 hm3⟩
          case measure => simp [intOf]; omega
        · -- a call of kind 4
          have HE : Hid (cnt 4 n = 2) := by simp [Hid, cnt]
          have HD := hide (do_any (.slice ao4 bs.length cap4) bs p err 4 n (wr.alloc (.cells #[.int .i64 4, .int .i64 n] 40)) ((unhide HI).row.ext ((Ext.refl _).alloc _)) (unhide HI).r.le (unhide HI).r.len hB hn1 (by omega) (by omega))
          unfold DoEnds at HD
          rw [unhide HE] at HD
          have HV : Hid (toldN 4 (took bs p err 2).1 = sgn 32768 (numOf (took bs p err 2).1)) := told_s2 (took_lens bs p err 2)
          rw [unhide HV, show toldB 4 (took bs p err 2).1 = [] from rfl] at HD
          have HM := hide (fun (W : World) (h : Rd W rb sv bs p err) => i16_any h)
          have hx0 : -2147483648 ≤ sgn 32768 (numOf (took bs p err 2).1) := sgn_lo (by omega) (by omega) (numOf_le _ (took_byt hB) 4 (took_short4 (by omega))).1
          have hx1 : sgn 32768 (numOf (took bs p err 2).1) < 4294967296 := sgn_hi (by omega) (numOf_le _ (took_byt hB) 4 (took_short4 (by omega))).2
          generalize sgn 32768 (numOf (took bs p err 2).1) = x at *
          generalize took bs p err 2 = t at *
          obtain ⟨cs, q, er⟩ := t
          simp only at HM HD
          clear HE HV
          refine (unhide HD).mono ?_
          rintro e w5 ⟨bv, rfl, hrow5, hx5⟩
          obtain ⟨bo, bcap, rfl, _⟩ := hrow5.shape
          have F := hide (mid_of (unhide HI) hx5)
          have hw5 : wr.heap.size < w5.heap.size := by have := hx5.size; simp at this; omega
          have hw5a : wr.heap.size < w5.heap.size + 1 := by omega
          have hw5b : wr.heap.size < w5.heap.size + 1 + 1 := by omega
          have ck := (unhide F).1.cell (i := 0) rfl
          have HB5 := hide hrow5
          clear hrow5 hx5 HD c0 c1 c2
          go_wp2_with fail
          have HQ := hide (And.intro ((unhide F).2.r.below (ext3 w5 (.cells #[.slice ao4 bs.length cap4, .int .i64 (q : Int), .int .i64 er] 38) (.cells #[.int .i64 x, .slice bo 0 bcap] 42) (.cells #[.int .i64 0, .slice none 0 0] 42))) trivial)
          refine (unhide HM _ (unhide HQ).1).mono ?_
          rintro e w7 ⟨rfl, h7, g7⟩
          have M7 := hide (mid_call (unhide F).2 (unhide HB5) h7 g7 hne hm1 hs1)
          have cg := (unhide M7).g.cell (i := 0) rfl
          have fg := (unhide M7).g.free 0
          clear h7 g7 HQ HM F HB5 hw5 hw5a hw5b ck HI
          go_wp2
          have M8 := hide ((unhide M7).setG 0 (.int .i64 x) (by simp))
          clear M7 cg fg
          have d0 := (unhide M8).g.cell (i := 0) rfl
          have d1 := (unhide M8).g.cell (i := 1) rfl
          have t0 := (unhide M8).t.cell (i := 0) rfl
          have t1 := (unhide M8).t.cell (i := 1) rfl
          have n0 := (unhide M8).n.cell (i := 0) rfl
          have n1 := (unhide M8).n.cell (i := 1) rfl
          have n2 := (unhide M8).n.cell (i := 2) rfl
          have m0 := (unhide M8).m.cell (i := 0) rfl
          have m1 := (unhide M8).m.cell (i := 1) rfl
          have m2 := (unhide M8).m.cell (i := 2) rfl
          have hq := (unhide M8).r.le
          have f0 := (unhide M8).m.free 0
          have f1 := (unhide M8).m.free 1
          have f2 := (unhide M8).m.free 2
          generalize w7.setCell ⟨w5.heap.size + 1 + 1, 0, none⟩ (.int .i64 x) = w8 at *
          go_quiet (first | (go_at_call 12; refine Calls.quiet_of (same_any _ _ [] [] _ (Row.nil _ _) (by exact (unhide M8).trow.ext ((Ext.refl _).drewN _)) (by simp))) | (go_at_call 24; refine Calls.quiet_of (left_any ((unhide M8).r.drewN _))) | (go_at_call 25; refine Calls.quiet_of_same (err_any ((unhide M8).r.drewN _))))
          clear d0 d1 t0 t1 hq
          go_wp2
          go_roundw
          case rel => exact ⟨k + 1, q, er, by omega, by go_num, (unhide M8).next _ (by simp) hm1 hm2 hm3⟩
          case measure => simp [intOf]; omega
        · -- a call of kind 5
          have HE : Hid (cnt 5 n = 4) := by simp [Hid, cnt]
          have HD := hide (do_any (.slice ao4 bs.length cap4) bs p err 5 n (wr.alloc (.cells #[.int .i64 5, .int .i64 n] 40)) ((unhide HI).row.ext ((Ext.refl _).alloc _)) (unhide HI).r.le (unhide HI).r.len hB hn1 (by omega) (by omega))
          unfold DoEnds at HD
          rw [unhide HE] at HD
          have HV : Hid (toldN 5 (took bs p err 4).1 = sgn 2147483648 (numOf (took bs p err 4).1)) := told_s4 (took_lens bs p err 4)
          rw [unhide HV, show toldB 5 (took bs p err 4).1 = [] from rfl] at HD
          have HM := hide (fun (W : World) (h : Rd W rb sv bs p err) => i32_any h)
          have hx0 : -2147483648 ≤ sgn 2147483648 (numOf (took bs p err 4).1) := sgn_lo (by omega) (by omega) (numOf_le _ (took_byt hB) 4 (took_short4 (by omega))).1
          have hx1 : sgn 2147483648 (numOf (took bs p err 4).1) < 4294967296 := sgn_hi (by omega) (numOf_le _ (took_byt hB) 4 (took_short4 (by omega))).2
          generalize sgn 2147483648 (numOf (took bs p err 4).1) = x at *
          generalize took bs p err 4 = t at *
          obtain ⟨cs, q, er⟩ := t
          simp only at HM HD
          clear HE HV
          refine (unhide HD).mono ?_
          rintro e w5 ⟨bv, rfl, hrow5, hx5⟩
          obtain ⟨bo, bcap, rfl, _⟩ := hrow5.shape
          have F := hide (mid_of (unhide HI) hx5)
          have hw5 : wr.heap.size < w5.heap.size := by have := hx5.size; simp at this; omega
          have hw5a : wr.heap.size < w5.heap.size + 1 := by omega
          have hw5b : wr.heap.size < w5.heap.size + 1 + 1 := by omega
          have ck := (unhide F).1.cell (i := 0) rfl
          have HB5 := hide hrow5
          clear hrow5 hx5 HD c0 c1 c2
          go_wp2_with fail
          have HQ := hide (And.intro ((unhide F).2.r.below (ext3 w5 (.cells #[.slice ao4 bs.length cap4, .int .i64 (q : Int), .int .i64 er] 38) (.cells #[.int .i64 x, .slice bo 0 bcap] 42) (.cells #[.int .i64 0, .slice none 0 0] 42))) trivial)
          refine (unhide HM _ (unhide HQ).1).mono ?_
          rintro e w7 ⟨rfl, h7, g7⟩
          have M7 := hide (mid_call (unhide F).2 (unhide HB5) h7 g7 hne hm1 hs1)
          have cg := (unhide M7).g.cell (i := 0) rfl
          have fg := (unhide M7).g.free 0
          clear h7 g7 HQ HM F HB5 hw5 hw5a hw5b ck HI
          go_wp2
          have M8 := hide ((unhide M7).setG 0 (.int .i64 x) (by simp))
          clear M7 cg fg
          have d0 := (unhide M8).g.cell (i := 0) rfl
          have d1 := (unhide M8).g.cell (i := 1) rfl
          have t0 := (unhide M8).t.cell (i := 0) rfl
          have t1 := (unhide M8).t.cell (i := 1) rfl
          have n0 := (unhide M8).n.cell (i := 0) rfl
          have n1 := (unhide M8).n.cell (i := 1) rfl
          have n2 := (unhide M8).n.cell (i := 2) rfl
          have m0 := (unhide M8).m.cell (i := 0) rfl
          have m1 := (unhide M8).m.cell (i := 1) rfl
          have m2 := (unhide M8).m.cell (i := 2) rfl
          have hq := (unhide M8).r.le
          have f0 := (unhide M8).m.free 0
          have f1 := (unhide M8).m.free 1
          have f2 := (unhide M8).m.free 2
          generalize w7.setCell ⟨w5.heap.size + 1 + 1, 0, none⟩ (.int .i64 x) = w8 at *
          go_quiet (first | (go_at_call 12; refine Calls.quiet_of (same_any _ _ [] [] _ (Row.nil _ _) (by exact (unhide M8).trow.ext ((Ext.refl _).drewN _)) (by simp))) | (go_at_call 24; refine Calls.quiet_of (left_any ((unhide M8).r.drewN _))) | (go_at_call 25; refine Calls.quiet_of_same (err_any ((unhide M8).r.drewN _))))
          clear d0 d1 t0 t1 hq
          go_wp2
          go_roundw
          case rel => exact ⟨k + 1, q, er, by omega, by go_num, (unhide M8).next _ (by simp) hm1 hm2 hm3⟩
          case measure => simp [intOf]; omega
        · -- a call of kind 6
          have HE : Hid (cnt 6 n = n) := by simp [Hid, cnt]
          have HD := hide (do_any (.slice ao4 bs.length cap4) bs p err 6 n (wr.alloc (.cells #[.int .i64 6, .int .i64 n] 40)) ((unhide HI).row.ext ((Ext.refl _).alloc _)) (unhide HI).r.le (unhide HI).r.len hB hn1 (by omega) (by omega))
          unfold DoEnds at HD
          rw [unhide HE] at HD
          have HV : Hid (toldN 6 (took bs p err n).1 = 0) := by simp [Hid, toldN]
          rw [unhide HV, show toldB 6 (took bs p err n).1 = (took bs p err n).1 from rfl] at HD
          have HM := hide (fun (W : World) (h : Rd W rb sv bs p err) => raw_any h n)
          have hcs : (took bs p err n).1.length ≤ 140737488355328 := took_le hm
          generalize took bs p err n = t at *
          obtain ⟨cs, q, er⟩ := t
          simp only at HM HD hcs
          clear HE HV
          refine (unhide HD).mono ?_
          rintro e w5 ⟨bv, rfl, hrow5, hx5⟩
          obtain ⟨bo, bcap, rfl, _⟩ := hrow5.shape
          have F := hide (mid_of (unhide HI) hx5)
          have hw5 : wr.heap.size < w5.heap.size := by have := hx5.size; simp at this; omega
          have hw5a : wr.heap.size < w5.heap.size + 1 := by omega
          have hw5b : wr.heap.size < w5.heap.size + 1 + 1 := by omega
          have ck := (unhide F).1.cell (i := 0) rfl
          have ck1 := (unhide F).1.cell (i := 1) rfl
          have HB5 := hide hrow5
          clear hrow5 hx5 HD c0 c1 c2
          go_wp2_with fail
          have HQ := hide (And.intro ((unhide F).2.r.below (ext3 w5 (.cells #[.slice ao4 bs.length cap4, .int .i64 (q : Int), .int .i64 er] 38) (.cells #[.int .i64 0, .slice bo cs.length bcap] 42) (.cells #[.int .i64 0, .slice none 0 0] 42))) trivial)
          refine (unhide HM _ (unhide HQ).1).mono ?_
          rintro e w7 ⟨go, gcap, rfl, hgr, h7, g7⟩
          have M7 := hide (mid_call (unhide F).2 (unhide HB5) h7 g7 hne hm1 hs1)
          have HG := hide (hgr.grown (grownBy_set w7 (w5.heap.size + 1 + 1) 1 (.slice go cs.length gcap)) ((unhide M7).g.no (by simp)))
          have cg := (unhide M7).g.cell (i := 1) rfl
          have fg := (unhide M7).g.free 1
          clear h7 g7 hgr HQ HM F HB5 hw5 hw5a hw5b ck ck1 HI
          go_wp2
          have M8 := hide ((unhide M7).setG 1 (.slice go cs.length gcap) (by simp))
          clear M7 cg fg
          have d0 := (unhide M8).g.cell (i := 0) rfl
          have d1 := (unhide M8).g.cell (i := 1) rfl
          have t0 := (unhide M8).t.cell (i := 0) rfl
          have t1 := (unhide M8).t.cell (i := 1) rfl
          have n0 := (unhide M8).n.cell (i := 0) rfl
          have n1 := (unhide M8).n.cell (i := 1) rfl
          have n2 := (unhide M8).n.cell (i := 2) rfl
          have m0 := (unhide M8).m.cell (i := 0) rfl
          have m1 := (unhide M8).m.cell (i := 1) rfl
          have m2 := (unhide M8).m.cell (i := 2) rfl
          have hq := (unhide M8).r.le
          have f0 := (unhide M8).m.free 0
          have f1 := (unhide M8).m.free 1
          have f2 := (unhide M8).m.free 2
          generalize w7.setCell ⟨w5.heap.size + 1 + 1, 1, none⟩ (.slice go cs.length gcap) = w8 at *
          go_quiet (first | (go_at_call 12; refine Calls.quiet_of (same_any _ _ cs cs _ (by exact (unhide HG).ext ((Ext.refl _).drewN _)) (by exact (unhide M8).trow.ext ((Ext.refl _).drewN _)) (by omega))) | (go_at_call 24; refine Calls.quiet_of (left_any ((unhide M8).r.drewN _))) | (go_at_call 25; refine Calls.quiet_of_same (err_any ((unhide M8).r.drewN _))))
          clear d0 d1 t0 t1 hq
          go_wp2
          go_roundw
          case rel => exact ⟨k + 1, q, er, by omega, by go_num, (unhide M8).next _ (by simp) hm1 hm2 hm3⟩
          case measure => simp [intOf]; omega
        · -- a call of kind 7
          have HE : Hid (cnt 7 n = n) := by simp [Hid, cnt]
          have HD := hide (do_any (.slice ao4 bs.length cap4) bs p err 7 n (wr.alloc (.cells #[.int .i64 7, .int .i64 n] 40)) ((unhide HI).row.ext ((Ext.refl _).alloc _)) (unhide HI).r.le (unhide HI).r.len hB hn1 (by omega) (by omega))
          unfold DoEnds at HD
          rw [unhide HE] at HD
          have HV : Hid (toldN 7 (took bs p err n).1 = 0) := by simp [Hid, toldN]
          rw [unhide HV, show toldB 7 (took bs p err n).1 = [] from rfl] at HD
          have HM := hide (fun (W : World) (h : Rd W rb sv bs p err) => skip_any h n)
          have hcs : (took bs p err n).1.length ≤ 140737488355328 := took_le hm
          generalize took bs p err n = t at *
          obtain ⟨cs, q, er⟩ := t
          simp only at HM HD hcs
          clear HE HV
          refine (unhide HD).mono ?_
          rintro e w5 ⟨bv, rfl, hrow5, hx5⟩
          obtain ⟨bo, bcap, rfl, _⟩ := hrow5.shape
          have F := hide (mid_of (unhide HI) hx5)
          have hw5 : wr.heap.size < w5.heap.size := by have := hx5.size; simp at this; omega
          have hw5a : wr.heap.size < w5.heap.size + 1 := by omega
          have hw5b : wr.heap.size < w5.heap.size + 1 + 1 := by omega
          have ck := (unhide F).1.cell (i := 0) rfl
          have ck1 := (unhide F).1.cell (i := 1) rfl
          have HB5 := hide hrow5
          clear hrow5 hx5 HD c0 c1 c2
          go_wp2_with fail
          have HQ := hide (And.intro ((unhide F).2.r.below (ext3 w5 (.cells #[.slice ao4 bs.length cap4, .int .i64 (q : Int), .int .i64 er] 38) (.cells #[.int .i64 0, .slice bo 0 bcap] 42) (.cells #[.int .i64 0, .slice none 0 0] 42))) trivial)
          refine (unhide HM _ (unhide HQ).1).mono ?_
          rintro e w7 ⟨rfl, h7, g7⟩
          have M8 := hide (mid_call (unhide F).2 (unhide HB5) h7 g7 hne hm1 hs1)
          clear h7 g7 HQ HM F HB5 hw5 hw5a hw5b ck ck1 HI
          go_wp2
          have d0 := (unhide M8).g.cell (i := 0) rfl
          have d1 := (unhide M8).g.cell (i := 1) rfl
          have t0 := (unhide M8).t.cell (i := 0) rfl
          have t1 := (unhide M8).t.cell (i := 1) rfl
          have n0 := (unhide M8).n.cell (i := 0) rfl
          have n1 := (unhide M8).n.cell (i := 1) rfl
          have n2 := (unhide M8).n.cell (i := 2) rfl
          have m0 := (unhide M8).m.cell (i := 0) rfl
          have m1 := (unhide M8).m.cell (i := 1) rfl
          have m2 := (unhide M8).m.cell (i := 2) rfl
          have hq := (unhide M8).r.le
          have f0 := (unhide M8).m.free 0
          have f1 := (unhide M8).m.free 1
          have f2 := (unhide M8).m.free 2
          skip
          go_quiet (first | (go_at_call 12; refine Calls.quiet_of (same_any _ _ [] [] _ (Row.nil _ _) (by exact (unhide M8).trow.ext ((Ext.refl _).drewN _)) (by simp))) | (go_at_call 24; refine Calls.quiet_of (left_any ((unhide M8).r.drewN _))) | (go_at_call 25; refine Calls.quiet_of_same (err_any ((unhide M8).r.drewN _))))
          clear d0 d1 t0 t1 hq
          go_wp2
          go_roundw
          case rel => exact ⟨k + 1, q, er, by omega, by go_num, (unhide M8).next _ (by simp) hm1 hm2 hm3⟩
          case measure => simp [intOf]; omega
    · go_wp2_with fail
      refine (left_any (unhide HI).s).mono ?_
      rintro e w6 ⟨rfl, n6, rfl⟩
      go_wp2_with fail
      refine (err_any ((unhide HI).s.drewN _)).mono ?_
      rintro e w7 ⟨rfl, rfl⟩
      go_wp2
      go_ret
      exact ⟨rfl, below_drewN (unhide HI).bel _⟩
end Go.Proofs.Ytbjjoidobnfghaa
