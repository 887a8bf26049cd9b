/-
  The walks of octet's Reader: what each call does to the block of three cells (where it is, its bytes, its error). What the dump lacks is left out.
-/
import Derived.Test.YtmigakbccmkjoaaW1
import Derived.Deep.QuietTactic
import Derived.BigQuiet
namespace Go.Proofs.Ytmigakbccmkjoaa
open Go.RowKit

/-- Block rb is a Reader over the bytes bs (its slice is sv), at the place 'p', with the error err. -/
structure Rd (w : World) (rb : Nat) (sv : Value) (bs : List Int) (p : Nat) (err : Int) : Prop where
  blk : w.heap[rb]? = some (.cells #[.int .i64 (p : Int), sv, .int .i64 err] 99 (0, 0))
  row : Row .u8 w sv bs
  le : p ≤ bs.length
  len : bs.length ≤ 140737488355328
  byt : Byt bs

section
variable {w w' : World} {rb : Nat} {sv : Value} {bs : List Int} {p : Nat} {err : Int}

theorem Rd.c0 (h : Rd w rb sv bs p err) : w.cell? ⟨rb, 0, none⟩ = some (.int .i64 (p : Int)) := by simp [World.cell?, h.blk]
theorem Rd.c1 (h : Rd w rb sv bs p err) : w.cell? ⟨rb, 1, none⟩ = some sv := by simp [World.cell?, h.blk]
theorem Rd.c2 (h : Rd w rb sv bs p err) : w.cell? ⟨rb, 2, none⟩ = some (.int .i64 err) := by simp [World.cell?, h.blk]
theorem Rd.fr (h : Rd w rb sv bs p err) (i : Nat) : w.frozen? ⟨rb, i, none⟩ = false := by simp [World.frozen?, h.blk]
theorem Rd.lt (h : Rd w rb sv bs p err) : rb < w.heap.size := (Array.getElem?_eq_some_iff.1 h.blk).1

/-- A row of bytes does not lie in a Reader's block. -/
theorem Row.apart {v : Value} {xs : List Int} (hr : Row .u8 w v xs) (h : Rd w rb sv bs p err) (hg : w.grownBy w' (some rb)) : Row .u8 w' v xs := by
  rcases hr with hr | ⟨hne, b, off, cap, rfl, hl, hm, hc⟩
  · exact .inl hr
  · have hb : b ≠ rb := by
      intro e
      subst e
      have h0 := hc 0 (List.length_pos_iff.2 hne)
      obtain ⟨s1, n1, rfl, _⟩ := h.row.shape
      simp only [World.cell?, h.blk] at h0
      match off, h0 with
      | 0, h0 => simp at h0
      | 1, h0 => simp at h0
      | 2, h0 => simp at h0
      | n + 3, h0 => simp at h0
    refine .inr ⟨hne, b, off, cap, rfl, hl, hm, fun i hi => ?_⟩
    rw [World.cell?_of_block (w := w) (hg.block b (World.block_lt_of_cell? w _ (hc i hi)) (by simpa using hb))]
    exact hc i hi

theorem Rd.below (h : Rd w rb sv bs p err) (hb : Below w.heap.size w w') : Rd w' rb sv bs p err :=
  ⟨by rw [hb.block rb h.lt]; exact h.blk, h.row.below hb, h.le, h.len, h.byt⟩

/-- Another Reader's turn leaves this one as it was. -/
theorem Rd.other {rb2 : Nat} {sv2 : Value} {bs2 : List Int} {p2 : Nat} {err2 : Int} (h : Rd w rb sv bs p err) (h2 : Rd w rb2 sv2 bs2 p2 err2) (hne : rb ≠ rb2) (hg : w.grownBy w' (some rb2)) : Rd w' rb sv bs p err :=
  ⟨by rw [hg.block rb h.lt (by simpa using hne)]; exact h.blk, h.row.apart h2 hg, h.le, h.len, h.byt⟩

theorem grownBy_setCell (w : World) (b i : Nat) (v : Value) : w.grownBy (w.setCell ⟨b, i, none⟩ v) (some b) :=
  ⟨rfl, rfl, rfl, by simp, fun k _ hk => heap_setCell_other _ _ _ _ (by simpa using hk)⟩
theorem grownBy_drewN {w w' : World} {r : Option Nat} (h : w.grownBy w' r) (n : Nat) : w.grownBy (w'.drewN n) r := ⟨h.os, h.tape, h.output, h.size, h.block⟩

theorem drew_set (w : World) (a : Addr) (v : Value) (k n : Nat) : ((w.drewN k).setCell a v).drewN n = (w.setCell a v).drewN (k + n) := by simp [World.drewN, World.setCell, Nat.add_assoc]
theorem Rd.setErr (h : Rd w rb sv bs p err) (e : Int) : Rd (w.setCell ⟨rb, 2, none⟩ (.int .i64 e)) rb sv bs p e :=
  ⟨by rw [heap_setCell_same w rb 2 _ _ _ h.blk]; simp, h.row.apart h (grownBy_setCell w rb 2 _), h.le, h.len, h.byt⟩
theorem Rd.setAt (h : Rd w rb sv bs p err) (q : Nat) (hq : q ≤ bs.length) : Rd (w.setCell ⟨rb, 0, none⟩ (.int .i64 (q : Int))) rb sv bs q err :=
  ⟨by rw [heap_setCell_same w rb 0 _ _ _ h.blk]; simp, h.row.apart h (grownBy_setCell w rb 0 _), hq, h.len, h.byt⟩
theorem Rd.drewN (h : Rd w rb sv bs p err) (n : Nat) : Rd (w.drewN n) rb sv bs p err := h.below (below_drewN (Below.refl _ _) n)
end

set_option maxHeartbeats 400000 in
theorem err_any {w : World} {rb : Nat} {sv : Value} {bs : List Int} {p : Nat} {err : Int} (h : Rd w rb sv bs p err) :
    Calls Try.prog 33 #[.pointer (some ⟨rb, 0, none⟩)] w fun e w' => e = .returned (.int .i64 err) ∧ w' = w := by
  have h2 := h.c2
  clear h
  go_enter Try.func33, Try.ntmps33
  go_wp2
  go_ret
  exact ⟨rfl, rfl⟩

set_option maxHeartbeats 400000 in
theorem left_any {w : World} {rb : Nat} {sv : Value} {bs : List Int} {p : Nat} {err : Int} (h : Rd w rb sv bs p err) :
    Calls Try.prog 66 #[.pointer (some ⟨rb, 0, none⟩)] w fun e w' => e = .returned (.int .i64 ((bs.length : Int) - (p : Int))) ∧ ∃ n, w' = w.drewN n := by
  have h0 := h.c0
  have h1 := h.c1
  have hle := h.le
  have hlen := h.len
  obtain ⟨ao, cap, rfl, _, hl, hcm⟩ := h.row.shape
  clear h
  go_enter Try.func66, Try.ntmps66
  go_wp2
  go_quiet (fail)
  go_wp2
  go_ret
  exact ⟨rfl, _, rfl⟩

/-- What 'take' answers, the place and the error behind it. -/
def took (bs : List Int) (p : Nat) (err n : Int) : List Int × Nat × Int :=
  if err ≠ 0 then ([], p, err) else if n < 0 then ([], p, 2) else if (bs.length : Int) - p < n then ([], p, 7) else ((bs.drop p).take n.toNat, p + n.toNat, 0)

theorem took_err {bs : List Int} {p : Nat} {err n : Int} (h : err ≠ 0) : took bs p err n = ([], p, err) := by simp [took, h]
theorem took_neg {bs : List Int} {p : Nat} {n : Int} (h : n < 0) : took bs p 0 n = ([], p, 2) := by simp [took, h]
theorem took_short {bs : List Int} {p : Nat} {n : Int} (h : 0 ≤ n) (h2 : (bs.length : Int) - p < n) : took bs p 0 n = ([], p, 7) := by
  have h' : ¬ n < 0 := by omega
  simp [took, h', h2]
theorem took_full {bs : List Int} {p : Nat} {n : Int} (h : 0 ≤ n) (h2 : n ≤ (bs.length : Int) - p) : took bs p 0 n = ((bs.drop p).take n.toNat, p + n.toNat, 0) := by
  have h' : ¬ n < 0 := by omega
  have h2' : ¬ (bs.length : Int) - p < n := by omega
  simp [took, h', h2']

theorem took_byt {bs : List Int} {p : Nat} {err n : Int} (h : Byt bs) : Byt (took bs p err n).1 := by
  unfold took
  (repeat' split) <;> first | exact h.cut _ _ | (intro x hx; cases hx)
theorem took_len {bs : List Int} {p : Nat} {err n : Int} : ((took bs p err n).1.length : Int) ≤ max n 0 := by
  unfold took
  (repeat' split) <;> simp <;> omega

/-- A piece of a row, as the slice expression makes it. -/
theorem Row.cut {k : IntKind} {w : World} {ao : Option Addr} {cap : Nat} {xs : List Int} (h : Row k w (.slice ao xs.length cap) xs) (p m : Nat) (hpm : p + m ≤ xs.length) (ao' : Option Addr)
    (h1 : ∀ b off, ao = some ⟨b, off, none⟩ → 0 < m → ao' = some ⟨b, off + p, none⟩) (h2 : ao' = none → cap - p = 0) : Row k w (.slice ao' m (cap - p)) ((xs.drop p).take m) := by
  have hl : ((xs.drop p).take m).length = m := by simp; omega
  have hsh := h.shape
  obtain ⟨_, _, hx, _, hlc, hcm⟩ := hsh
  cases hx
  by_cases hm : m = 0
  · subst hm
    exact .inl ⟨by simp, ao', cap - p, rfl, h2, by omega⟩
  · rcases h with ⟨h0, _⟩ | ⟨hne, b, off, c, hv, hl2, hm2, hc⟩
    · subst h0
      simp at hpm
      omega
    · cases hv
      have e := h1 b off rfl (by omega)
      subst e
      refine .inr ⟨fun h => by rw [h] at hl; simp at hl; omega, b, off + p, cap - p, by rw [hl], by omega, by omega, fun i hi => ?_⟩
      rw [hl] at hi
      rw [Nat.add_assoc, hc (p + i) (by omega)]
      have e2 : ((xs.drop p).take m).getD i 0 = xs.getD (p + i) 0 := by
        simp [List.getD, hi]
      rw [e2]

set_option maxHeartbeats 400000 in
theorem take_err {w : World} {rb : Nat} {sv : Value} {bs : List Int} {p : Nat} {err : Int} (h : Rd w rb sv bs p err) (n : Int) (he : err ≠ 0) :
    Calls Try.prog 65 #[.pointer (some ⟨rb, 0, none⟩), .int .i64 n] w fun e w' => e = .returned (.slice none 0 0) ∧ w' = w := by
  have hb : (err != 0) = true := by simpa using he
  go_enter Try.func65, Try.ntmps65
  go_wp2_with (go_at_call 33; refine (err_any h).mono ?_; rintro e w' ⟨rfl, rfl⟩)
  go_ret
  exact ⟨rfl, rfl⟩

set_option maxHeartbeats 400000 in
theorem take_neg {w : World} {rb : Nat} {sv : Value} {bs : List Int} {p : Nat} (h : Rd w rb sv bs p 0) (n : Int) (hn : n < 0) :
    Calls Try.prog 65 #[.pointer (some ⟨rb, 0, none⟩), .int .i64 n] w fun e w' => e = .returned (.slice none 0 0) ∧ w' = w.setCell ⟨rb, 2, none⟩ (.int .i64 2) := by
  have h2 := h.c2
  have hf := h.fr 2
  go_enter Try.func65, Try.ntmps65
  go_wp2_with (go_at_call 33; refine (err_any h).mono ?_; rintro e w' ⟨rfl, rfl⟩)
  go_ret
  exact ⟨rfl, rfl⟩

set_option maxHeartbeats 400000 in
theorem take_short {w : World} {rb : Nat} {sv : Value} {bs : List Int} {p : Nat} (h : Rd w rb sv bs p 0) (n : Int) (hn : 0 ≤ n) (hs : (bs.length : Int) - p < n) :
    Calls Try.prog 65 #[.pointer (some ⟨rb, 0, none⟩), .int .i64 n] w fun e w' => e = .returned (.slice none 0 0) ∧ ∃ k, w' = (w.drewN k).setCell ⟨rb, 2, none⟩ (.int .i64 7) := by
  have h2 := h.c2
  have hf := h.fr 2
  have hle := h.le
  have hlen := h.len
  go_enter Try.func65, Try.ntmps65
  go_wp2_with (first | (go_at_call 33; refine (err_any h).mono ?_; rintro e w' ⟨rfl, rfl⟩) | (go_at_call 66; refine (left_any h).mono ?_; rintro e w' ⟨rfl, k, rfl⟩))
  go_ret
  exact ⟨rfl, _, rfl⟩

set_option maxHeartbeats 400000 in
theorem take_full {w : World} {rb : Nat} {sv : Value} {bs : List Int} {p : Nat} (h : Rd w rb sv bs p 0) (n : Nat) (hs : (n : Int) ≤ (bs.length : Int) - p) :
    Calls Try.prog 65 #[.pointer (some ⟨rb, 0, none⟩), .int .i64 (n : Int)] w fun e w' => ∃ v k, e = .returned v ∧ Row .u8 w v ((bs.drop p).take n) ∧ w' = (w.setCell ⟨rb, 0, none⟩ (.int .i64 ((p + n : Nat) : Int))).drewN k := by
  have h0 := h.c0
  have h1 := h.c1
  have hf := h.fr 0
  have hle := h.le
  have hlen := h.len
  have HR := hide h.row
  obtain ⟨ao, cap, rfl, hnone, hl, hcm⟩ := h.row.shape
  have HN := hide hnone
  clear hnone
  unfold maxLen at hcm
  go_enter Try.func65, Try.ntmps65
  go_wp2_with (first | (go_at_call 33; refine (err_any h).mono ?_; rintro e w' ⟨rfl, rfl⟩) | (go_at_call 66; refine (left_any h).mono ?_; rintro e w' ⟨rfl, k, rfl⟩))
  go_quiet (fail)
  go_wp2
  · go_ret
    have hn : n = 0 := by omega
    subst hn
    refine ⟨_, rfl, ?_, _, drew_set _ _ _ _ _⟩
    exact .inl ⟨by simp, ao, 0, rfl, fun _ => rfl, Nat.zero_le _⟩
  · go_ret
    refine ⟨_, rfl, ?_, _, drew_set _ _ _ _ _⟩
    refine Row.cut (unhide HR) p n (by omega) _ (fun b off e _ => by subst e; simp [Addr.add_lit]) (fun e => ?_)
    cases ao with
    | none => have := (unhide HN rfl).2; omega
    | some a => cases e

/-- 'take', whatever it is asked. -/
theorem take_any {w : World} {rb : Nat} {sv : Value} {bs : List Int} {p : Nat} {err : Int} (h : Rd w rb sv bs p err) (n : Int) :
    Calls Try.prog 65 #[.pointer (some ⟨rb, 0, none⟩), .int .i64 n] w fun e w' =>
      ∃ v, e = .returned v ∧ Row .u8 w' v (took bs p err n).1 ∧ Rd w' rb sv bs (took bs p err n).2.1 (took bs p err n).2.2 ∧ w.grownBy w' (some rb) := by
  by_cases he : err = 0
  · subst he
    by_cases hn : n < 0
    · refine (take_neg h n hn).mono ?_
      rintro e w' ⟨rfl, rfl⟩
      rw [took_neg hn]
      exact ⟨_, rfl, Row.nil _ _, h.setErr 2, grownBy_setCell _ _ _ _⟩
    · by_cases hs : (bs.length : Int) - p < n
      · refine (take_short h n (by omega) hs).mono ?_
        rintro e w' ⟨rfl, k, rfl⟩
        rw [took_short (by omega) hs]
        exact ⟨_, rfl, Row.nil _ _, (h.drewN k).setErr 7, ⟨rfl, rfl, rfl, by simp, (grownBy_setCell w rb 2 _).block⟩⟩
      · obtain ⟨m, rfl⟩ := Int.eq_ofNat_of_zero_le (show 0 ≤ n by omega)
        refine (take_full h m (by omega)).mono ?_
        rintro e w' ⟨v, k, rfl, hr, rfl⟩
        rw [took_full (by omega) (by omega)]
        have hg := grownBy_setCell w rb 0 (.int .i64 ((p + m : Nat) : Int))
        exact ⟨v, rfl, ((hr.apart h hg).below (below_drewN (Below.refl _ _) k)), (h.setAt (p + m) (by omega)).drewN k, grownBy_drewN hg k⟩
  · refine (take_err h n he).mono ?_
    rintro e w' ⟨rfl, rfl⟩
    rw [took_err he]
    exact ⟨_, rfl, Row.nil _ _, h, World.grownBy.refl _ _⟩

set_option maxHeartbeats 400000 in
theorem read_any (v : Value) (xs : List Int) (w : World) (hr : Row .u8 w v xs) (hm : xs.length ≤ 140737488355328) (hB : Byt xs) :
    Calls Try.prog 57 #[v] w fun e w' => ∃ rb sv, e = .returned (.pointer (some ⟨rb, 0, none⟩)) ∧ w.heap.size ≤ rb ∧ Rd w' rb sv xs 0 0 ∧ Below w.heap.size w w' := by
  go_enter Try.func57, Try.ntmps57
  go_wp2_with (go_at_call 64; refine (clone_any v xs _ hr hm).mono ?_; rintro e w1 ⟨ao1, cap1, rfl, hown, hb⟩)
  have hrow := hown.row
  go_ret
  refine ⟨w1.heap.size, _, rfl, hb.size, ⟨?_, hrow.below ((Below.refl _ _).alloc (Nat.le_refl _) _), Nat.zero_le _, hm, hB⟩, hb.alloc hb.size _⟩
  exact heap_alloc_new w1 _
end Go.Proofs.Ytmigakbccmkjoaa
