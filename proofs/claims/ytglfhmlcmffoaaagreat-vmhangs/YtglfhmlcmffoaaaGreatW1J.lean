/- Several texts in one. -/
import Derived.Test.YtglfhmlcmffoaaaGreatProg
import Derived.Test.YtglfhmlcmffoaaaGreatLemJ
import Derived.Deep.QuietTactic
import Derived.BigQuiet
import Derived.Test.YtglfhmlcmffoaaaGreatVMDJ
/-
  The walks of octet's smallest functions: Err, Left, take at a Reader that is not there; Clone; Read. What the dump lacks is left out.
-/
namespace Go.Proofs.YtglfhmlcmffoaaaGreat
open Go.RowKit

set_option maxHeartbeats 400000 in
theorem err_nil (w : World) : Calls Tryz.prog 231 #[.pointer none] w fun e w' => e = .returned (.int .i64 1) ∧ w' = w := by
  go_enter Tryz.func231, Tryz.ntmps231
  go_wp2
  go_ret
  exact ⟨rfl, rfl⟩

set_option maxHeartbeats 400000 in
theorem left_nil (w : World) : Calls Tryz.prog 232 #[.pointer none] w fun e w' => e = .returned (.int .i64 0) ∧ w' = w := by
  go_enter Tryz.func232, Tryz.ntmps232
  go_wp2
  go_ret
  exact ⟨rfl, rfl⟩

set_option maxHeartbeats 400000 in
theorem take_nil (n : Int) (w : World) : Calls Tryz.prog 230 #[.pointer none, .int .i64 n] w fun e w' => e = .returned (.slice none 0 0) ∧ w' = w := by
  go_enter Tryz.func230, Tryz.ntmps230
  go_wp2
  go_ret
  exact ⟨rfl, rfl⟩

theorem info5 : (Tryz.prog.info? 5).map (fun i => (i.zero, i.size, i.bytes)) = some (some (.int .u8 0), 1, 1) := by kernel_rfl


set_option maxHeartbeats 400000 in
theorem clone_any (v : Value) (xs : List Int) (w : World) (hr : Row .u8 w v xs) (hm : xs.length ≤ 140737488355328) :
    Calls Tryz.prog 228 #[v] w fun e w' => ∃ ao cap, e = .returned (.slice ao xs.length cap) ∧ Own .u8 w' w.heap.size 5 (.slice ao xs.length cap) xs ∧ Below w.heap.size w w' := by
  obtain ⟨i0, hi, hz0, hz1, hz2⟩ := info_parts info5
  obtain ⟨ao, cap, rfl, h0, hl, hcm⟩ := hr.shape
  have hnil := fun wx => Lib.run_eql_slice_nil (P := Tryz.prog) wx 154 5 ao xs.length cap 0 0 Tryz.underlying154
  cases ao with
  | none =>
    obtain ⟨rfl, rfl⟩ := h0 rfl
    simp only [List.length_nil] at hnil ⊢
    go_enter Tryz.func228, Tryz.ntmps228
    go_wp2
    go_ret
    exact ⟨none, 0, rfl, Own.nil _ _ _ _, Below.refl _ _⟩
  | some ad =>
    have HR := hide hr
    clear h0 hr
    go_enter Tryz.func228, Tryz.ntmps228
    go_wp2_with (at_builtin; refine wpList_append_Own rfl (.tmp 5) (.tmp 6) 154 rfl w.heap.size 5 i0 .u8 1 Tryz.underlying154 hi hz0 hz1 hz2 _ [] rfl (Own.made w (Nat.le_refl _)) _ xs rfl ((unhide HR).below ((Below.refl _ _).alloc (Nat.le_refl _) _)) ?c1 ?c2 ?c3 ?_)
    case c1 => unfold maxLen; simp; omega
    case c2 => simp; omega
    case c3 => simp
    intro v' w' hown hgrow
    obtain ⟨ao', cap', rfl⟩ := hown.shape
    go_wp2
    go_ret
    refine ⟨_, _, rfl, hown, ?_⟩
    exact ((Below.refl _ _).alloc (Nat.le_refl _) _).grown hgrow (by simp) (by simp [Value.ownBlock])
end Go.Proofs.YtglfhmlcmffoaaaGreat

/-
  The walks of octet's Reader: what each call does to the block of three cells (where it is, its bytes, its error). What the dump lacks is left out.
-/
namespace Go.Proofs.YtglfhmlcmffoaaaGreat
open Go.RowKit

/-- Block rb is a Reader over the bytes bs (its slice is sv), at the place 'p', with the error err. -/
structure Rd (w : World) (rb : Nat) (sv : Value) (bs : List Int) (p : Nat) (err : Int) : Prop where
  blk : w.heap[rb]? = some (.cells #[.int .i64 (p : Int), sv, .int .i64 err] 208 (0, 0))
  row : Row .u8 w sv bs
  le : p ≤ bs.length
  len : bs.length ≤ 140737488355328
  byt : Byt bs

section
variable {w w' : World} {rb : Nat} {sv : Value} {bs : List Int} {p : Nat} {err : Int}

theorem Rd.c0 (h : Rd w rb sv bs p err) : w.cell? ⟨rb, 0, none⟩ = some (.int .i64 (p : Int)) := by simp [World.cell?, h.blk]
theorem Rd.c1 (h : Rd w rb sv bs p err) : w.cell? ⟨rb, 1, none⟩ = some sv := by simp [World.cell?, h.blk]
theorem Rd.c2 (h : Rd w rb sv bs p err) : w.cell? ⟨rb, 2, none⟩ = some (.int .i64 err) := by simp [World.cell?, h.blk]
theorem Rd.fr (h : Rd w rb sv bs p err) (i : Nat) : w.frozen? ⟨rb, i, none⟩ = false := by simp [World.frozen?, h.blk]
theorem Rd.lt (h : Rd w rb sv bs p err) : rb < w.heap.size := (Array.getElem?_eq_some_iff.1 h.blk).1

/-- A row of bytes does not lie in a Reader's block. -/
theorem Row.apart {v : Value} {xs : List Int} (hr : Row .u8 w v xs) (h : Rd w rb sv bs p err) (hg : w.grownBy w' (some rb)) : Row .u8 w' v xs := by
  rcases hr with hr | ⟨hne, b, off, cap, rfl, hl, hm, hc⟩
  · exact .inl hr
  · have hb : b ≠ rb := by
      intro e
      subst e
      have h0 := hc 0 (List.length_pos_iff.2 hne)
      obtain ⟨s1, n1, rfl, _⟩ := h.row.shape
      simp only [World.cell?, h.blk] at h0
      match off, h0 with
      | 0, h0 => simp at h0
      | 1, h0 => simp at h0
      | 2, h0 => simp at h0
      | n + 3, h0 => simp at h0
    refine .inr ⟨hne, b, off, cap, rfl, hl, hm, fun i hi => ?_⟩
    rw [World.cell?_of_block (w := w) (hg.block b (World.block_lt_of_cell? w _ (hc i hi)) (by simpa using hb))]
    exact hc i hi

theorem Rd.below (h : Rd w rb sv bs p err) (hb : Below w.heap.size w w') : Rd w' rb sv bs p err :=
  ⟨by rw [hb.block rb h.lt]; exact h.blk, h.row.below hb, h.le, h.len, h.byt⟩

/-- Another Reader's turn leaves this one as it was. -/
theorem Rd.other {rb2 : Nat} {sv2 : Value} {bs2 : List Int} {p2 : Nat} {err2 : Int} (h : Rd w rb sv bs p err) (h2 : Rd w rb2 sv2 bs2 p2 err2) (hne : rb ≠ rb2) (hg : w.grownBy w' (some rb2)) : Rd w' rb sv bs p err :=
  ⟨by rw [hg.block rb h.lt (by simpa using hne)]; exact h.blk, h.row.apart h2 hg, h.le, h.len, h.byt⟩

theorem grownBy_setCell (w : World) (b i : Nat) (v : Value) : w.grownBy (w.setCell ⟨b, i, none⟩ v) (some b) :=
  ⟨rfl, rfl, rfl, by simp, fun k _ hk => heap_setCell_other _ _ _ _ (by simpa using hk)⟩
theorem grownBy_drewN {w w' : World} {r : Option Nat} (h : w.grownBy w' r) (n : Nat) : w.grownBy (w'.drewN n) r := ⟨h.os, h.tape, h.output, h.size, h.block⟩

theorem drew_set (w : World) (a : Addr) (v : Value) (k n : Nat) : ((w.drewN k).setCell a v).drewN n = (w.setCell a v).drewN (k + n) := by simp [World.drewN, World.setCell, Nat.add_assoc]
theorem Rd.setErr (h : Rd w rb sv bs p err) (e : Int) : Rd (w.setCell ⟨rb, 2, none⟩ (.int .i64 e)) rb sv bs p e :=
  ⟨by rw [heap_setCell_same w rb 2 _ _ _ h.blk]; simp, h.row.apart h (grownBy_setCell w rb 2 _), h.le, h.len, h.byt⟩
theorem Rd.setAt (h : Rd w rb sv bs p err) (q : Nat) (hq : q ≤ bs.length) : Rd (w.setCell ⟨rb, 0, none⟩ (.int .i64 (q : Int))) rb sv bs q err :=
  ⟨by rw [heap_setCell_same w rb 0 _ _ _ h.blk]; simp, h.row.apart h (grownBy_setCell w rb 0 _), hq, h.len, h.byt⟩
theorem Rd.drewN (h : Rd w rb sv bs p err) (n : Nat) : Rd (w.drewN n) rb sv bs p err := h.below (below_drewN (Below.refl _ _) n)
end

set_option maxHeartbeats 400000 in
theorem err_any {w : World} {rb : Nat} {sv : Value} {bs : List Int} {p : Nat} {err : Int} (h : Rd w rb sv bs p err) :
    Calls Tryz.prog 231 #[.pointer (some ⟨rb, 0, none⟩)] w fun e w' => e = .returned (.int .i64 err) ∧ w' = w := by
  have h2 := h.c2
  clear h
  go_enter Tryz.func231, Tryz.ntmps231
  go_wp2
  go_ret
  exact ⟨rfl, rfl⟩

set_option maxHeartbeats 400000 in
theorem left_any {w : World} {rb : Nat} {sv : Value} {bs : List Int} {p : Nat} {err : Int} (h : Rd w rb sv bs p err) :
    Calls Tryz.prog 232 #[.pointer (some ⟨rb, 0, none⟩)] w fun e w' => e = .returned (.int .i64 ((bs.length : Int) - (p : Int))) ∧ ∃ n, w' = w.drewN n := by
  have h0 := h.c0
  have h1 := h.c1
  have hle := h.le
  have hlen := h.len
  obtain ⟨ao, cap, rfl, _, hl, hcm⟩ := h.row.shape
  clear h
  go_enter Tryz.func232, Tryz.ntmps232
  go_wp2
  go_quiet (fail)
  go_wp2
  go_ret
  exact ⟨rfl, _, rfl⟩

/-- What 'take' answers, the place and the error behind it. -/
def took (bs : List Int) (p : Nat) (err n : Int) : List Int × Nat × Int :=
  if err ≠ 0 then ([], p, err) else if n < 0 then ([], p, 2) else if (bs.length : Int) - p < n then ([], p, 7) else ((bs.drop p).take n.toNat, p + n.toNat, 0)

theorem took_err {bs : List Int} {p : Nat} {err n : Int} (h : err ≠ 0) : took bs p err n = ([], p, err) := by simp [took, h]
theorem took_neg {bs : List Int} {p : Nat} {n : Int} (h : n < 0) : took bs p 0 n = ([], p, 2) := by simp [took, h]
theorem took_short {bs : List Int} {p : Nat} {n : Int} (h : 0 ≤ n) (h2 : (bs.length : Int) - p < n) : took bs p 0 n = ([], p, 7) := by
  have h' : ¬ n < 0 := by omega
  simp [took, h', h2]
theorem took_full {bs : List Int} {p : Nat} {n : Int} (h : 0 ≤ n) (h2 : n ≤ (bs.length : Int) - p) : took bs p 0 n = ((bs.drop p).take n.toNat, p + n.toNat, 0) := by
  have h' : ¬ n < 0 := by omega
  have h2' : ¬ (bs.length : Int) - p < n := by omega
  simp [took, h', h2']

theorem took_byt {bs : List Int} {p : Nat} {err n : Int} (h : Byt bs) : Byt (took bs p err n).1 := by
  unfold took
  (repeat' split) <;> first | exact h.cut _ _ | (intro x hx; cases hx)
theorem took_len {bs : List Int} {p : Nat} {err n : Int} : ((took bs p err n).1.length : Int) ≤ max n 0 := by
  unfold took
  (repeat' split) <;> simp <;> omega

/-- A piece of a row, as the slice expression makes it. -/
theorem Row.cut {k : IntKind} {w : World} {ao : Option Addr} {cap : Nat} {xs : List Int} (h : Row k w (.slice ao xs.length cap) xs) (p m : Nat) (hpm : p + m ≤ xs.length) (ao' : Option Addr)
    (h1 : ∀ b off, ao = some ⟨b, off, none⟩ → 0 < m → ao' = some ⟨b, off + p, none⟩) (h2 : ao' = none → cap - p = 0) : Row k w (.slice ao' m (cap - p)) ((xs.drop p).take m) := by
  have hl : ((xs.drop p).take m).length = m := by simp; omega
  have hsh := h.shape
  obtain ⟨_, _, hx, _, hlc, hcm⟩ := hsh
  cases hx
  by_cases hm : m = 0
  · subst hm
    exact .inl ⟨by simp, ao', cap - p, rfl, h2, by omega⟩
  · rcases h with ⟨h0, _⟩ | ⟨hne, b, off, c, hv, hl2, hm2, hc⟩
    · subst h0
      simp at hpm
      omega
    · cases hv
      have e := h1 b off rfl (by omega)
      subst e
      refine .inr ⟨fun h => by rw [h] at hl; simp at hl; omega, b, off + p, cap - p, by rw [hl], by omega, by omega, fun i hi => ?_⟩
      rw [hl] at hi
      rw [Nat.add_assoc, hc (p + i) (by omega)]
      have e2 : ((xs.drop p).take m).getD i 0 = xs.getD (p + i) 0 := by
        simp [List.getD, hi]
      rw [e2]

set_option maxHeartbeats 400000 in
theorem take_err {w : World} {rb : Nat} {sv : Value} {bs : List Int} {p : Nat} {err : Int} (h : Rd w rb sv bs p err) (n : Int) (he : err ≠ 0) :
    Calls Tryz.prog 230 #[.pointer (some ⟨rb, 0, none⟩), .int .i64 n] w fun e w' => e = .returned (.slice none 0 0) ∧ w' = w := by
  have hb : (err != 0) = true := by simpa using he
  go_enter Tryz.func230, Tryz.ntmps230
  go_wp2_with (go_at_call 231; refine (err_any h).mono ?_; rintro e w' ⟨rfl, rfl⟩)
  go_ret
  exact ⟨rfl, rfl⟩

set_option maxHeartbeats 400000 in
theorem take_neg {w : World} {rb : Nat} {sv : Value} {bs : List Int} {p : Nat} (h : Rd w rb sv bs p 0) (n : Int) (hn : n < 0) :
    Calls Tryz.prog 230 #[.pointer (some ⟨rb, 0, none⟩), .int .i64 n] w fun e w' => e = .returned (.slice none 0 0) ∧ w' = w.setCell ⟨rb, 2, none⟩ (.int .i64 2) := by
  have h2 := h.c2
  have hf := h.fr 2
  go_enter Tryz.func230, Tryz.ntmps230
  go_wp2_with (go_at_call 231; refine (err_any h).mono ?_; rintro e w' ⟨rfl, rfl⟩)
  go_ret
  exact ⟨rfl, rfl⟩

set_option maxHeartbeats 400000 in
theorem take_short {w : World} {rb : Nat} {sv : Value} {bs : List Int} {p : Nat} (h : Rd w rb sv bs p 0) (n : Int) (hn : 0 ≤ n) (hs : (bs.length : Int) - p < n) :
    Calls Tryz.prog 230 #[.pointer (some ⟨rb, 0, none⟩), .int .i64 n] w fun e w' => e = .returned (.slice none 0 0) ∧ ∃ k, w' = (w.drewN k).setCell ⟨rb, 2, none⟩ (.int .i64 7) := by
  have h2 := h.c2
  have hf := h.fr 2
  have hle := h.le
  have hlen := h.len
  go_enter Tryz.func230, Tryz.ntmps230
  go_wp2_with (first | (go_at_call 231; refine (err_any h).mono ?_; rintro e w' ⟨rfl, rfl⟩) | (go_at_call 232; refine (left_any h).mono ?_; rintro e w' ⟨rfl, k, rfl⟩))
  go_ret
  exact ⟨rfl, _, rfl⟩

set_option maxHeartbeats 400000 in
theorem take_full {w : World} {rb : Nat} {sv : Value} {bs : List Int} {p : Nat} (h : Rd w rb sv bs p 0) (n : Nat) (hs : (n : Int) ≤ (bs.length : Int) - p) :
    Calls Tryz.prog 230 #[.pointer (some ⟨rb, 0, none⟩), .int .i64 (n : Int)] w fun e w' => ∃ v k, e = .returned v ∧ Row .u8 w v ((bs.drop p).take n) ∧ w' = (w.setCell ⟨rb, 0, none⟩ (.int .i64 ((p + n : Nat) : Int))).drewN k := by
  have h0 := h.c0
  have h1 := h.c1
  have hf := h.fr 0
  have hle := h.le
  have hlen := h.len
  have HR := hide h.row
  obtain ⟨ao, cap, rfl, hnone, hl, hcm⟩ := h.row.shape
  have HN := hide hnone
  clear hnone
  unfold maxLen at hcm
  go_enter Tryz.func230, Tryz.ntmps230
  go_wp2_with (first | (go_at_call 231; refine (err_any h).mono ?_; rintro e w' ⟨rfl, rfl⟩) | (go_at_call 232; refine (left_any h).mono ?_; rintro e w' ⟨rfl, k, rfl⟩))
  go_quiet (fail)
  go_wp2
  · go_ret
    have hn : n = 0 := by omega
    subst hn
    refine ⟨_, rfl, ?_, _, drew_set _ _ _ _ _⟩
    exact .inl ⟨by simp, ao, 0, rfl, fun _ => rfl, Nat.zero_le _⟩
  · go_ret
    refine ⟨_, rfl, ?_, _, drew_set _ _ _ _ _⟩
    refine Row.cut (unhide HR) p n (by omega) _ (fun b off e _ => by subst e; simp [Addr.add_lit]) (fun e => ?_)
    cases ao with
    | none => have := (unhide HN rfl).2; omega
    | some a => cases e

/-- 'take', whatever it is asked. -/
theorem take_any {w : World} {rb : Nat} {sv : Value} {bs : List Int} {p : Nat} {err : Int} (h : Rd w rb sv bs p err) (n : Int) :
    Calls Tryz.prog 230 #[.pointer (some ⟨rb, 0, none⟩), .int .i64 n] w fun e w' =>
      ∃ v, e = .returned v ∧ Row .u8 w' v (took bs p err n).1 ∧ Rd w' rb sv bs (took bs p err n).2.1 (took bs p err n).2.2 ∧ w.grownBy w' (some rb) := by
  by_cases he : err = 0
  · subst he
    by_cases hn : n < 0
    · refine (take_neg h n hn).mono ?_
      rintro e w' ⟨rfl, rfl⟩
      rw [took_neg hn]
      exact ⟨_, rfl, Row.nil _ _, h.setErr 2, grownBy_setCell _ _ _ _⟩
    · by_cases hs : (bs.length : Int) - p < n
      · refine (take_short h n (by omega) hs).mono ?_
        rintro e w' ⟨rfl, k, rfl⟩
        rw [took_short (by omega) hs]
        exact ⟨_, rfl, Row.nil _ _, (h.drewN k).setErr 7, ⟨rfl, rfl, rfl, by simp, (grownBy_setCell w rb 2 _).block⟩⟩
      · obtain ⟨m, rfl⟩ := Int.eq_ofNat_of_zero_le (show 0 ≤ n by omega)
        refine (take_full h m (by omega)).mono ?_
        rintro e w' ⟨v, k, rfl, hr, rfl⟩
        rw [took_full (by omega) (by omega)]
        have hg := grownBy_setCell w rb 0 (.int .i64 ((p + m : Nat) : Int))
        exact ⟨v, rfl, ((hr.apart h hg).below (below_drewN (Below.refl _ _) k)), (h.setAt (p + m) (by omega)).drewN k, grownBy_drewN hg k⟩
  · refine (take_err h n he).mono ?_
    rintro e w' ⟨rfl, rfl⟩
    rw [took_err he]
    exact ⟨_, rfl, Row.nil _ _, h, World.grownBy.refl _ _⟩

set_option maxHeartbeats 400000 in
theorem read_any (v : Value) (xs : List Int) (w : World) (hr : Row .u8 w v xs) (hm : xs.length ≤ 140737488355328) (hB : Byt xs) :
    Calls Tryz.prog 224 #[v] w fun e w' => ∃ rb sv, e = .returned (.pointer (some ⟨rb, 0, none⟩)) ∧ w.heap.size ≤ rb ∧ Rd w' rb sv xs 0 0 ∧ Below w.heap.size w w' := by
  go_enter Tryz.func224, Tryz.ntmps224
  go_wp2_with (go_at_call 228; refine (clone_any v xs _ hr hm).mono ?_; rintro e w1 ⟨ao1, cap1, rfl, hown, hb⟩)
  have hrow := hown.row
  go_ret
  refine ⟨w1.heap.size, _, rfl, hb.size, ⟨?_, hrow.below ((Below.refl _ _).alloc (Nat.le_refl _) _), Nat.zero_le _, hm, hB⟩, hb.alloc hb.size _⟩
  exact heap_alloc_new w1 _
end Go.Proofs.YtglfhmlcmffoaaaGreat

/-
  The walks of octet's numbers: number, U8 to I32, Raw, Skip. What the dump lacks is left out.
-/
namespace Go.Proofs.YtglfhmlcmffoaaaGreat
open Go.RowKit

set_option maxHeartbeats 400000 in
theorem number_any {w : World} {rb : Nat} {sv : Value} {bs : List Int} {p : Nat} {err : Int} (h : Rd w rb sv bs p err) (n : Int) (hn : n ≤ 4) :
    Calls Tryz.prog 229 #[.pointer (some ⟨rb, 0, none⟩), .int .i64 n] w fun e w' =>
      e = .returned (.int .u32 (numOf (took bs p err n).1)) ∧ Rd w' rb sv bs (took bs p err n).2.1 (took bs p err n).2.2 ∧ w.grownBy w' (some rb) := by
  go_enter Tryz.func229, Tryz.ntmps229
  go_wp2_with fail
  refine (take_any h n).mono ?_
  rintro e w1 ⟨v, rfl, hr, hrd, hg⟩
  have hby := took_byt (p := p) (err := err) (n := n) h.byt
  have hlen := took_len (bs := bs) (p := p) (err := err) (n := n)
  have H := hide (And.intro hrd hg)
  clear hrd hg h
  generalize hcs : (took bs p err n) = t at *
  have HC := hide hcs
  clear hcs
  obtain ⟨cs, q, er⟩ := t
  simp only at hr hby hlen
  rcases hr with ⟨rfl, ao, cap, rfl, h0, hm⟩ | ⟨hne, b, off, cap, rfl, hl, hm, hc⟩
  · go_wp2
    refine wp_loop_rounds 1 ?_
    rw [rounds_succ]
    go_wp2
    go_ret
    rw [unhide HC]
    exact ⟨rfl, unhide H⟩
  · go_wp2
    go_loop [5, 12] (fun x i => ∃ k : Nat, k ≤ cs.length ∧ i = .int .i64 k ∧ x = .int .u32 (numOf (cs.take k))) (fun _ i => cs.length - (intOf i).toNat)
    case atStart => exact ⟨0, Nat.zero_le _, rfl, rfl⟩
    case round =>
      obtain ⟨k, hk, rfl, rfl⟩ := hrel
      by_cases hlt : k < cs.length
      · have hck := hc k hlt
        have hbk := hby.get k
        go_wp2
        go_round
        case rel => exact ⟨k + 1, by omega, by go_num, congrArg _ (num_step cs k hlt (by omega) hby)⟩
        case measure => simp [intOf]; omega
      · go_wp2
        go_ret
        have : k = cs.length := by omega
        subst this
        rw [unhide HC, List.take_length]
        exact ⟨rfl, unhide H⟩

set_option maxHeartbeats 400000 in
theorem u8_any {w : World} {rb : Nat} {sv : Value} {bs : List Int} {p : Nat} {err : Int} (h : Rd w rb sv bs p err) :
    Calls Tryz.prog 225 #[.pointer (some ⟨rb, 0, none⟩)] w fun e w' =>
      e = .returned (.int .u8 (numOf (took bs p err 1).1)) ∧ Rd w' rb sv bs (took bs p err 1).2.1 (took bs p err 1).2.2 ∧ w.grownBy w' (some rb) := by
  have hb : 0 ≤ numOf (took bs p err 1).1 ∧ numOf (took bs p err 1).1 < 256 := numOf_le _ (took_byt h.byt) 1 (by have := took_len (bs := bs) (p := p) (err := err) (n := 1); omega)
  have HN := hide (number_any h 1 (by omega))
  generalize numOf (took bs p err 1).1 = x at *
  obtain ⟨hx0, hx1⟩ := hb
  clear h
  go_enter Tryz.func225, Tryz.ntmps225
  go_wp2_with (go_at_call 229; refine (unhide HN).mono ?_; rintro e w1 ⟨rfl, H⟩; have HH := hide H; clear H)
  go_ret
  exact ⟨rfl, unhide (by assumption)⟩

set_option maxHeartbeats 400000 in
theorem u16_any {w : World} {rb : Nat} {sv : Value} {bs : List Int} {p : Nat} {err : Int} (h : Rd w rb sv bs p err) :
    Calls Tryz.prog 226 #[.pointer (some ⟨rb, 0, none⟩)] w fun e w' =>
      e = .returned (.int .u16 (numOf (took bs p err 2).1)) ∧ Rd w' rb sv bs (took bs p err 2).2.1 (took bs p err 2).2.2 ∧ w.grownBy w' (some rb) := by
  have hb : 0 ≤ numOf (took bs p err 2).1 ∧ numOf (took bs p err 2).1 < 65536 := numOf_le _ (took_byt h.byt) 2 (by have := took_len (bs := bs) (p := p) (err := err) (n := 2); omega)
  have HN := hide (number_any h 2 (by omega))
  generalize numOf (took bs p err 2).1 = x at *
  obtain ⟨hx0, hx1⟩ := hb
  clear h
  go_enter Tryz.func226, Tryz.ntmps226
  go_wp2_with (go_at_call 229; refine (unhide HN).mono ?_; rintro e w1 ⟨rfl, H⟩; have HH := hide H; clear H)
  go_ret
  exact ⟨rfl, unhide (by assumption)⟩

set_option maxHeartbeats 400000 in
theorem u32_any {w : World} {rb : Nat} {sv : Value} {bs : List Int} {p : Nat} {err : Int} (h : Rd w rb sv bs p err) :
    Calls Tryz.prog 227 #[.pointer (some ⟨rb, 0, none⟩)] w fun e w' =>
      e = .returned (.int .u32 (numOf (took bs p err 4).1)) ∧ Rd w' rb sv bs (took bs p err 4).2.1 (took bs p err 4).2.2 ∧ w.grownBy w' (some rb) := by
  have hb : 0 ≤ numOf (took bs p err 4).1 ∧ numOf (took bs p err 4).1 < 4294967296 := numOf_le _ (took_byt h.byt) 4 (by have := took_len (bs := bs) (p := p) (err := err) (n := 4); omega)
  have HN := hide (number_any h 4 (by omega))
  generalize numOf (took bs p err 4).1 = x at *
  obtain ⟨hx0, hx1⟩ := hb
  clear h
  go_enter Tryz.func227, Tryz.ntmps227
  go_wp2_with (go_at_call 229; refine (unhide HN).mono ?_; rintro e w1 ⟨rfl, H⟩; have HH := hide H; clear H)
  go_ret
  exact ⟨rfl, unhide (by assumption)⟩

theorem grown_then {w w1 w2 : World} {rb : Nat} (hg : w.grownBy w1 (some rb)) (hb : Below w1.heap.size w1 w2) : w.grownBy w2 (some rb) :=
  ⟨hb.os.trans hg.os, hb.tape.trans hg.tape, hb.output.trans hg.output, Nat.le_trans hg.size hb.size, fun k hk hne => (hb.block k (Nat.lt_of_lt_of_le hk hg.size)).trans (hg.block k hk hne)⟩

end Go.Proofs.YtglfhmlcmffoaaaGreat

/-
  Pixels: the walks of pixel (the bytes of one pixel) and of whole (bytes as a number). What the dump lacks is left out.
-/
namespace Go.Proofs.YtglfhmlcmffoaaaGreat
open Go.RowKit

theorem siz_three {f : Nat} (h1 : 1 ≤ f) (h7 : f ≤ 7) : siz f = 1 ∨ siz f = 2 ∨ siz f = 4 := by
  rcases (by omega : f = 1 ∨ f = 2 ∨ f = 3 ∨ f = 4 ∨ f = 5 ∨ f = 6 ∨ f = 7) with rfl | rfl | rfl | rfl | rfl | rfl | rfl <;> decide

theorem sl_eq {b o o' n n' c c' : Nat} (h1 : o = o') (h2 : n = n') (h3 : c = c') : Ending.returned (.slice (some ⟨b, o, none⟩) n c) = .returned (.slice (some ⟨b, o', none⟩) n' c') := by subst h1 h2 h3; rfl

theorem took_all (xs : List Int) : (took xs 0 0 (xs.length : Int)).1 = xs := by
  rw [took_full (by omega) (by simp)]
  simp
theorem ext_grownP {w w1 w2 : World} {rb : Nat} (h : Ext w w1) (hg : w1.grownBy w2 (some rb)) (hb : w.heap.size ≤ rb) : Ext w w2 := below_grown h hg h.size hb

set_option maxHeartbeats 1000000 in
theorem whole_any (ao : Option Addr) (cap : Nat) (xs : List Int) (w : World) (hr : Row .u8 w (.slice ao xs.length cap) xs) (hB : Byt xs) (hl : xs.length = 1 ∨ xs.length = 2 ∨ xs.length = 4) :
    Calls Tryz.prog 221 #[.slice ao xs.length cap] w fun e w' => e = .returned (.int .u32 (numOf xs)) ∧ Ext w w' := by
  have hb := numOf_le xs hB xs.length (Nat.le_refl _)
  have HT := hide (took_all xs)
  go_enter Tryz.func221, Tryz.ntmps221
  go_wp2_with fail
  refine (read_any _ xs w hr (by omega) hB).mono ?_
  rintro e w1 ⟨rb, sv, rfl, hrb, hrd, hx⟩
  have D := hide (And.intro hrb (And.intro hrd (show Ext w w1 from hx)))
  clear hrb hrd hx hr
  rcases hl with h | h | h
  · rw [h] at HT hb ⊢
    have hd : ((1 : Nat) : Int) = 1 := rfl
    go_wp2_with fail
    refine (u8_any (unhide D).2.1).mono ?_
    rintro e w2 ⟨rfl, _, hg⟩
    rw [show (took xs 0 0 1).1 = xs from unhide HT]
    have X := hide (ext_grownP (unhide D).2.2 hg (unhide D).1)
    clear hg
    go_wp2
    go_ret
    exact ⟨rfl, unhide X⟩
  · rw [h] at HT hb ⊢
    have hd : ((2 : Nat) : Int) = 2 := rfl
    go_wp2_with fail
    refine (u16_any (unhide D).2.1).mono ?_
    rintro e w2 ⟨rfl, _, hg⟩
    rw [show (took xs 0 0 2).1 = xs from unhide HT]
    have X := hide (ext_grownP (unhide D).2.2 hg (unhide D).1)
    clear hg
    go_wp2
    go_ret
    exact ⟨rfl, unhide X⟩
  · rw [h] at HT hb ⊢
    have hd : ((4 : Nat) : Int) = 4 := rfl
    go_wp2_with fail
    refine (u32_any (unhide D).2.1).mono ?_
    rintro e w2 ⟨rfl, _, hg⟩
    rw [show (took xs 0 0 4).1 = xs from unhide HT]
    have X := hide (ext_grownP (unhide D).2.2 hg (unhide D).1)
    clear hg
    go_wp2
    go_ret
    exact ⟨rfl, unhide X⟩
end Go.Proofs.YtglfhmlcmffoaaaGreat

/-
  Pixels: the walk of number: a colour's channels as one number. What the dump lacks is left out.
-/
namespace Go.Proofs.YtglfhmlcmffoaaaGreat
open Go.RowKit

/-- The number that the first k channels make. -/
def packK (L : Nat → Nat) (c : Nat → Int) : Nat → Int
  | 0 => 0
  | k + 1 => if 0 < L (4 * k) then bits .or .u32 (packK L c k) (bitsI (c (L (4 * k + 2))) (L (4 * k)) * 2 ^ L (4 * k + 1) % 4294967296) else packK L c k
/-- The numbers of a layout's channels are within what they may be. -/
def LOK (L : Nat → Nat) : Prop := ∀ k, k < 4 → L (4 * k) ≤ 16 ∧ L (4 * k + 1) ≤ 31 ∧ L (4 * k + 2) ≤ 3 ∧ L (4 * k + 3) ≤ 3

theorem chans_range (F S : Nat) (O : Bool) (L : Nat → Nat) (w : World) : (w.alloc (.cells (layA F S O L) 180)).rangeAt w.heap.size 3 [.int .i64 ((L 0 : Nat) : Int), .int .i64 ((L 1 : Nat) : Int), .int .i64 ((L 2 : Nat) : Int), .int .i64 ((L 3 : Nat) : Int), .int .i64 ((L 4 : Nat) : Int), .int .i64 ((L 5 : Nat) : Int), .int .i64 ((L 6 : Nat) : Int), .int .i64 ((L 7 : Nat) : Int), .int .i64 ((L 8 : Nat) : Int), .int .i64 ((L 9 : Nat) : Int), .int .i64 ((L 10 : Nat) : Int), .int .i64 ((L 11 : Nat) : Int), .int .i64 ((L 12 : Nat) : Int), .int .i64 ((L 13 : Nat) : Int), .int .i64 ((L 14 : Nat) : Int), .int .i64 ((L 15 : Nat) : Int)] := by
  intro j v hv
  refine (Blk.at rfl).cell ?_
  have hj : j < 16 := by simpa using (List.getElem?_eq_some_iff.1 hv).1
  have e : (layA F S O L).toList.drop 3 = [.int .i64 ((L 0 : Nat) : Int), .int .i64 ((L 1 : Nat) : Int), .int .i64 ((L 2 : Nat) : Int), .int .i64 ((L 3 : Nat) : Int), .int .i64 ((L 4 : Nat) : Int), .int .i64 ((L 5 : Nat) : Int), .int .i64 ((L 6 : Nat) : Int), .int .i64 ((L 7 : Nat) : Int), .int .i64 ((L 8 : Nat) : Int), .int .i64 ((L 9 : Nat) : Int), .int .i64 ((L 10 : Nat) : Int), .int .i64 ((L 11 : Nat) : Int), .int .i64 ((L 12 : Nat) : Int), .int .i64 ((L 13 : Nat) : Int), .int .i64 ((L 14 : Nat) : Int), .int .i64 ((L 15 : Nat) : Int)] := rfl
  rw [← e, List.getElem?_drop] at hv
  simpa using hv
theorem range_alloc {w : World} {b o : Nat} {cs : List Value} (h : w.rangeAt b o cs) (x : Obj) : (w.alloc x).rangeAt b o cs := by
  intro j v hv
  have := h j v hv
  rw [World.cell?_of_block (w := w) (heap_alloc_old w x (World.block_lt_of_cell? w _ this))]
  exact this
theorem size58 : (Tryz.prog.info? 178).map (·.size) = some 16 := by kernel_rfl
theorem index58_0 (L : Nat → Nat) (w : World) : (Instr.index 178 (.agg #[.int .i64 ((L 0 : Nat) : Int), .int .i64 ((L 1 : Nat) : Int), .int .i64 ((L 2 : Nat) : Int), .int .i64 ((L 3 : Nat) : Int), .int .i64 ((L 4 : Nat) : Int), .int .i64 ((L 5 : Nat) : Int), .int .i64 ((L 6 : Nat) : Int), .int .i64 ((L 7 : Nat) : Int), .int .i64 ((L 8 : Nat) : Int), .int .i64 ((L 9 : Nat) : Int), .int .i64 ((L 10 : Nat) : Int), .int .i64 ((L 11 : Nat) : Int), .int .i64 ((L 12 : Nat) : Int), .int .i64 ((L 13 : Nat) : Int), .int .i64 ((L 14 : Nat) : Int), .int .i64 ((L 15 : Nat) : Int)]) (.int .i64 0)).run Tryz.prog w = .ok (.agg #[.int .i64 ((L 0 : Nat) : Int), .int .i64 ((L 1 : Nat) : Int), .int .i64 ((L 2 : Nat) : Int), .int .i64 ((L 3 : Nat) : Int)]) w := by kernel_rfl
theorem index58_1 (L : Nat → Nat) (w : World) : (Instr.index 178 (.agg #[.int .i64 ((L 0 : Nat) : Int), .int .i64 ((L 1 : Nat) : Int), .int .i64 ((L 2 : Nat) : Int), .int .i64 ((L 3 : Nat) : Int), .int .i64 ((L 4 : Nat) : Int), .int .i64 ((L 5 : Nat) : Int), .int .i64 ((L 6 : Nat) : Int), .int .i64 ((L 7 : Nat) : Int), .int .i64 ((L 8 : Nat) : Int), .int .i64 ((L 9 : Nat) : Int), .int .i64 ((L 10 : Nat) : Int), .int .i64 ((L 11 : Nat) : Int), .int .i64 ((L 12 : Nat) : Int), .int .i64 ((L 13 : Nat) : Int), .int .i64 ((L 14 : Nat) : Int), .int .i64 ((L 15 : Nat) : Int)]) (.int .i64 1)).run Tryz.prog w = .ok (.agg #[.int .i64 ((L 4 : Nat) : Int), .int .i64 ((L 5 : Nat) : Int), .int .i64 ((L 6 : Nat) : Int), .int .i64 ((L 7 : Nat) : Int)]) w := by kernel_rfl
theorem index58_2 (L : Nat → Nat) (w : World) : (Instr.index 178 (.agg #[.int .i64 ((L 0 : Nat) : Int), .int .i64 ((L 1 : Nat) : Int), .int .i64 ((L 2 : Nat) : Int), .int .i64 ((L 3 : Nat) : Int), .int .i64 ((L 4 : Nat) : Int), .int .i64 ((L 5 : Nat) : Int), .int .i64 ((L 6 : Nat) : Int), .int .i64 ((L 7 : Nat) : Int), .int .i64 ((L 8 : Nat) : Int), .int .i64 ((L 9 : Nat) : Int), .int .i64 ((L 10 : Nat) : Int), .int .i64 ((L 11 : Nat) : Int), .int .i64 ((L 12 : Nat) : Int), .int .i64 ((L 13 : Nat) : Int), .int .i64 ((L 14 : Nat) : Int), .int .i64 ((L 15 : Nat) : Int)]) (.int .i64 2)).run Tryz.prog w = .ok (.agg #[.int .i64 ((L 8 : Nat) : Int), .int .i64 ((L 9 : Nat) : Int), .int .i64 ((L 10 : Nat) : Int), .int .i64 ((L 11 : Nat) : Int)]) w := by kernel_rfl
theorem index58_3 (L : Nat → Nat) (w : World) : (Instr.index 178 (.agg #[.int .i64 ((L 0 : Nat) : Int), .int .i64 ((L 1 : Nat) : Int), .int .i64 ((L 2 : Nat) : Int), .int .i64 ((L 3 : Nat) : Int), .int .i64 ((L 4 : Nat) : Int), .int .i64 ((L 5 : Nat) : Int), .int .i64 ((L 6 : Nat) : Int), .int .i64 ((L 7 : Nat) : Int), .int .i64 ((L 8 : Nat) : Int), .int .i64 ((L 9 : Nat) : Int), .int .i64 ((L 10 : Nat) : Int), .int .i64 ((L 11 : Nat) : Int), .int .i64 ((L 12 : Nat) : Int), .int .i64 ((L 13 : Nat) : Int), .int .i64 ((L 14 : Nat) : Int), .int .i64 ((L 15 : Nat) : Int)]) (.int .i64 3)).run Tryz.prog w = .ok (.agg #[.int .i64 ((L 12 : Nat) : Int), .int .i64 ((L 13 : Nat) : Int), .int .i64 ((L 14 : Nat) : Int), .int .i64 ((L 15 : Nat) : Int)]) w := by kernel_rfl

end Go.Proofs.YtglfhmlcmffoaaaGreat
