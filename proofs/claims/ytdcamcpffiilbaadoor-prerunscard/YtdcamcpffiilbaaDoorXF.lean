/-
  All tokens of a text: lex.Lex.
-/
import Derived.Test.YtdcamcpffiilbaaDoorXM
import Derived.Deep.RegionWith
import Derived.Deep.RegionHeld3
namespace Go.Proofs.YtdcamcpffiilbaaDoor
open Go.RowKit
set_option linter.unusedSimpArgs false
set_option linter.unusedVariables false

/-- Tokens ahead, and what comes of the rest. -/
def comb (acc : List Tok) (r : List Tok × Int × Int) : List Tok × Int × Int := if r.2.1 ≠ 0 then ([], r.2.1, r.2.2) else (acc ++ r.1, 0, 0)
theorem comb_nil (r : List Tok × Int × Int) (h : r.2.1 = 0 → r.2.2 = 0) (h2 : r.2.1 ≠ 0 → r.1 = []) : comb [] r = r := by
  obtain ⟨x, y, z⟩ := r
  unfold comb
  by_cases hy : y = 0
  · rw [if_neg (by simpa using hy)]
    simp only at h
    rw [hy, h hy]
    rfl
  · rw [if_pos hy]
    simp only at h2
    rw [h2 hy]
theorem lexA_form (l : Byts8) : ∀ (a ln : Int) (n : Nat), ((lexA l a ln n).2.1 = 0 → (lexA l a ln n).2.2 = 0) ∧ ((lexA l a ln n).2.1 ≠ 0 → (lexA l a ln n).1 = []) := by
  induction hn : l.length using Nat.strongRecOn generalizing l with
  | _ m ih =>
    intro a ln n
    by_cases h : l = []
    · subst h
      rw [lexA_nil]
      simp
    have hr := piece_room l h
    obtain ⟨k, z, hp⟩ : ∃ k z, pieceP l = (k, z) := ⟨_, _, rfl⟩
    rw [hp] at hr
    simp only at hr
    have hd : (l.drop z).length < m := by rw [List.length_drop]; omega
    by_cases hk : k = -1
    · subst hk
      rw [lexA_gap h hp]
      exact ih _ hd _ rfl _ _ _
    · by_cases ht : (tellP k (l.take z) (l.drop z) n).2 = 0
      · rw [lexA_tok h hp hk a ln n ht]
        split
        · exact ih _ hd _ rfl _ _ _
        · simp
      · rw [lexA_bad h hp hk a ln n ht]
        exact ⟨fun e => absurd e ht, fun _ => rfl⟩
theorem comb_tok {l : Byts8} {k : Int} {z : Nat} (h : l ≠ []) (hp : pieceP l = (k, z)) (hk : k ≠ -1) (acc : List Tok) (a ln : Int) (ht : (tellP k (l.take z) (l.drop z) acc.length).2 = 0) :
    comb acc (lexA l a ln acc.length) = comb (acc ++ [⟨k, l.take z, (tellP k (l.take z) (l.drop z) acc.length).1, a, ln⟩]) (lexA (l.drop z) (a + z) (ln + cntL (l.take z)) (acc.length + 1)) := by
  have hf := lexA_form (l.drop z) (a + z) (ln + cntL (l.take z)) (acc.length + 1)
  rw [lexA_tok h hp hk a ln _ ht]
  generalize lexA (l.drop z) (a + z) (ln + cntL (l.take z)) (acc.length + 1) = r at *
  by_cases hr : r.2.1 = 0
  · have e1 : (if r.2.1 ≠ 0 then r else ((⟨k, l.take z, (tellP k (l.take z) (l.drop z) acc.length).1, a, ln⟩ : Tok) :: r.1, (0 : Int), (0 : Int))) = ((⟨k, l.take z, (tellP k (l.take z) (l.drop z) acc.length).1, a, ln⟩ : Tok) :: r.1, 0, 0) := if_neg (by simpa using hr)
    rw [e1]
    unfold comb
    rw [if_neg (by simp), if_neg (by simpa using hr)]
    simp
  · rw [if_pos hr]
    unfold comb
    rw [if_pos hr, if_pos hr]

theorem blkRow {w : World} {b : Nat} {cs cs' : Array Value} {t : TypeId} (h : Blk w b cs t) : Blk (w.setRow b cs') b cs' t := setRow_heap w b cs cs' t (0, 0) h
theorem blkRowOther {w : World} {b r : Nat} {cs cs' : Array Value} {t : TypeId} (h : Blk w b cs t) (hne : b ≠ r) : Blk (w.setRow r cs') b cs t := (setRow_other w r b cs' hne).trans h
theorem extRow {w w1 : World} {b : Nat} {cs : Array Value} (h : Ext w w1) (hb : w.heap.size ≤ b) : Ext w (w1.setRow b cs) := below_setRow h hb cs
theorem wrapIdX {n : Int} (h0 : 0 ≤ n) (h1 : n < 4611686018427387904) : IntKind.i64.wrap n = n := by
  simp only [IntKind.wrap, IntKind.bits, IntKind.signed, show ((2 : Int) ^ 64) = 18446744073709551616 from rfl, show ((2 : Int) ^ (64 - 1)) = 9223372036854775808 from rfl, Bool.true_and, decide_eq_true_eq, Int.emod_eq_of_lt h0 (show n < 18446744073709551616 by omega)]
  rw [if_neg (by omega)]
theorem sizeRow (w : World) (b : Nat) (cs : Array Value) : (w.setRow b cs).heap.size = w.heap.size := by
  unfold World.setRow
  simp
theorem grownRow (w : World) (b : Nat) (cs : Array Value) : w.grownBy (w.setRow b cs) (some b) :=
  ⟨rfl, rfl, rfl, Nat.le_of_eq (sizeRow _ _ _).symm, fun i hi hn => setRow_other w b i cs (by simpa using hn)⟩
theorem blkAt {w : World} {b : Nat} {cs : Array Value} {t : TypeId} (h : w.heap.size = b) : Blk (w.alloc (.cells cs t)) b cs t := h ▸ Blk.new w cs t
theorem blkGrownO {w w' : World} {b : Nat} {cs : Array Value} {t : TypeId} {row : Option Nat} (h : Blk w b cs t) (hg : w.grownBy w' row) (hne : row ≠ some b) : Blk w' b cs t := (hg.block b h.lt (fun e => hne e.symm)).trans h
theorem sizeTk : (Tryd.prog.info? 33).map (·.size) = some 5 := by kernel_rfl
theorem frame_of (f : (Nat → Value) → Act) (a : Act) (h : a = f (fun i => a.tmps.getD i undef)) : ∃ U, a = f U := ⟨_, h⟩
def spotZ : Array Value := #[.int .i64 0, .int .i64 0]
theorem ext_text (s : ByteArray) (i j : Nat) : s.extract i j = ⟨((s.data.toList.drop i).take (j - i)).toArray⟩ := by
  apply ByteArray.ext
  apply Array.ext'
  rw [Lib.extract_data]
theorem cntL_le (l : Byts8) : cntL l ≤ l.length := by
  unfold cntL Lib.countByte
  exact List.count_le_length

/-- What holds in memory, piece by piece. -/
structure LexI (s : ByteArray) (w wr : World) (v : Value) (acc : List Tok) : Prop where
  own : TO wr (w.heap.size + 2) v acc
  spot : Blk wr w.heap.size spotZ 26
  tok : ∃ (k : Int) (t : ByteArray) (n p l : Int), Blk wr (w.heap.size + 1) #[.int .i64 k, .string t, .int .i32 n, .int .i64 p, .int .i64 l] 33
  ext : Ext w wr
  room : w.heap.size + 2 ≤ wr.heap.size
theorem LexI.ext2 {s : ByteArray} {w wr wx : World} {v : Value} {acc : List Tok} (h : LexI s w wr v acc) (hx : Ext wr wx) : LexI s w wx v acc := by
  obtain ⟨k, t, n, p, l, hb⟩ := h.tok
  exact ⟨h.own.ext hx, h.spot.ext hx, ⟨k, t, n, p, l, hb.ext hx⟩, h.ext.trans hx, Nat.le_trans h.room hx.size⟩

theorem jump2_ret {J0 J1 : Act → World → Prop} {Q : Exit → Act → World → Prop} {a : Act} {w : World} : jump2 J0 J1 Q .ret a w = Q .ret a w := rfl
/-- At the label 'next'. -/
def LexJ0 (s : ByteArray) (w : World) (R : List Tok × Int × Int) (a' : Act) (w' : World) : Prop := ∃ (a : Nat) (ln : Int) (acc : List Tok) (ao : Option Addr) (cap : Nat) (u9 u10 : Value), (∃ U : Nat → Value, a' = { tmps := #[.string s, undef, .slice none 0 0, .pointer (some ⟨w.heap.size, 0, none⟩), .slice ao acc.length cap, .pointer (some ⟨w.heap.size + 1, 0, none⟩), .int .i64 0, .int .i64 (a : Int), .int .i64 ln, u9, u10, U 11, U 12, U 13, U 14, U 15, U 16, U 17, U 18, U 19, U 20, U 21, U 22, U 23, U 24, U 25, U 26, U 27, U 28, U 29, U 30, U 31, U 32, U 33, U 34, U 35, U 36, U 37, U 38, U 39, U 40, U 41, U 42, U 43, U 44, U 45, U 46, U 47, U 48, U 49, U 50, U 51, U 52, U 53, U 54, U 55, U 56, U 57, U 58, U 59, U 60, U 61, U 62, U 63, U 64, U 65, U 66, U 67, U 68, U 69, U 70, U 71, U 72], defers := [] }) ∧ LexI s w w' (.slice ao acc.length cap) acc ∧ a ≤ s.size ∧ acc.length ≤ a ∧ 0 ≤ ln ∧ ln ≤ a ∧ R = comb acc (lexA (s.data.toList.drop a) a ln acc.length)
/-- At the label 'behind'. -/
def LexJ1 (s : ByteArray) (w : World) (R : List Tok × Int × Int) (a' : Act) (w' : World) : Prop := ∃ (a z : Nat) (ln : Int) (acc : List Tok) (ao : Option Addr) (cap : Nat) (u9 : Value), (∃ U : Nat → Value, a' = { tmps := #[.string s, undef, .slice none 0 0, .pointer (some ⟨w.heap.size, 0, none⟩), .slice ao acc.length cap, .pointer (some ⟨w.heap.size + 1, 0, none⟩), .int .i64 0, .int .i64 (a : Int), .int .i64 ln, u9, .int .i64 (z : Int), U 11, U 12, U 13, U 14, U 15, U 16, U 17, U 18, U 19, U 20, U 21, U 22, U 23, U 24, U 25, U 26, U 27, U 28, U 29, U 30, U 31, U 32, U 33, U 34, U 35, U 36, U 37, U 38, U 39, U 40, U 41, U 42, U 43, U 44, U 45, U 46, U 47, U 48, U 49, U 50, U 51, U 52, U 53, U 54, U 55, U 56, U 57, U 58, U 59, U 60, U 61, U 62, U 63, U 64, U 65, U 66, U 67, U 68, U 69, U 70, U 71, U 72], defers := [] }) ∧ LexI s w w' (.slice ao acc.length cap) acc ∧ 1 ≤ z ∧ a + z ≤ s.size ∧ acc.length ≤ a + z ∧ 0 ≤ ln ∧ ln ≤ a ∧ R = comb acc (lexA (s.data.toList.drop (a + z)) (a + z) (ln + cntL ((s.data.toList.drop a).take z)) acc.length)
def lexMu (s : ByteArray) (a' : Act) : Nat := s.size - (intOf (a'.tmps.getD 7 undef)).toNat
/-- What Lex answers. -/
def LexQ (w : World) (R : List Tok × Int × Int) (e : Ending) (w' : World) : Prop := ∃ ao cap, e = .returned (.tuple #[.slice ao R.1.length cap, .agg #[.int .i64 R.2.1, .int .i64 R.2.2]]) ∧ TO w' (w.heap.size + 2) (.slice ao R.1.length cap) R.1 ∧ Ext w w'

set_option maxHeartbeats 4000000 in
set_option maxRecDepth 100000 in
theorem lex_any (s : ByteArray) (w : World) (m : Int) (hm : w.cell? ⟨0, 0, none⟩ = some (.int .i64 m)) :
    Calls Tryd.prog 8 #[.string s] w (LexQ w (lexP s.data.toList)) := by
  have hl := list_size s
  by_cases hbig : 8192 < s.size
  · have he : lexP s.data.toList = ([], 3, 0) := by unfold lexP; rw [if_pos (by omega)]
    rw [he]
    go_enter Tryd.func8, Tryd.ntmps8
    go_wp2
    go_step3
    go_wp2
    rw [Exit.noGoto_ret]
    refine bodyPost_ret (v := .tuple #[.slice none 0 0, .agg #[.int .i64 3, .int .i64 0]]) (by simp [results, Tryd.results8, go_sem]) rfl ⟨none, 0, rfl, TO.nil _ _, (Ext.refl w).alloc _⟩
  have he : lexP s.data.toList = comb [] (lexA s.data.toList 0 0 0) := by
    have := lexA_form s.data.toList 0 0 0
    rw [comb_nil _ this.1 this.2]
    unfold lexP
    rw [if_neg (by omega)]
  generalize lexP s.data.toList = R at *
  have HE := hide he
  have HM := hide hm
  clear he hm
  go_enter Tryd.func8, Tryd.ntmps8
  go_wp2
  refine wp_scope_two
    (LexJ0 s w R) (LexJ1 s w R) (fun a' _ => 2 * lexMu s a') (fun a' _ => 2 * lexMu s a' - 1) rfl rfl ?_ ?_ ?_
  · rintro a' w' ⟨a, z, ln, acc, ao, cap, u9, ⟨U, rfl⟩, hI, hz, haz, hacc, hln0, hln, hR⟩
    have HI := hide hI
    have HR := hide hR
    have hcnt := cntL_le ((s.data.toList.drop a).take z)
    have hcl : ((s.data.toList.drop a).take z).length = z := by
      rw [List.length_take, List.length_drop, hl]
      omega
    rw [hcl] at hcnt
    clear hI hR
    go_wp2_with fail
    refine (Tryd.strings_Count_one _ _ _).mono ?_
    rintro e w1 ⟨rfl, rfl⟩
    rw [Lib.extract_data, Nat.add_sub_cancel_left]
    rw [show Lib.countByte ((s.data.toList.drop a).take z) 10 = cntL ((s.data.toList.drop a).take z) from rfl]
    go_wp2
    go_step3
    refine jump2_goto0 ⟨⟨a + z, ln + cntL ((s.data.toList.drop a).take z), acc, ao, cap, _, _, frame_of (fun U => { tmps := #[.string s, undef, .slice none 0 0, .pointer (some ⟨w.heap.size, 0, none⟩), .slice ao acc.length cap, .pointer (some ⟨w.heap.size + 1, 0, none⟩), .int .i64 0, .int .i64 ((a + z : Nat) : Int), .int .i64 (ln + cntL ((s.data.toList.drop a).take z)), _, _, U 11, U 12, U 13, U 14, U 15, U 16, U 17, U 18, U 19, U 20, U 21, U 22, U 23, U 24, U 25, U 26, U 27, U 28, U 29, U 30, U 31, U 32, U 33, U 34, U 35, U 36, U 37, U 38, U 39, U 40, U 41, U 42, U 43, U 44, U 45, U 46, U 47, U 48, U 49, U 50, U 51, U 52, U 53, U 54, U 55, U 56, U 57, U 58, U 59, U 60, U 61, U 62, U 63, U 64, U 65, U 66, U 67, U 68, U 69, U 70, U 71, U 72], defers := [] }) _ rfl, unhide HI, haz, hacc, by omega, by omega, unhide HR⟩, ?_⟩
    simp [intOf, lexMu]
    omega
  · rintro a' w' ⟨a, ln, acc, ao, cap, u9, u10, ⟨U, rfl⟩, hI, ha, hacc, hln0, hln, hR⟩ behind
    have BH := hide behind
    clear behind
    have c0 := hI.spot.cell (i := 0) (v := .int .i64 0) rfl
    have c1 := hI.spot.cell (i := 1) (v := .int .i64 0) rfl
    have fz := fun i => hI.spot.free i
    obtain ⟨tk, tt, tn, tp, tl, hB⟩ := hI.tok
    have k0 := hB.cell (i := 0) (v := .int .i64 tk) rfl
    have k1 := hB.cell (i := 1) (v := .string tt) rfl
    have k2 := hB.cell (i := 2) (v := .int .i32 tn) rfl
    have k3 := hB.cell (i := 3) (v := .int .i64 tp) rfl
    have k4 := hB.cell (i := 4) (v := .int .i64 tl) rfl
    have fy := fun i => hB.free i
    by_cases hend : a = s.size
    · have hd : s.data.toList.drop a = [] := List.drop_of_length_le (by omega)
      rw [hd, lexA_nil] at hR
      have hR2 : R = (acc, 0, 0) := by rw [hR]; simp [comb]
      subst hR2
      have HI := hide hI
      have HB := hide hB
      clear hI hB hR HE HM hd
      go_wp2
      rw [jump2_ret]
      have B2 := ((unhide HI).spot.set 0 (.int .i64 0)).set 1 (.int .i64 0)
      refine bodyPost_ret (v := .tuple #[.slice ao acc.length cap, .agg #[.int .i64 0, .int .i64 0]]) (by simp [results, Tryd.results8, go_sem, B2.cell (i := 0) (v := .int .i64 0) rfl, B2.cell (i := 1) (v := .int .i64 0) rfl]) rfl ⟨ao, cap, rfl, ?_, ?_⟩
      · exact ((unhide HI).own.grown (grownBy_set _ _ 0 _) (by omega)).grown (grownBy_set _ _ 1 _) (by omega)
      · exact extSet (extSet (unhide HI).ext (Nat.le_refl _)) (Nat.le_refl _)
    · have hlt : a < s.size := by omega
      have hne : s.data.toList.drop a ≠ [] := by
        intro e
        have := congrArg List.length e
        rw [List.length_drop, hl] at this
        simp at this
        omega
      have hroom := piece_room _ hne
      rw [List.length_drop, hl] at hroom
      have HM2 : Hid (w'.cell? ⟨0, 0, none⟩ = some (.int .i64 m)) := by
        have := unhide HM
        rw [← hI.ext.cell (p := ⟨0, 0, none⟩) (World.block_lt_of_cell? w _ this)] at this
        exact this
      have HPC := hide (piece_any (s.extract a s.size) w' m (by rw [ByteArray.size_extract]; omega) (by rw [ByteArray.size_extract]; omega) (unhide HM2))
      rw [ext_list2] at HPC
      obtain ⟨k, z, hp⟩ : ∃ k z, pieceP (s.data.toList.drop a) = (k, z) := ⟨_, _, rfl⟩
      rw [hp] at HPC hroom
      simp only at HPC hroom
      have HP := hide hp
      have HR := hide hR
      have HI := hide hI
      have HB := hide hB
      have HN := hide hne
      clear hp hR hI hB hne HE HM HM2
      by_cases hk : k = -1
      · subst hk
        go_wp2_with fail
        refine (unhide HPC).mono ?_
        rintro e w1 ⟨rfl, rfl⟩
        go_wp2
        go_step3
        refine Or.inr ⟨rfl, ⟨a, z, ln, acc, ao, cap, _, frame_of (fun U => { tmps := #[.string s, undef, .slice none 0 0, .pointer (some ⟨w.heap.size, 0, none⟩), .slice ao acc.length cap, .pointer (some ⟨w.heap.size + 1, 0, none⟩), .int .i64 0, .int .i64 (a : Int), .int .i64 ln, .int .i64 (-1), .int .i64 (z : Int), U 11, U 12, U 13, U 14, U 15, U 16, U 17, U 18, U 19, U 20, U 21, U 22, U 23, U 24, U 25, U 26, U 27, U 28, U 29, U 30, U 31, U 32, U 33, U 34, U 35, U 36, U 37, U 38, U 39, U 40, U 41, U 42, U 43, U 44, U 45, U 46, U 47, U 48, U 49, U 50, U 51, U 52, U 53, U 54, U 55, U 56, U 57, U 58, U 59, U 60, U 61, U 62, U 63, U 64, U 65, U 66, U 67, U 68, U 69, U 70, U 71, U 72], defers := [] }) _ rfl, unhide HI, hroom.1, by omega, by omega, hln0, hln, ?_⟩, ?_⟩
        · rw [unhide HR, lexA_gap (unhide HN) (unhide HP), List.drop_drop]
        · simp [intOf, lexMu]
          omega
      · have hk' : (k == -1) = false := beq_eq_false_iff_ne.2 hk
        have HT := fun W => tell_any k (s.extract a (a + z)) (s.extract (a + z) s.size) acc.length W (by rw [ByteArray.size_extract]; omega)
        rw [Lib.extract_data, Nat.add_sub_cancel_left, ext_list2] at HT
        have HT := hide HT
        rename_i HT0
        clear HT0
        go_wp2_with fail
        refine (unhide HPC).mono ?_
        rintro e w1 ⟨rfl, rfl⟩
        clear HPC
        go_wp2
        have q1 : (0 : Int) ≤ (a : Int) + z := by omega
        have q2 : (a : Int) ≤ (a : Int) + z := by omega
        have q3 : (a : Int) + z ≤ s.size := by omega
        have q4 : ((a : Int) + z).toNat = a + z := by omega
        have q7 : (a : Int) ≤ s.size := by omega
        refine wp_region_noPanic ?_
        refine wp_region_held_drew (S := fun wx => Ext w wx) (by kernel_rfl) ((unhide HI).ext.drew) (fun HS => ?_)
        refine wpAnyH_take (i := 0) (oi := { dst := some 31, op := Op.move (Operand.tmp 9), type := 3, pos := _, after := _, guard := none }) (v := .int .i64 k) rfl (by kernel_rfl) (by kernel_rfl) (by kernel_rfl) (fun _ _ _ h => h) (Or.inl ⟨by rfl, fun wx hx => by go_simp⟩) HS ?_
        simp only [Act.put, List.setIfInBounds_toArray, List.set_cons_zero, List.set_cons_succ]
        refine wpAnyH_take (i := 1) (oi := { dst := some 32, op := Op.move (Operand.tmp 0), type := 9, pos := _, after := _, guard := none }) (v := .string s) rfl (by kernel_rfl) (by kernel_rfl) (by kernel_rfl) (fun _ _ _ h => h) (Or.inl ⟨by rfl, fun wx hx => by go_simp⟩) HS ?_
        simp only [Act.put, List.setIfInBounds_toArray, List.set_cons_zero, List.set_cons_succ]
        refine wpAnyH_take (i := 2) (oi := { dst := some 33, op := Op.move (Operand.tmp 7), type := 3, pos := _, after := _, guard := none }) (v := .int .i64 (a : Int)) rfl (by kernel_rfl) (by kernel_rfl) (by kernel_rfl) (fun _ _ _ h => h) (Or.inl ⟨by rfl, fun wx hx => by go_simp⟩) HS ?_
        simp only [Act.put, List.setIfInBounds_toArray, List.set_cons_zero, List.set_cons_succ]
        refine wpAnyH_take (i := 3) (oi := { dst := some 34, op := Op.move (Operand.tmp 7), type := 3, pos := _, after := _, guard := none }) (v := .int .i64 (a : Int)) rfl (by kernel_rfl) (by kernel_rfl) (by kernel_rfl) (fun _ _ _ h => h) (Or.inl ⟨by rfl, fun wx hx => by go_simp⟩) HS ?_
        simp only [Act.put, List.setIfInBounds_toArray, List.set_cons_zero, List.set_cons_succ]
        refine wpAnyH_take (i := 4) (oi := { dst := some 35, op := Op.move (Operand.tmp 10), type := 3, pos := _, after := _, guard := none }) (v := .int .i64 (z : Int)) rfl (by kernel_rfl) (by kernel_rfl) (by kernel_rfl) (fun _ _ _ h => h) (Or.inl ⟨by rfl, fun wx hx => by go_simp⟩) HS ?_
        simp only [Act.put, List.setIfInBounds_toArray, List.set_cons_zero, List.set_cons_succ]
        refine wpAnyH_take (i := 5) (oi := { dst := some 36, op := Op.binOp BinOp.add 3 (Operand.tmp 34) (Operand.tmp 35) 3, type := 3, pos := _, after := _, guard := none }) (v := .int .i64 ((a : Int) + z)) rfl (by kernel_rfl) (by kernel_rfl) (by kernel_rfl) (fun _ _ _ h => h) (Or.inl ⟨by rfl, fun wx hx => by go_simp; exact wrapIdX (by omega) (by omega)⟩) HS ?_
        simp only [Act.put, List.setIfInBounds_toArray, List.set_cons_zero, List.set_cons_succ]
        refine wpAnyH_take (i := 6) (oi := { dst := some 37, op := Op.slice 9 (Operand.tmp 32) (some (Operand.tmp 33)) (some (Operand.tmp 36)) none, type := 9, pos := _, after := _, guard := none }) (v := .string (s.extract a (a + z))) rfl (by kernel_rfl) (by kernel_rfl) (by kernel_rfl) (fun _ _ _ h => h) (Or.inl ⟨by rfl, fun wx hx => by go_simp⟩) HS ?_
        simp only [Act.put, List.setIfInBounds_toArray, List.set_cons_zero, List.set_cons_succ]
        refine wpAnyH_take (i := 7) (oi := { dst := some 38, op := Op.move (Operand.tmp 0), type := 9, pos := _, after := _, guard := none }) (v := .string s) rfl (by kernel_rfl) (by kernel_rfl) (by kernel_rfl) (fun _ _ _ h => h) (Or.inl ⟨by rfl, fun wx hx => by go_simp⟩) HS ?_
        simp only [Act.put, List.setIfInBounds_toArray, List.set_cons_zero, List.set_cons_succ]
        refine wpAnyH_take (i := 8) (oi := { dst := some 39, op := Op.move (Operand.tmp 7), type := 3, pos := _, after := _, guard := none }) (v := .int .i64 (a : Int)) rfl (by kernel_rfl) (by kernel_rfl) (by kernel_rfl) (fun _ _ _ h => h) (Or.inl ⟨by rfl, fun wx hx => by go_simp⟩) HS ?_
        simp only [Act.put, List.setIfInBounds_toArray, List.set_cons_zero, List.set_cons_succ]
        refine wpAnyH_take (i := 9) (oi := { dst := some 40, op := Op.move (Operand.tmp 10), type := 3, pos := _, after := _, guard := none }) (v := .int .i64 (z : Int)) rfl (by kernel_rfl) (by kernel_rfl) (by kernel_rfl) (fun _ _ _ h => h) (Or.inl ⟨by rfl, fun wx hx => by go_simp⟩) HS ?_
        simp only [Act.put, List.setIfInBounds_toArray, List.set_cons_zero, List.set_cons_succ]
        refine wpAnyH_take (i := 10) (oi := { dst := some 41, op := Op.binOp BinOp.add 3 (Operand.tmp 39) (Operand.tmp 40) 3, type := 3, pos := _, after := _, guard := none }) (v := .int .i64 ((a : Int) + z)) rfl (by kernel_rfl) (by kernel_rfl) (by kernel_rfl) (fun _ _ _ h => h) (Or.inl ⟨by rfl, fun wx hx => by go_simp; exact wrapIdX (by omega) (by omega)⟩) HS ?_
        simp only [Act.put, List.setIfInBounds_toArray, List.set_cons_zero, List.set_cons_succ]
        refine wpAnyH_take (i := 11) (oi := { dst := some 42, op := Op.slice 9 (Operand.tmp 38) (some (Operand.tmp 41)) none none, type := 9, pos := _, after := _, guard := none }) (v := .string (s.extract (a + z) s.size)) rfl (by kernel_rfl) (by kernel_rfl) (by kernel_rfl) (fun _ _ _ h => h) (Or.inl ⟨by rfl, fun wx hx => by go_simp⟩) HS ?_
        simp only [Act.put, List.setIfInBounds_toArray, List.set_cons_zero, List.set_cons_succ]
        refine wpAnyH_take (i := 12) (oi := { dst := some 43, op := Op.move (Operand.tmp 4), type := 23, pos := _, after := _, guard := none }) (v := .slice ao acc.length cap) rfl (by kernel_rfl) (by kernel_rfl) (by kernel_rfl) (fun _ _ _ h => h) (Or.inl ⟨by rfl, fun wx hx => by go_simp⟩) HS ?_
        simp only [Act.put, List.setIfInBounds_toArray, List.set_cons_zero, List.set_cons_succ]
        refine wpAnyH_take (i := 13) (oi := { dst := some 44, op := Op.call { callee := Callee.builtin Builtin.len, args := #[Operand.tmp 43], argTypes := #[23] }, type := 3, pos := _, after := _, guard := none }) (v := .int .i64 (acc.length : Int)) rfl (by kernel_rfl) (by kernel_rfl) (by kernel_rfl) (fun _ _ _ h => h) (Or.inl ⟨by rfl, fun wx hx => by go_simp⟩) HS ?_
        simp only [Act.put, List.setIfInBounds_toArray, List.set_cons_zero, List.set_cons_succ]
        refine wpAnyH_ready (rs := [14]) (by kernel_rfl) (by simp) (AllReadyH.cons (o := { dst := some 45, op := Op.call { callee := Callee.value (Operand.func 17), args := #[Operand.tmp 31, Operand.tmp 37, Operand.tmp 42, Operand.tmp 44], argTypes := #[3, 9, 9, 3] }, type := _, pos := _, after := _, guard := none }) rfl (fun KK hK => ?_) AllReadyH.nil)
        go_simp
        refine (unhide HT _).mono ?_
        rintro e w2 ⟨k', t', n', rfl, ht, hx2⟩
        have HI2 := hide ((unhide HI).ext2 ((Ext.drew (Ext.refl _)).trans hx2))
        have HB2 := hide ((unhide HB).ext ((Ext.drew (Ext.refl _)).trans hx2))
        have HS2 := HS.trans hx2
        clear hx2 HS HI HB
        have HS := HS2
        clear HS2
        refine hK.out _ _ HS (fun _ => ?_)
        clear hK KK
        try simp only [Act.put, List.setIfInBounds_toArray, List.set_cons_zero, List.set_cons_succ]
        refine wpAnyH_take (i := 15) (oi := { dst := some 30, op := Op.move (Operand.tmp 45), type := _, pos := _, after := _, guard := none }) (v := .tuple #[.agg #[.int .i64 k', .string t', .int .i32 n', .int .i64 0, .int .i64 0], .int .i64 (tellP k ((s.data.toList.drop a).take z) (s.data.toList.drop (a + z)) acc.length).2]) rfl (by kernel_rfl) (by kernel_rfl) (by kernel_rfl) (fun _ _ _ h => h) (Or.inl ⟨by rfl, fun wx hx => by go_simp⟩) HS ?_
        simp only [Act.put, List.setIfInBounds_toArray, List.set_cons_zero, List.set_cons_succ]
        refine wpAnyH_take (i := 16) (oi := { dst := some 46, op := Op.extract (Operand.tmp 30) 0, type := 33, pos := _, after := _, guard := none }) (v := .agg #[.int .i64 k', .string t', .int .i32 n', .int .i64 0, .int .i64 0]) rfl (by kernel_rfl) (by kernel_rfl) (by kernel_rfl) (fun _ _ _ h => h) (Or.inl ⟨by rfl, fun wx hx => by go_simp⟩) HS ?_
        simp only [Act.put, List.setIfInBounds_toArray, List.set_cons_zero, List.set_cons_succ]
        refine wpAnyH_take (i := 17) (oi := { dst := some 47, op := Op.extract (Operand.tmp 30) 1, type := 24, pos := _, after := _, guard := none }) (v := .int .i64 (tellP k ((s.data.toList.drop a).take z) (s.data.toList.drop (a + z)) acc.length).2) rfl (by kernel_rfl) (by kernel_rfl) (by kernel_rfl) (fun _ _ _ h => h) (Or.inl ⟨by rfl, fun wx hx => by go_simp⟩) HS ?_
        simp only [Act.put, List.setIfInBounds_toArray, List.set_cons_zero, List.set_cons_succ]
        refine wpAnyH_ready (rs := [18]) (by kernel_rfl) (by simp) (AllReadyH.cons (o := { dst := none, op := Op.store 33 (Operand.tmp 5) (Operand.tmp 46), type := _, pos := _, after := _, guard := none }) rfl (fun KK hK => ?_) AllReadyH.nil)
        refine Eq.mpr (if_pos (by rfl)) ?_
        refine wp_store_row 33 (.tmp 5) (.tmp 46) rfl _ #[.int .i64 k', .string t', .int .i32 n', .int .i64 0, .int .i64 0] rfl rfl 33 _ (unhide HB2) sizeTk rfl (by simp [Value.oneCell']) ?_
        refine hK.out _ _ (extRow HS (Nat.le_succ _)) (fun _ => ?_)
        clear hK KK
        have HS2 := extRow (cs := #[.int .i64 k', .string t', .int .i32 n', .int .i64 0, .int .i64 0]) HS (Nat.le_succ w.heap.size)
        clear HS
        have HS := HS2
        clear HS2
        try simp only [Act.put, List.setIfInBounds_toArray, List.set_cons_zero, List.set_cons_succ]
        refine wpAnyH_take (i := 19) (oi := { dst := some 6, op := Op.assign (Operand.tmp 47), type := 24, pos := _, after := _, guard := none }) (v := .int .i64 (tellP k ((s.data.toList.drop a).take z) (s.data.toList.drop (a + z)) acc.length).2) rfl (by kernel_rfl) (by kernel_rfl) (by kernel_rfl) (fun _ _ _ h => h) (Or.inl ⟨by rfl, fun wx hx => by go_simp⟩) HS ?_
        simp only [Act.put, List.setIfInBounds_toArray, List.set_cons_zero, List.set_cons_succ]
        refine wpAnyH_done (by kernel_rfl) ?_ _
        refine NoPanic.normal ?_
        have HB3 := hide (blkRow (cs' := #[.int .i64 k', .string t', .int .i32 n', .int .i64 0, .int .i64 0]) (unhide HB2))
        have HI3 : Hid (LexI s w (w2.setRow (w.heap.size + 1) #[.int .i64 k', .string t', .int .i32 n', .int .i64 0, .int .i64 0]) (.slice ao acc.length cap) acc) :=
          ⟨(unhide HI2).own.grown (grownRow _ _ _) (by omega), blkRowOther (unhide HI2).spot (by omega), ⟨_, _, _, _, _, unhide HB3⟩, HS, by rw [sizeRow]; exact (unhide HI2).room⟩
        generalize w2.setRow (w.heap.size + 1) #[.int .i64 k', .string t', .int .i32 n', .int .i64 0, .int .i64 0] = w3 at HB3 HI3 HS ⊢
        clear HB2 HI2 q1 q2 q3 q4 q7 c0 c1 fz k0 k1 k2 k3 k4 fy HT
        have HTT := hide ht
        clear ht
        generalize herr : tellP k ((s.data.toList.drop a).take z) (s.data.toList.drop (a + z)) acc.length = tp at *
        have c0 := (unhide HI3).spot.cell (i := 0) (v := .int .i64 0) rfl
        have c1 := (unhide HI3).spot.cell (i := 1) (v := .int .i64 0) rfl
        have fz := fun i => (unhide HI3).spot.free i
        have k0 := (unhide HB3).cell (i := 0) (v := .int .i64 k') rfl
        have k1 := (unhide HB3).cell (i := 1) (v := .string t') rfl
        have k2 := (unhide HB3).cell (i := 2) (v := .int .i32 n') rfl
        have k3 := (unhide HB3).cell (i := 3) (v := .int .i64 0) rfl
        have k4 := (unhide HB3).cell (i := 4) (v := .int .i64 0) rfl
        have fy := fun i => (unhide HB3).free i
        have HRR := hide herr
        clear herr
        by_cases hte : tp.2 = 0
        · obtain ⟨e1, e2, e3⟩ := unhide HTT hte
          clear HTT
          subst e1 e2 e3
          rw [ext_text s a (a + z), Nat.add_sub_cancel_left] at k1 HB3
          have hte' : (!(tp.2 == 0)) = false := by rw [hte]; rfl
          rw [hte]
          have HB5 := hide ((((unhide HB3).set 3 (.int .i64 (a : Int))).set 4 (.int .i64 ln)))
          have HI5 : Hid (LexI s w ((w3.setCell ⟨w.heap.size + 1, 3, none⟩ (.int .i64 (a : Int))).setCell ⟨w.heap.size + 1, 4, none⟩ (.int .i64 ln)) (.slice ao acc.length cap) acc) :=
            ⟨((unhide HI3).own.grown (grownBy_set _ _ 3 _) (by omega)).grown (grownBy_set _ _ 4 _) (by omega), ((unhide HI3).spot.other 3 _ (by omega)).other 4 _ (by omega), ⟨_, _, _, _, _, unhide HB5⟩, extSet (extSet HS (Nat.le_succ _)) (Nat.le_succ _), by simpa using (unhide HI3).room⟩
          go_wp2_with (at_builtin; refine wpList_append_tok rfl (.tmp 57) (.tmp 59) rfl (w.heap.size + 2) _ acc ⟨k', (s.data.toList.drop a).take z, tp.1, (a : Int), ln⟩ rfl ((unhide HI5).own.ext ((Ext.refl _).alloc _)) _ 1 rfl _ (blkAt (by simp)) ?c2 ?c3 ?_)
          case c2 => omega
          case c3 =>
            have := (unhide HI3).room
            simp
            omega
          intro ao2 cap2 w6 hown hgr
          have hob : ∀ g, (Value.slice ao acc.length cap).ownBlock = some g → w.heap.size + 2 ≤ g := fun g hg => (World.ownsRow.lt (unhide HI5).own g hg).1
          have hx6 : Ext w w6 := Below.trans ((unhide HI5).ext.alloc _) (grown_below hgr (Nat.le_trans (unhide HI5).ext.size (by rw [World.size_alloc]; omega)) (fun g hg => by have := hob g hg; omega))
          have hsp : Blk w6 w.heap.size spotZ 26 := blkGrownO ((unhide HI5).spot.alloc _) hgr (fun e => by have := hob _ e; omega)
          have htk : Blk w6 (w.heap.size + 1) _ 33 := blkGrownO ((unhide HB5).alloc _) hgr (fun e => by have := hob _ e; omega)
          have hrm : w.heap.size + 2 ≤ w6.heap.size := by
            have h1 := hgr.size
            have h2 := (unhide HI5).room
            rw [World.size_alloc] at h1
            omega
          obtain ⟨acc2, hacc2⟩ : ∃ A, A = acc ++ [(⟨k', (s.data.toList.drop a).take z, tp.1, (a : Int), ln⟩ : Tok)] := ⟨_, rfl⟩
          have hl2 : acc.length + 1 = acc2.length := by rw [hacc2]; simp
          rw [hl2, ← hacc2] at hown
          rw [hl2]
          have HI6 : Hid (LexI s w w6 (.slice ao2 acc2.length cap2) acc2) := ⟨hown, hsp, ⟨_, _, _, _, _, htk⟩, hx6, hrm⟩
          have hR6 : R = comb acc2 (lexA (s.data.toList.drop (a + z)) (a + z) (ln + cntL ((s.data.toList.drop a).take z)) acc2.length) := by
            rw [unhide HR, comb_tok (unhide HN) (unhide HP) hk acc a ln (by rw [List.drop_drop, unhide HRR]; exact hte), ← hl2, hacc2, List.drop_drop, unhide HRR]
          have HR6 := hide hR6
          clear hR6 hown hgr hob hx6 hsp htk hrm HI5 HB5 HI3 HB3 HS c0 c1 fz k0 k1 k2 k3 k4 fy HR HN HP HRR
          have HA := hide hacc2
          clear hacc2
          go_wp2
          go_step3
          rename_i hK
          refine hK _ _ (unhide BH _ _ ⟨a, z, ln, acc2, ao2, cap2, _, frame_of (fun U => { tmps := #[.string s, undef, .slice none 0 0, .pointer (some ⟨w.heap.size, 0, none⟩), .slice ao2 acc2.length cap2, .pointer (some ⟨w.heap.size + 1, 0, none⟩), .int .i64 0, .int .i64 (a : Int), .int .i64 ln, .int .i64 k', .int .i64 (z : Int), U 11, U 12, U 13, U 14, U 15, U 16, U 17, U 18, U 19, U 20, U 21, U 22, U 23, U 24, U 25, U 26, U 27, U 28, U 29, U 30, U 31, U 32, U 33, U 34, U 35, U 36, U 37, U 38, U 39, U 40, U 41, U 42, U 43, U 44, U 45, U 46, U 47, U 48, U 49, U 50, U 51, U 52, U 53, U 54, U 55, U 56, U 57, U 58, U 59, U 60, U 61, U 62, U 63, U 64, U 65, U 66, U 67, U 68, U 69, U 70, U 71, U 72], defers := [] }) _ rfl, unhide HI6, hroom.1, by omega, by omega, hln0, hln, unhide HR6⟩ ?_)
          simp [intOf, lexMu]
          omega
        · have hte' : (tp.2 == 0) = false := beq_eq_false_iff_ne.2 hte
          have hR2 : R = ([], tp.2, (a : Int)) := by
            rw [unhide HR, lexA_bad (unhide HN) (unhide HP) hk a ln acc.length (by rw [List.drop_drop, unhide HRR]; exact hte), List.drop_drop, unhide HRR]
            unfold comb
            rw [if_pos hte]
          subst hR2
          have B2 := ((unhide HI3).spot.set 0 (.int .i64 tp.2)).set 1 (.int .i64 (a : Int))
          have r0 := B2.cell (i := 0) (v := .int .i64 tp.2) rfl
          have r1 := B2.cell (i := 1) (v := .int .i64 (a : Int)) rfl
          have R0 := hide r0
          have R1 := hide r1
          clear r0 r1 B2 HTT HR HN HP
          go_wp2
          change bodyPost _ _ _ Exit.ret _ _
          refine bodyPost_ret (v := .tuple #[.slice none 0 0, .agg #[.int .i64 tp.2, .int .i64 (a : Int)]]) (by have r0 := unhide R0; have r1 := unhide R1; simp [results, Tryd.results8, go_sem, r0, r1]) rfl ⟨none, 0, rfl, TO.nil _ _, ?_⟩
          exact extSet (extSet HS (Nat.le_refl _)) (Nat.le_refl _)
  · intro again
    go_wp2
    go_step3
    rename_i hK
    refine hK _ _ (again _ _ ⟨0, 0, [], none, 0, _, _, frame_of (fun U => { tmps := #[.string s, undef, .slice none 0 0, .pointer (some ⟨w.heap.size, 0, none⟩), .slice none 0 0, .pointer (some ⟨w.heap.size + 1, 0, none⟩), .int .i64 0, .int .i64 0, .int .i64 0, _, _, U 11, U 12, U 13, U 14, U 15, U 16, U 17, U 18, U 19, U 20, U 21, U 22, U 23, U 24, U 25, U 26, U 27, U 28, U 29, U 30, U 31, U 32, U 33, U 34, U 35, U 36, U 37, U 38, U 39, U 40, U 41, U 42, U 43, U 44, U 45, U 46, U 47, U 48, U 49, U 50, U 51, U 52, U 53, U 54, U 55, U 56, U 57, U 58, U 59, U 60, U 61, U 62, U 63, U 64, U 65, U 66, U 67, U 68, U 69, U 70, U 71, U 72], defers := [] }) _ rfl, ?_, by omega, Nat.le_refl _, by omega, by omega, ?_⟩)
    · refine ⟨TO.nil _ _, (Blk.new w spotZ 26).alloc _, ⟨0, ⟨#[]⟩, 0, 0, 0, ?_⟩, ((Ext.refl w).alloc _).alloc _, by simp⟩
      have := Blk.new (w.alloc (.cells spotZ 26)) #[.int .i64 0, .string ⟨#[]⟩, .int .i32 0, .int .i64 0, .int .i64 0] 33
      rwa [show (w.alloc (.cells spotZ 26)).heap.size = w.heap.size + 1 by simp] at this
    · rw [List.drop_zero]
      exact unhide HE
end Go.Proofs.YtdcamcpffiilbaaDoor
