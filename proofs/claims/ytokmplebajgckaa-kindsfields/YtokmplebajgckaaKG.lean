/-
  strings.IndexRune of a text of few ASCII letters and a rune beyond them.
-/
import Derived.Test.YtokmplebajgckaaKA
import Derived.Test.YtokmplebajgckaaShelf
import Derived.Laws.Runes
import Derived.Laws.RangeAny
import Derived.Lib.OthersKept
import Derived.BigQuiet
import Derived.WalkMore
import Derived.WalkSmall
namespace Go.Proofs.Ytokmplebajgckaa
open Go.RowKit
set_option linter.unusedVariables false
set_option linter.unusedSimpArgs false

theorem ext_iterAt {a w : World} {k : Nat} {s : ByteArray} {pos : Nat} (h : Ext a w) (hk : a.heap.size ≤ k) : Ext a (w.iterAt k s pos) :=
  ⟨h.os, h.tape, h.output, by rw [Lib.iterAt_size]; exact h.size, fun i hi => (Lib.iterAt_other w k i s pos (by omega)).trans (h.block i hi)⟩

theorem idx_no : ∀ (l : List UInt8) (c : UInt8), (∀ b ∈ l, b ≠ c) → Lib.indexByte l c = -1
  | [], c, _ => rfl
  | b :: l, c, h => by
    unfold Lib.indexByte
    rw [if_neg (by simpa using h b (by simp)), idx_no l c (fun x hx => h x (by simp [hx]))]
    rfl
theorem idx_high (s : ByteArray) (hs : ∀ b ∈ s.data.toList, b.toNat < 128) (a e : Nat) (c : UInt8) (hc : 128 ≤ c.toNat) : Lib.indexByte (s.extract a e).data.toList ((c.toNat : Int).toNat.toUInt8) = -1 := by
  have e1 : ((c.toNat : Int).toNat.toUInt8) = c := by simp
  rw [e1]
  exact idx_no _ _ (fun b hb hbc => by have := hs b (mem_extract hb); rw [hbc] at this; omega)

set_option maxHeartbeats 4000000 in
set_option maxRecDepth 100000 in
theorem indexRune_high (s : ByteArray) (hs : ∀ b ∈ s.data.toList, b.toNat < 128) (hz : s.size ≤ 4) (r : Int) (h0 : 128 ≤ r) (w : World) :
    Calls Try.prog 42 #[.string s, .int .i32 r] w fun e w' => e = .returned (.int .i64 (-1)) ∧ Ext w w' := by
  have X0 := hide (Ext.refl w)
  have hlt : ¬ r < 128 := by omega
  have h00 : 0 ≤ r := by omega
  by_cases hr : r = 65533
  · subst hr
    have HS := hide hs
    go_enter Try.func42, Try.ntmps42
    go_wp2
    go_loopw [4] (fun g wr => g = .int .i64 0 ∧ ∃ pos : Nat, Hid (wr.heap[w.heap.size]? = some (.stringIter s pos)) ∧ Hid (Ext w wr)) (fun _ wr => s.size - wr.iterPos w.heap.size)
    case atStart => exact ⟨rfl, 0, World.iter_heap w s 0, (Ext.refl w).alloc _⟩
    case round =>
      obtain ⟨rfl, pos, hit, hx⟩ := hrel
      by_cases hp : pos < s.size
      · have ha : (s[pos]'hp).toNat < 128 := unhide HS _ (Array.getElem_mem_toList (xs := s.data) hp)
        have hnx : ∀ ty, (Instr.next (.pointer (some ⟨w.heap.size, 0, none⟩)) true ty).run Try.prog wr = _ := fun ty => Lib.run_next_ascii_at wr w.heap.size s pos ty (unhide hit) hp ha
        have hpos : wr.iterPos w.heap.size = pos := by simp [World.iterPos, unhide hit]
        have hit2 := hide (Lib.iterAt_heap wr w.heap.size s pos (pos + 1) (unhide hit))
        have hx2 := hide (ext_iterAt (s := s) (pos := pos + 1) (unhide hx) (Nat.le_refl w.heap.size))
        have hq : (((s[pos]'hp).toNat : Int) == 65533) = false := by rw [beq_eq_false_iff_ne]; omega
        generalize s[pos]'hp = c at *
        generalize wr.iterAt w.heap.size s (pos + 1) = w2 at *
        go_wp2
        go_roundw
        case rel => exact ⟨rfl, pos + 1, hit2, hx2⟩
        case measure =>
          have : w2.iterPos w.heap.size = pos + 1 := by simp [World.iterPos, unhide hit2]
          omega
      · have hnx : ∀ ty, (Instr.next (.pointer (some ⟨w.heap.size, 0, none⟩)) true ty).run Try.prog wr = _ := fun ty => Lib.run_next_end_at wr w.heap.size s pos ty (unhide hit) hp
        go_wp2
        go_ret
        exact ⟨rfl, unhide hx⟩
  · have q : (r == 65533) = false := by simp [hr]
    by_cases hv : r < 55296 ∨ (57343 < r ∧ r ≤ 1114111)
    · have hval : Utf8.valid r = true := by
        rw [validRune_eq]
        unfold validRune
        exact decide_eq_true (by omega)
      obtain ⟨e2, e4, elast⟩ := encode_facts r hval h0
      rcases (by omega : r < 55296 ∨ (¬ r < 55296 ∧ 57343 < r ∧ r ≤ 1114111)) with g1 | ⟨g1, g2, g3⟩
      · clear hv hval
        go_enter Try.func42, Try.ntmps42
        go_wp2
        go_step3
        go_wp2
        generalize Utf8.encode r = rs at *
        obtain ⟨n, hn⟩ : ∃ n : Nat, rs.size = n + 1 := ⟨rs.size - 1, by omega⟩
        rw [show (rs.size : Int) - 1 = (n : Int) by omega]
        have hnr : n < rs.size := by omega
        have el : 128 ≤ (rs[n]'hnr).toNat := by
          have := elast (by omega)
          simpa [hn] using this
        have HN := hide hn
        clear hn e2 e4 elast
        go_loopw [9] (fun i wr => i = .int .i64 (n : Int) ∧ wr = w) (fun _ _ => 0)
        case atStart => exact ⟨rfl, rfl⟩
        case round =>
          obtain ⟨rfl, rfl⟩ := hrel
          by_cases hin : n < s.size
          · have es : (s[n]'hin).toNat < 128 := hs _ (Array.getElem_mem_toList (xs := s.data) hin)
            have hne : ((s[n]'hin) == (rs[n]'hnr)) = false := by
              rw [beq_eq_false_iff_ne]
              intro e
              rw [e] at es
              omega
            go_wp2
            go_step3
            go_wp2
            have hne2 : (((s[n]'hin).toNat : Int) != ((rs[n]'hnr).toNat : Int)) = true := by
              rw [bne_iff_ne]
              omega
            generalize hsn : s[n]'hin = sn at *
            generalize hrn : rs[n]'hnr = rn at *
            have HIB := hide (fun wx => Try.strings_IndexByte (s.extract (n + 1) s.size) (rn.toNat : Int) wx)
            rw [idx_high s hs (n + 1) s.size rn el] at HIB
            have hw1 : IntKind.i64.wrap ((n : Int) + 1) = (n : Int) + 1 := wrap_small _ (by omega) (by omega)
            have hb1 : ((n : Int) + 1) ≤ (s.size : Int) := by omega
            have tn : ((n : Int) + 1).toNat = n + 1 := by omega
            have h0l : (0 : Int) ≤ (n : Int) + 1 := by omega
            have hnl : (n : Int) < (s.size : Int) := by omega
            have hnl2 : (n : Int) < (rs.size : Int) := by omega
            clear hne
            go_quiet (fail)
            have X1 := hide ((unhide X0).drewN nq)
            have HWD : Hid (∃ wd, wr.drewN nq = wd) := ⟨_, rfl⟩
            obtain ⟨wd, hwd⟩ := unhide HWD
            rw [hwd] at X1 ⊢
            have HW2 := hide hwd
            clear hwd HWD
            have XD := hide (fun k => (unhide X1).drewN k)
            go_wp2
            go_quiet (first | (go_at_call 47; refine Calls.quiet_of_same (unhide HIB _)))
            go_wp2
            rw [Exit.noGoto_ret]
            go_wp2
            rw [Exit.noGoto_ret]
            go_ret
            exact ⟨rfl, unhide XD _⟩
          · go_wp2
            rw [Exit.noGoto_ret]
            go_ret
            exact ⟨rfl, unhide X0⟩
      · clear hv hval
        go_enter Try.func42, Try.ntmps42
        go_wp2
        go_step3
        go_wp2
        generalize Utf8.encode r = rs at *
        obtain ⟨n, hn⟩ : ∃ n : Nat, rs.size = n + 1 := ⟨rs.size - 1, by omega⟩
        rw [show (rs.size : Int) - 1 = (n : Int) by omega]
        have hnr : n < rs.size := by omega
        have el : 128 ≤ (rs[n]'hnr).toNat := by
          have := elast (by omega)
          simpa [hn] using this
        have HN := hide hn
        clear hn e2 e4 elast
        go_loopw [9] (fun i wr => i = .int .i64 (n : Int) ∧ wr = w) (fun _ _ => 0)
        case atStart => exact ⟨rfl, rfl⟩
        case round =>
          obtain ⟨rfl, rfl⟩ := hrel
          by_cases hin : n < s.size
          · have es : (s[n]'hin).toNat < 128 := hs _ (Array.getElem_mem_toList (xs := s.data) hin)
            have hne : ((s[n]'hin) == (rs[n]'hnr)) = false := by
              rw [beq_eq_false_iff_ne]
              intro e
              rw [e] at es
              omega
            go_wp2
            go_step3
            go_wp2
            have hne2 : (((s[n]'hin).toNat : Int) != ((rs[n]'hnr).toNat : Int)) = true := by
              rw [bne_iff_ne]
              omega
            generalize hsn : s[n]'hin = sn at *
            generalize hrn : rs[n]'hnr = rn at *
            have HIB := hide (fun wx => Try.strings_IndexByte (s.extract (n + 1) s.size) (rn.toNat : Int) wx)
            rw [idx_high s hs (n + 1) s.size rn el] at HIB
            have hw1 : IntKind.i64.wrap ((n : Int) + 1) = (n : Int) + 1 := wrap_small _ (by omega) (by omega)
            have hb1 : ((n : Int) + 1) ≤ (s.size : Int) := by omega
            have tn : ((n : Int) + 1).toNat = n + 1 := by omega
            have h0l : (0 : Int) ≤ (n : Int) + 1 := by omega
            have hnl : (n : Int) < (s.size : Int) := by omega
            have hnl2 : (n : Int) < (rs.size : Int) := by omega
            clear hne
            go_quiet (fail)
            have X1 := hide ((unhide X0).drewN nq)
            have HWD : Hid (∃ wd, wr.drewN nq = wd) := ⟨_, rfl⟩
            obtain ⟨wd, hwd⟩ := unhide HWD
            rw [hwd] at X1 ⊢
            have HW2 := hide hwd
            clear hwd HWD
            have XD := hide (fun k => (unhide X1).drewN k)
            go_wp2
            go_quiet (first | (go_at_call 47; refine Calls.quiet_of_same (unhide HIB _)))
            go_wp2
            rw [Exit.noGoto_ret]
            go_wp2
            rw [Exit.noGoto_ret]
            go_ret
            exact ⟨rfl, unhide XD _⟩
          · go_wp2
            rw [Exit.noGoto_ret]
            go_ret
            exact ⟨rfl, unhide X0⟩
    · have g1 : ¬ r < 55296 := by omega
      by_cases g2 : 57343 < r
      · have g3 : ¬ r ≤ 1114111 := by omega
        clear hv
        go_enter Try.func42, Try.ntmps42
        go_wp2
        go_ret
        exact ⟨rfl, unhide X0⟩
      · clear hv
        go_enter Try.func42, Try.ntmps42
        go_wp2
        go_ret
        exact ⟨rfl, unhide X0⟩
end Go.Proofs.Ytokmplebajgckaa
