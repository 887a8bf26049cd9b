/-
  The places of a field's letters.
-/
import Derived.Test.YtokmplebajgckaaKG
import Derived.Test.YtokmplebajgckaaKD
import Derived.Laws.AppendOwnNone
namespace Go.Proofs.Ytokmplebajgckaa
open Go.RowKit
set_option linter.unusedVariables false
set_option linter.unusedSimpArgs false

/-- The places of letters in a row of letters; none, if one has none there. -/
def rowP (R : Byts8) : Byts8 → Option (List Int)
  | [] => some []
  | b :: l => if Lib.indexByte R b = -1 then none else (rowP R l).map (Lib.indexByte R b :: ·)
def firstRow (nm : Byts8) : List Byts8 → List Int
  | [] => []
  | R :: rs => match rowP R nm with | some l => l | none => firstRow nm rs
def row0 : ByteArray := ⟨#[120, 121, 122, 119]⟩
def row1 : ByteArray := ⟨#[114, 103, 98, 97]⟩
def row2 : ByteArray := ⟨#[115, 116, 112, 113]⟩
def rows3 : List ByteArray := [row0, row1, row2]
def cutR (n : Nat) (x : ByteArray) : Byts8 := (x.extract 0 n).data.toList
def placesP (nm : Byts8) (n : Nat) : List Int := if 4 < nm.length then [] else firstRow nm (rows3.map (cutR n))
def strB (l : List ByteArray) : Array Value := (l.map Value.string).toArray
theorem strB_at {w : World} {b : Nat} {t : TypeId} {l : List ByteArray} (h : Blk w b (strB l) t) (k : Nat) (hk : k < l.length) : w.cell? ⟨b, k, none⟩ = some (.string l[k]) := by
  refine h.cell ?_
  unfold strB
  rw [List.getElem?_toArray, List.getElem?_map, List.getElem?_eq_getElem hk]
  rfl
theorem rowP_cons (R : Byts8) (b : UInt8) (l : Byts8) : rowP R (b :: l) = if Lib.indexByte R b = -1 then none else (rowP R l).map (Lib.indexByte R b :: ·) := rfl
theorem rowP_high (R : Byts8) (hR : ∀ b ∈ R, b.toNat < 128) (b : UInt8) (hb : 128 ≤ b.toNat) (l : Byts8) : rowP R (b :: l) = none := by
  unfold rowP
  rw [if_pos (idx_no R b (fun x hx e => by have := hR x hx; rw [e] at this; omega))]
theorem drop_next (s : ByteArray) (pos : Nat) (h : pos < s.size) : s.data.toList.drop pos = s[pos] :: s.data.toList.drop (pos + 1) := by
  have h' : pos < s.data.toList.length := by simpa using h
  rw [List.drop_eq_getElem_cons h']
  rfl
theorem row_ok : ∀ x ∈ rows3, x.size = 4 ∧ ∀ b ∈ x.data.toList, b.toNat < 128 := by decide
theorem cut_low {x : ByteArray} (h : ∀ b ∈ x.data.toList, b.toNat < 128) (n : Nat) : ∀ b ∈ cutR n x, b.toNat < 128 := fun b hb => h b (mem_extract hb)

theorem own_iterAt {w : World} {K : Nat} {s : ByteArray} {p : Nat} {e : TypeId} {v : Value} {xs : List Int} (h : Own .i64 w (K + 1) e v xs) : Own .i64 (w.iterAt K s p) (K + 1) e v xs := ownsRow_iterAt h (Nat.lt_succ_self K) s p
theorem own_low {k : IntKind} {w : World} {b b' : Nat} {e : TypeId} {v : Value} {xs : List Int} (h : Own k w b e v xs) (hb : b' ≤ b) : Own k w b' e v xs := by
  obtain ⟨h1, h2⟩ := h
  refine ⟨h1, ?_⟩
  rcases h2 with h2 | ⟨g, cap, cur, a, b, c, d⟩
  · exact .inl h2
  · exact .inr ⟨g, cap, cur, a, by omega, c, d⟩
theorem own_set {k : IntKind} {w : World} {b R i : Nat} {e : TypeId} {v u : Value} {xs : List Int} (h : Own k w b e v xs) (hR : R < b) : Own k (w.setCell ⟨R, i, none⟩ u) b e v xs := by
  obtain ⟨h1, h2⟩ := h
  refine ⟨h1, ?_⟩
  rcases h2 with h2 | ⟨g, cap, cur, a, hg, c, d⟩
  · exact .inl h2
  · exact .inr ⟨g, cap, cur, a, hg, (heap_setCell_other w ⟨R, i, none⟩ g u (show g ≠ R by omega)).trans c, d⟩
theorem infoI : ∃ i, Try.prog.info? 3 = some i ∧ i.zero = some (.int .i64 0) ∧ i.size = 1 ∧ i.bytes = 8 := by
  have h : (Try.prog.info? 3).map (fun i => (i.zero, i.size, i.bytes)) = some (some (.int .i64 0), 1, 8) := by kernel_rfl
  cases hq : Try.prog.info? 3 with
  | none => rw [hq] at h; cases h
  | some i =>
    rw [hq] at h
    simp only [Option.map_some, Option.some.injEq, Prod.mk.injEq] at h
    exact ⟨i, rfl, h.1, h.2.1, h.2.2⟩

set_option maxHeartbeats 4000000 in
set_option maxRecDepth 100000 in
theorem places_any (s : ByteArray) (n : Nat) (h2 : 2 ≤ n) (h4 : n ≤ 4) (w : World) :
    Calls Try.prog 37 #[.string s, .int .i64 (n : Int)] w fun e w' => ∃ v, e = .returned v ∧ Own .i64 w' w.heap.size 3 v (placesP s.data.toList n) ∧ Ext w w' := by
  obtain ⟨P, hP⟩ : ∃ P, placesP s.data.toList n = P := ⟨_, rfl⟩
  rw [hP]
  unfold placesP at hP
  have hsz : s.data.toList.length = s.size := by simp
  by_cases hlen : 4 < s.data.toList.length
  · rw [if_pos hlen] at hP
    subst hP
    have q : (4 : Int) < (s.size : Int) := by omega
    have X0 := hide (Ext.refl w)
    go_enter Try.func37, Try.ntmps37
    go_wp2
    go_step3
    go_wp2
    rw [Exit.noGoto_ret]
    go_ret
    exact ⟨_, rfl, Own.nil _ _ _ _, unhide X0⟩
  · rw [if_neg hlen] at hP
    have q : ¬ (4 : Int) < (s.size : Int) := by omega
    have qd : decide ((4 : Int) < (s.size : Int)) = false := decide_eq_false q
    have hs4 : s.size ≤ 4 := by omega
    clear hlen
    have HP : Hid (firstRow s.data.toList (((rows3.drop 0)).map (cutR n)) = P) := hP
    clear hP
    have HRO := hide row_ok
    have HL : Hid (rows3.length = 3) := rfl
    have HCS : Hid (strB rows3 = #[.string ⟨#[120, 121, 122, 119]⟩, .string ⟨#[114, 103, 98, 97]⟩, .string ⟨#[115, 116, 112, 113]⟩]) := rfl
    have S0 := hide (Blk.new w (strB rows3) 9)
    have X0 := hide ((Ext.refl w).alloc (.cells (strB rows3) 9))
    go_enter Try.func37, Try.ntmps37
    go_wp2
    go_step3
    go_wp2
    go_step3
    go_wp2
    rw [← unhide HCS]
    clear HCS
    generalize w.alloc (.cells (strB rows3) 9) = w1 at S0 X0 ⊢
    generalize rows3 = L at *
    go_loopw [16] (fun i wr => ∃ k : Nat, k ≤ 3 ∧ i = .int .i64 (k : Int) ∧ Hid (firstRow s.data.toList ((L.drop k).map (cutR n)) = P) ∧ Hid (Blk wr w.heap.size (strB L) 9) ∧ Hid (Ext w wr)) (fun i _ => 3 - (intOf i).toNat)
    case atStart => exact ⟨0, by omega, rfl, HP, S0, X0⟩
    case round =>
      obtain ⟨k, hk, rfl, hp, hb, hx⟩ := hrel
      clear HP S0 X0
      by_cases hlt : k < 3
      · have hk2 : k < L.length := by rw [unhide HL]; exact hlt
        have cs := strB_at (unhide hb) k hk2
        have hro := unhide HRO L[k] (List.getElem_mem hk2)
        have hp2 := unhide hp
        rw [List.drop_eq_getElem_cons hk2, List.map_cons] at hp2
        unfold firstRow at hp2
        obtain ⟨x, hxx⟩ : ∃ x, x = L[k] := ⟨_, rfl⟩
        rw [← hxx] at cs hro hp2
        clear hxx hp
        obtain ⟨hx4, hlow⟩ := hro
        have HLOW := hide hlow
        have HP2 := hide hp2
        clear hp2 hlow
        have hkd : decide ((k : Int) < 3) = true := decide_eq_true (by omega)
        have hn0 : (0 : Int) ≤ (n : Int) := by omega
        have hnx4 : (n : Int) ≤ (x.size : Int) := by omega
        have X2 := hide ((unhide hx).alloc (.stringIter s 0))
        have B2 := hide ((unhide hb).alloc (.stringIter s 0))
        go_wp2
        have HIT := hide (World.iter_heap wr s 0)
        have hKw : w.heap.size < wr.heap.size := (unhide hb).lt
        have X3 : Hid (Ext w (wr.iter s 0)) := (unhide hx).alloc _
        have B3 : Hid (Blk (wr.iter s 0) w.heap.size (strB L) 9) := (unhide hb).alloc _
        have hK1 : wr.heap.size + 1 ≤ (wr.iter s 0).heap.size := by
          have : (wr.iter s 0).heap.size = wr.heap.size + 1 := World.size_alloc wr (.stringIter s 0)
          omega
        generalize wr.iter s 0 = w2 at HIT X3 B3 hK1 ⊢
        generalize wr.heap.size = K at *
        clear X2 B2 hx hb cs
        go_loopw [7] (fun l wq => ∃ (j : Nat) (xs : List Int), j ≤ s.size ∧ xs.length ≤ j ∧ K + 1 ≤ wq.heap.size ∧ Hid (wq.heap[K]? = some (.stringIter s j)) ∧ Hid (Own .i64 wq (K + 1) 3 l xs) ∧ Hid (rowP (cutR n x) s.data.toList = (rowP (cutR n x) (s.data.toList.drop j)).map (xs ++ ·)) ∧ Hid (Blk wq w.heap.size (strB L) 9) ∧ Hid (Ext w wq)) (fun _ wq => s.size - wq.iterPos K)
        case atStart => exact ⟨0, [], by omega, by simp, hK1, HIT, Own.nil _ _ _ _, (by show _ = _; simp), B3, X3⟩
        case round =>
          obtain ⟨j, xs, hj, hxl, hKq, hit, hown, hrow, hb, hx⟩ := hrel
          clear HIT X3 B3 hK1
          by_cases hp : j < s.size
          · have hrow2 := unhide hrow
            rw [drop_next s j hp] at hrow2
            by_cases ha : (s[j]'hp).toNat < 128
            · have hnx : ∀ ty, (Instr.next (.pointer (some ⟨K, 0, none⟩)) true ty).run Try.prog wr = _ := fun ty => Lib.run_next_ascii_at wr K s j ty (unhide hit) hp ha
              have hpos : wr.iterPos K = j := by simp [World.iterPos, unhide hit]
              have hit2 := hide (Lib.iterAt_heap wr K s j (j + 1) (unhide hit))
              have hx2 := hide (ext_iterAt (s := s) (pos := j + 1) (unhide hx) (show w.heap.size ≤ K by omega))
              have hb2 : Hid (Blk (wr.iterAt K s (j + 1)) w.heap.size (strB L) 9) := (Lib.iterAt_other wr K w.heap.size s (j + 1) (by omega)).trans (unhide hb)
              have hsz2 : (wr.iterAt K s (j + 1)).heap.size = wr.heap.size := Lib.iterAt_size _ _ _ _
              have hown2 : Hid (Own .i64 (wr.iterAt K s (j + 1)) (K + 1) 3 _ xs) := own_iterAt (unhide hown)
              have HIR := hide (fun wx => Try.strings_IndexRune_ascii (x.extract 0 n) ((s[j]'hp).toNat : Int) wx (by omega) (by omega))
              have ec : (((s[j]'hp).toNat : Int).toNat.toUInt8) = s[j]'hp := by simp
              rw [ec] at HIR
              rw [show (x.extract 0 n).data.toList = cutR n x from rfl] at HIR
              have hge := Lib.indexByte_ge (cutR n x) (s[j]'hp)
              have HROW := hide hrow2
              have hKq2 : K + 1 ≤ (wr.iterAt K s (j + 1)).heap.size := by omega
              clear hrow hrow2 ec hit hb hx hown hsz2
              generalize s[j]'hp = c at *
              generalize wr.iterAt K s (j + 1) = w3 at *
              have hun := unhide HROW
              rw [rowP_cons] at hun
              have HUN := hide hun
              clear hun HROW
              by_cases hid : Lib.indexByte (cutR n x) c = -1
              · have hno : rowP (cutR n x) s.data.toList = none := by
                  have := unhide HUN
                  rw [if_pos hid] at this
                  exact this
                have hp3 := unhide HP2
                rw [hno] at hp3
                have HP3 := hide hp3
                rw [hid] at HIR
                clear HUN hno hp3 hid hge HP2
                go_wp2_with fail
                refine (unhide HIR _).mono ?_
                rintro e w4 ⟨rfl, rfl⟩
                go_wp2
                go_roundw
                case rel => exact ⟨k + 1, by omega, by go_num, HP3, hb2, hx2⟩
                case measure => simp [intOf]; omega
              · obtain ⟨d, hd⟩ : ∃ d, Lib.indexByte (cutR n x) c = d := ⟨_, rfl⟩
                have hd0 : ¬ d < 0 := by omega
                have hrow3 : rowP (cutR n x) s.data.toList = (rowP (cutR n x) (s.data.toList.drop (j + 1))).map ((xs ++ [d]) ++ ·) := by
                  have := unhide HUN
                  rw [if_neg hid, hd] at this
                  rw [this, Option.map_map]
                  congr 1
                  funext l
                  simp
                have HROW3 := hide hrow3
                rw [hd] at HIR
                clear HUN hrow3 hid hge hd
                have HR1 := hide (Row.one .i64 w3 d 3)
                have HO1 := hide ((unhide hown2).alloc (.cells #[.int .i64 d] 3))
                have hLT := hide (fun g hg => (Own.lt (unhide HO1) g hg).1)
                have hit4 : Hid ((w3.alloc (.cells #[.int .i64 d] 3)).heap[K]? = some (.stringIter s (j + 1))) := (((Ext.refl w3).alloc (.cells #[.int .i64 d] 3)).block K (by omega)).trans (unhide hit2)
                have hb4 := hide ((unhide hb2).alloc (.cells #[.int .i64 d] 3))
                have hx4 := hide ((unhide hx2).alloc (.cells #[.int .i64 d] 3))
                have hs4' : (w3.alloc (.cells #[.int .i64 d] 3)).heap.size = w3.heap.size + 1 := by simp
                clear hit2 hb2 hx2 hown2
                obtain ⟨i0, hi, hz0, hz1, hz2⟩ := infoI
                go_wp2_with fail
                refine (unhide HIR _).mono ?_
                rintro e w4 ⟨rfl, rfl⟩
                go_wp2_with (at_builtin; refine wpList_append_Own rfl (.tmp 32) (.tmp 34) 41 rfl (K + 1) 3 i0 .i64 8 Try.underlying41 hi hz0 hz1 hz2 _ xs rfl (unhide HO1) _ [d] rfl (unhide HR1) ?c1 ?c2 ?c3 ?_)
                case c1 => simp [maxLen]; omega
                case c2 => simp; omega
                case c3 => omega
                intro v5 w5 hown5 hg5
                have hge5 : ∀ g, Value.ownBlock _ = some g → K + 1 ≤ g := unhide hLT
                have hx5 : Hid (Ext w w5) := Below.trans (unhide hx4) (grown_below hg5 (unhide hx4).size (fun g hg => by have := hge5 g hg; omega))
                have hit5 : Hid (w5.heap[K]? = some (.stringIter s (j + 1))) := (hg5.block K (by omega) (fun e => by have := hge5 K e.symm; omega)).trans (unhide hit4)
                have hb5 : Hid (Blk w5 w.heap.size (strB L) 9) := (hg5.block w.heap.size (by omega) (fun e => by have := hge5 w.heap.size e.symm; omega)).trans (unhide hb4)
                have hs5 : K + 1 ≤ w5.heap.size := by have := hg5.size; omega
                have ho5 := hide hown5
                clear hown5 hg5 hge5 hLT HR1 HO1 hit4 hb4 hx4 hs4'
                go_wp2
                go_roundw
                case rel => exact ⟨j + 1, xs ++ [d], by omega, (by simp; omega), hs5, hit5, ho5, HROW3, hb5, hx5⟩
                case measure =>
                  have : w5.iterPos K = j + 1 := by simp [World.iterPos, unhide hit5]
                  omega
            · have hh := decode_high s j hp (by omega)
              have hno : rowP (cutR n x) s.data.toList = none := by
                rw [hrow2, rowP_high _ (cut_low (unhide HLOW) n) _ (by omega)]
                rfl
              have hp3 := unhide HP2
              rw [hno] at hp3
              have HP3 := hide hp3
              have hnx : ∀ ty, (Instr.next (.pointer (some ⟨K, 0, none⟩)) true ty).run Try.prog wr = _ := fun ty => Lib.run_next_any_at wr K s j ty (unhide hit) hp
              have hx2 := hide (ext_iterAt (s := s) (pos := j + (Utf8.decode s j).2) (unhide hx) (show w.heap.size ≤ K by omega))
              have hb2 : Hid (Blk (wr.iterAt K s (j + (Utf8.decode s j).2)) w.heap.size (strB L) 9) := (Lib.iterAt_other wr K w.heap.size s (j + (Utf8.decode s j).2) (by omega)).trans (unhide hb)
              have hxs : (x.extract 0 n).size ≤ 4 := by rw [ByteArray.size_extract]; omega
              have HIR := hide (fun wx => indexRune_high (x.extract 0 n) (cut_low (unhide HLOW) n) hxs ((Utf8.decode s j).1 : Int) (by omega) wx)
              clear hrow hrow2 hno hp3 hit hb hx hown
              generalize (Utf8.decode s j).1 = r at *
              generalize wr.iterAt K s (j + (Utf8.decode s j).2) = w3 at *
              go_wp2_with fail
              refine (unhide HIR _).mono ?_
              rintro e w4 ⟨rfl, hx4⟩
              have hx5 := hide ((unhide hx2).trans hx4)
              have hb5 := hide ((unhide hb2).ext hx4)
              clear hx4
              go_wp2
              go_roundw
              case rel => exact ⟨k + 1, by omega, by go_num, HP3, hb5, hx5⟩
              case measure => simp [intOf]; omega
          · obtain rfl : j = s.size := by omega
            have hnx : ∀ ty, (Instr.next (.pointer (some ⟨K, 0, none⟩)) true ty).run Try.prog wr = _ := fun ty => Lib.run_next_end_at wr K s s.size ty (unhide hit) hp
            have hp3 : P = xs := by
              rw [← unhide HP2, unhide hrow, List.drop_of_length_le (by omega)]
              simp [rowP]
            subst hp3
            go_wp2
            rw [Exit.noGoto_ret]
            go_ret
            exact ⟨_, rfl, own_low (unhide hown) (by omega), unhide hx⟩
      · have hp2 := unhide hp
        rw [List.drop_of_length_le (by rw [unhide HL]; omega)] at hp2
        have hp3 : P = [] := hp2.symm
        subst hp3
        clear hp hp2
        go_wp2
        rw [Exit.noGoto_ret]
        go_ret
        exact ⟨_, rfl, Own.nil _ _ _ _, unhide hx⟩
end Go.Proofs.Ytokmplebajgckaa
