/-
  The walks of fix.Text: a number in digits.
-/
import Derived.Test.YtcakdniggepkoaaDoorFxB
import Derived.Test.YtcakdniggepkoaaDoorShelf
import Derived.Lib.ItoaMem
import Derived.Lib.LaidTab
import Derived.Lib.ItoaLen
import Derived.Sort.Grow
import Derived.Laws.BitsLemmas
namespace Go.Proofs.YtcakdniggepkoaaDoor
open Go.RowKit
set_option linter.unusedSimpArgs false
set_option linter.unusedVariables false

theorem ext_grow (w : World) (k : Nat) (os : Array Obj) : Ext w (Sort.grow (w.drewN k) os) :=
  ⟨rfl, rfl, rfl, by simp [Sort.grow, World.drewN], fun i hi => by simp only [Sort.grow]; rw [Array.getElem?_append_left (by exact hi)]; rfl⟩

/-- The table of the powers of ten that the library's numerals are written by. -/
def Tab (w : World) : Prop := Lib.TabIs Tryd.prog w "internal/strconv.uint64pow10" .u64 Lib.pow10Tab
theorem tab_no : Tryd.prog.globalNamed "internal/strconv.uint64pow10" = some 0 := by kernel_rfl
theorem Tab.ext {w w' : World} (h : Tab w) (hx : Ext w w') : Tab w' := by
  unfold Tab Lib.TabIs World.var? at *
  rw [tab_no] at *
  simp only [Option.bind_some] at *
  have hlt : 0 < w.heap.size := by
    rcases Nat.lt_or_ge 0 w.heap.size with h1 | h1
    · exact h1
    · rw [Array.getElem?_eq_none h1] at h
      cases h
  rw [hx.block _ hlt]
  exact h

/-- The digits behind the point, with it. -/
def partL (p : Nat) : List UInt8 :=
  if (p * 100000 + 32768) / 65536 = 0 then [] else 46 :: Lib.trimRightB ((Lib.decDigits (100000 + (p * 100000 + 32768) / 65536)).drop 1) 48
def textL (x : Int) : List UInt8 :=
  if x < 0 then 45 :: (Lib.decDigits (x.natAbs / 65536) ++ partL (x.natAbs % 65536)) else Lib.decDigits (x.natAbs / 65536) ++ partL (x.natAbs % 65536)

theorem nd_small {u : Nat} (h : u < 9223372036854775807) : (Lib.decDigits u).length ≤ 21 := by
  have := Lib.itoa_length_le (u : Int) (by omega) (by omega)
  rwa [Lib.itoa_nonneg] at this

theorem trimR_len (l : List UInt8) (c : UInt8) : (Lib.trimRightB l c).length ≤ l.length := by
  unfold Lib.trimRightB
  have h := (List.dropWhile_sublist (fun x => x == c) (l := l.reverse)).length_le
  rw [List.length_reverse] at h ⊢
  exact h

/-- Bytes as a string. -/
def bstr (l : List UInt8) : ByteArray := ⟨l.toArray⟩
theorem bstr_app (a b : List UInt8) : (⟨a.toArray⟩ : ByteArray) ++ (⟨b.toArray⟩ : ByteArray) = ⟨(a ++ b).toArray⟩ := by
  apply ByteArray.ext
  simp

set_option maxHeartbeats 1000000 in
theorem partText_any (p : Nat) (w : World) (hp : p < 65536) (ht : Tab w) :
    Calls Tryd.prog 17 #[.int .i64 p] w fun e w' => e = .returned (.string ⟨(partL p).toArray⟩) ∧ Ext w w' := by
  have T := hide ht
  clear ht
  have hF : (p * 100000 + 32768) / 65536 < 100000 := by omega
  have hFe : (((p : Int) * 100000 + 65536 / 2) / 65536) = (((p * 100000 + 32768) / 65536 : Nat) : Int) := by omega
  have hpl : Hid (partL p = if (p * 100000 + 32768) / 65536 = 0 then [] else 46 :: Lib.trimRightB ((Lib.decDigits (100000 + (p * 100000 + 32768) / 65536)).drop 1) 48) := rfl
  go_enter Tryd.func17, Tryd.ntmps17
  go_wp2_with fail
  refine (nearest_any _ _ _ (by omega) (by omega) (by omega) (by omega)).mono ?_
  rintro e w1 ⟨rfl, rfl⟩
  rw [hFe]
  clear hFe
  generalize (p * 100000 + 32768) / 65536 = F at *
  by_cases h0 : F = 0
  · subst h0
    go_wp2
    go_ret
    refine ⟨?_, Ext.refl _⟩
    rw [unhide hpl]
    rfl
  · have t0 : ((F : Int) == 0) = false := by simp; omega
    have hlen : (Lib.decDigits (100000 + F)).length = 6 := by rw [Lib.decDigits_length, Lib.nDigits_unique 5 _ (by omega) (by omega)]
    have hit : Lib.itoa (100000 + (F : Int)) = Lib.decDigits (100000 + F) := by rw [← Lib.itoa_nonneg]; rfl
    go_wp2_with fail
    refine (Tryd.strconv_FormatInt_10 _ (by omega) (by omega) _ (unhide T)).mono ?_
    rintro e w2 ⟨rfl, k, os, rfl⟩
    rw [hit]
    have hsz : (⟨(Lib.decDigits (100000 + F)).toArray⟩ : ByteArray).size = 6 := by rw [Lib.size_mk, hlen]
    have X := hide (ext_grow w1 k os)
    generalize Sort.grow (w1.drewN k) os = w2 at *
    go_wp2_with fail
    have hex : (⟨(Lib.decDigits (100000 + F)).toArray⟩ : ByteArray).extract 1 6 = ⟨((Lib.decDigits (100000 + F)).drop 1).toArray⟩ := by
      rw [Lib.extract_mk, List.take_of_length_le (by simp; omega)]
    rw [hex]
    refine (Tryd.strings_TrimRight_one _ 48 (by decide) _ (by rw [Lib.size_mk]; simp; omega)).mono ?_
    rintro e w3 ⟨rfl, rfl⟩
    have hle : (Lib.trimRightB ((Lib.decDigits (100000 + F)).drop 1) 48).length ≤ 5 := by
      have h := trimR_len ((Lib.decDigits (100000 + F)).drop 1) 48
      simp only [List.length_drop] at h
      omega
    have hpl2 : partL p = 46 :: Lib.trimRightB ((Lib.decDigits (100000 + F)).drop 1) 48 := by rw [unhide hpl, if_neg h0]
    have HL := hide hpl2
    clear hpl hpl2 hex hsz hit hlen
    generalize Lib.trimRightB ((Lib.decDigits (100000 + F)).drop 1) 48 = tl at *
    go_wp2
    go_ret
    refine ⟨?_, unhide X⟩
    rw [unhide HL]
    exact congrArg (fun b => Ending.returned (.string b)) (bstr_app [46] tl)

theorem partL_len (p : Nat) (hp : p < 65536) : (partL p).length ≤ 6 := by
  unfold partL
  split
  · simp
  · have h := trimR_len ((Lib.decDigits (100000 + (p * 100000 + 32768) / 65536)).drop 1) 48
    rw [List.length_drop, Lib.decDigits_length, Lib.nDigits_unique 5 _ (by omega) (by omega)] at h
    simp only [List.length_cons]
    omega

theorem i64_and65535 (n : Int) : bits .and .i64 n 65535 = n % 65536 := by
  have h127 : (BitVec.ofInt 64 65535).toNat = 2 ^ 16 - 1 := by decide
  have key : (BitVec.ofInt 64 n &&& BitVec.ofInt 64 65535).toNat = (n % ((2 ^ 64 : Nat) : Int)).toNat % 2 ^ 16 := by
    rw [BitVec.toNat_and, BitVec.toNat_ofInt, h127, Nat.and_two_pow_sub_one_eq_mod]
  show IntKind.i64.wrap ((BitVec.ofInt 64 n &&& BitVec.ofInt 64 65535).toNat : Nat) = n % 65536
  rw [key, IntKind.wrap_i64]
  omega

set_option maxHeartbeats 1000000 in
theorem text_any (x : Int) (w : World) (hx : I32 x) (ht : Tab w) :
    Calls Tryd.prog 7 #[.int .i32 x] w fun e w' => e = .returned (.string ⟨(textL x).toArray⟩) ∧ Ext w w' := by
  have T := hide ht
  clear ht
  have hb : x.natAbs ≤ 2147483648 := by unfold I32 at hx; omega
  have hd : Hid ((x.natAbs : Int) / 65536 = ((x.natAbs / 65536 : Nat) : Int)) := by show _ = _; omega
  have hm : Hid ((x.natAbs : Int) % 65536 = ((x.natAbs % 65536 : Nat) : Int)) := by show _ = _; omega
  have hand := i64_and65535 (x.natAbs : Int)
  have htl : Hid (textL x = if x < 0 then 45 :: (Lib.decDigits (x.natAbs / 65536) ++ partL (x.natAbs % 65536)) else Lib.decDigits (x.natAbs / 65536) ++ partL (x.natAbs % 65536)) := rfl
  go_enter Tryd.func7, Tryd.ntmps7
  go_wp2_with fail
  refine (magnitude_any _ _ hx).mono ?_
  rintro e w1 ⟨rfl, rfl⟩
  unfold I32 at hx
  go_wp2_with fail
  rw [unhide hd]
  refine (Tryd.strconv_FormatInt_10 _ (by omega) (by omega) _ (unhide T)).mono ?_
  rintro e w2 ⟨rfl, k, os, rfl⟩
  rw [Lib.itoa_nonneg]
  have X := hide (ext_grow w1 k os)
  generalize Sort.grow (w1.drewN k) os = w2 at *
  go_wp2_with fail
  rw [unhide hm]
  refine (partText_any _ _ (by omega) ((unhide T).ext (unhide X))).mono ?_
  rintro e w3 ⟨rfl, hx3⟩
  have X3 := hide ((unhide X).trans hx3)
  clear hx3 X hd hm hand
  have hds := nd_small (u := x.natAbs / 65536) (by omega)
  have hps := partL_len (x.natAbs % 65536) (by omega)
  generalize Lib.decDigits (x.natAbs / 65536) = ds at *
  generalize partL (x.natAbs % 65536) = ps at *
  have happ := bstr_app ds ps
  by_cases hn : x < 0
  · go_wp2
    go_ret
    refine ⟨?_, unhide X3⟩
    rw [unhide htl, if_pos hn]
    exact congrArg (fun b => Ending.returned (.string b)) (bstr_app [45] (ds ++ ps))
  · go_wp2
    go_ret
    refine ⟨?_, unhide X3⟩
    rw [unhide htl, if_neg (by omega)]
    rfl

end Go.Proofs.YtcakdniggepkoaaDoor
