/- Several texts in one. -/
import Derived.Test.YtjfhhhabcbkahaaGreatTO5J
import Derived.Shelf.Abstract
import Derived.Laws.EntriesVeiled
import Derived.BigQuiet
import Derived.Laws.Tables
import Derived.Test.YtjfhhhabcbkahaaGreatLem
import Derived.Test.YtjfhhhabcbkahaaGreatBlk
import Derived.Maps.AppendAt
import Derived.Deep.RegionLaw
import Derived.BigRegion
import Derived.OrdersHeld
import Derived.Deep.RegionHeld
/-
  Nodes that are read: which trees are the same (the program's Same).
-/
namespace Go.Proofs.YtjfhhhabcbkahaaGreat
open Go.RowKit
set_option linter.unusedVariables false
set_option linter.unusedSimpArgs false

set_option maxRecDepth 10000 in
set_option maxHeartbeats 2000000 in
theorem eqI_any (ao ap : Option Addr) (cap cbp : Nat) (xs ys : List Int) (w : World) (hr : Row .i64 w (.slice ao xs.length cap) xs) (hs : Row .i64 w (.slice ap ys.length cbp) ys) :
    Calls Tryz.prog 21 #[.slice ao xs.length cap, .slice ap ys.length cbp] w fun e w' => e = .returned (.bool (decide (xs = ys))) ∧ Ext w w' := by
  have hcp : xs.length ≤ cap ∧ cap ≤ 9223372036854775807 ∧ ys.length ≤ cbp ∧ cbp ≤ 9223372036854775807 := by
    obtain ⟨_, _, e9, _, h9, h10⟩ := hr.shape
    cases e9
    obtain ⟨_, _, e9, _, h11, h12⟩ := hs.shape
    cases e9
    unfold maxLen at h10 h12
    exact ⟨h9, by omega, h11, by omega⟩
  obtain ⟨hc1, hc2, hc3, hc4⟩ := hcp
  have HR := hide hr
  have HS := hide hs
  clear hr hs
  by_cases el : xs.length = ys.length
  case neg =>
    have E := hide (decide_eq_false (fun c : xs = ys => el (by rw [c])))
    have d0 : ((xs.length : Int) != (ys.length : Int)) = true := by simp; omega
    clear el
    go_enter Tryz.func21, Tryz.ntmps21
    go_wp2
    go_ret
    rw [unhide E]
    exact ⟨rfl, Ext.refl _⟩
  case pos =>
  have HL := hide el
  rw [← el] at HS hc3 ⊢
  clear el
  go_enter Tryz.func21, Tryz.ntmps21
  go_wp2
  go_loopw [13] (fun iv wr => ∃ k n : Nat, k ≤ xs.length ∧ iv = .int .i64 (k : Int) ∧ wr = w.drewN n ∧ xs.take k = ys.take k) (fun iv _ => xs.length - (intOf iv).toNat)
  case atStart => exact ⟨0, 0, Nat.zero_le _, rfl, rfl, by simp⟩
  case round =>
    obtain ⟨k, n, hk, rfl, rfl, htk⟩ := hrel
    have HT := hide htk
    by_cases hlt : k < xs.length
    · have hkn : (k : Int) < (xs.length : Int) := by omega
      have hkM : k < ys.length := by rw [← unhide HL]; exact hlt
      obtain ⟨b, off, ea, hc⟩ := (unhide HR).at k hlt
      obtain ⟨b', off', ea', hc'⟩ := (unhide HS).at k hkM
      subst ea
      subst ea'
      have c0 := hc k hlt
      have c0' := hc' k (by first | exact hkM | exact hlt)
      have HNE : Hid (xs[k] ≠ ys[k] → decide (xs = ys) = false) := fun hne => decide_eq_false fun c => hne (by subst c; rfl)
      have HEQ : Hid (xs[k] = ys[k] → xs.take (k + 1) = ys.take (k + 1)) := fun heq => by
        rw [List.take_succ_eq_append_getElem hlt, List.take_succ_eq_append_getElem hkM, unhide HT, heq]
      generalize xs[k] = x at *
      generalize ys[k] = y at *
      clear hc hc' htk
      by_cases d : x = y
      case neg =>
        have E := hide (unhide HNE d)
        have d0 : (x != y) = true := by simp [d]
        clear HNE HEQ d
        go_upto_region 6 with fail
        go_quiet (fail)
        go_wp2
        go_ret
        rw [unhide E]
        exact ⟨rfl, ((Ext.refl w).drewN n).drewN _⟩
      case pos =>
        have E := hide (unhide HEQ d)
        subst d
        clear HNE HEQ
        go_upto_region 6 with fail
        go_quiet (fail)
        go_wp2
        go_roundw
        case rel => exact ⟨k + 1, n + nq, by omega, by go_num, by first | rfl | exact drewN_drewN _ _ _, unhide E⟩
        case measure => simp [intOf]; omega
    · obtain rfl : k = xs.length := by omega
      have E := hide (decide_eq_true (show xs = ys by
        have h1 := unhide HT
        rw [List.take_of_length_le (by omega), List.take_of_length_le (by rw [unhide HL]; omega)] at h1
        exact h1))
      clear htk HT
      go_wp2
      go_ret
      rw [unhide E]
      exact ⟨rfl, (Ext.refl w).drewN n⟩

/-- A node, its kids' numbers whatever they are. -/
structure Ndi where
  kind : Int
  ty : Byts8
  text : Byts8
  num : Int
  kids : List Int
  place : Int
abbrev NtI := Value × Ndi
/-- A node in memory. -/
structure NAt (w : World) (b off : Nat) (p : NtI) : Prop where
  kind : w.cell? ⟨b, off, none⟩ = some (.int .i64 p.2.kind)
  ty : w.cell? ⟨b, off + 1, none⟩ = some (.string ⟨p.2.ty.toArray⟩)
  text : w.cell? ⟨b, off + 2, none⟩ = some (.string ⟨p.2.text.toArray⟩)
  num : w.cell? ⟨b, off + 3, none⟩ = some (.int .i32 p.2.num)
  kids : w.cell? ⟨b, off + 4, none⟩ = some p.1
  place : w.cell? ⟨b, off + 5, none⟩ = some (.int .i64 p.2.place)
  row : Row .i64 w p.1 p.2.kids
theorem NAt.ext {w w' : World} {b off : Nat} {p : NtI} (h : NAt w b off p) (hx : Ext w w') : NAt w' b off p := by
  have hc : ∀ j u, w.cell? ⟨b, j, none⟩ = some u → w'.cell? ⟨b, j, none⟩ = some u := fun j u hu => by
    rw [hx.cell (p := ⟨b, j, none⟩) (World.block_lt_of_cell? w _ hu)]
    exact hu
  exact ⟨hc _ _ h.kind, hc _ _ h.ty, hc _ _ h.text, hc _ _ h.num, hc _ _ h.kids, hc _ _ h.place, h.row.ext hx⟩
/-- A row of nodes that is read. -/
def NL (w : World) (v : Value) (ns : List NtI) : Prop := ∃ ao cap, v = .slice ao ns.length cap ∧ (ao = none → cap = 0) ∧ ns.length ≤ cap ∧ cap ≤ maxLen ∧ ∀ i (h : i < ns.length), ∃ b off, ao = some ⟨b, off, none⟩ ∧ NAt w b (off + i * 6) ns[i]
theorem NL.ext {w w' : World} {v : Value} {ns : List NtI} (h : NL w v ns) (hx : Ext w w') : NL w' v ns := by
  obtain ⟨ao, cap, e, h1, h2, h3, h4⟩ := h
  refine ⟨ao, cap, e, h1, h2, h3, fun i hi => ?_⟩
  obtain ⟨b, off, e2, c⟩ := h4 i hi
  exact ⟨b, off, e2, c.ext hx⟩
theorem NL.at {w : World} {ao : Option Addr} {n cap : Nat} {ns : List NtI} (h : NL w (.slice ao n cap) ns) (i : Nat) (hi : i < ns.length) : ∃ b off, ao = some ⟨b, off, none⟩ ∧ NAt w b (off + i * 6) ns[i] := by
  obtain ⟨ao', cap', e, _, _, _, h4⟩ := h
  have e1 := (Value.slice.inj e).1
  subst e1
  exact h4 i hi
def nkey (n : Ndi) : Int × Byts8 × Byts8 × Int × List Int := (n.kind, n.ty, n.text, n.num, n.kids)
def nkeys (A : List NtI) : List (Int × Byts8 × Byts8 × Int × List Int) := A.map (fun p => nkey p.2)
def nodEq (a b : Ndi) : Bool := decide (nkey a = nkey b)
theorem nodEq_iff (a b : Ndi) : nodEq a b = (a.kind == b.kind && (a.ty == b.ty && (a.text == b.text && (a.num == b.num && decide (a.kids = b.kids))))) := by
  unfold nodEq nkey
  rw [Bool.eq_iff_iff]
  simp [Prod.mk.injEq]
/-- Whether nodes are the same, wherever they stand. -/
def sameN (A B : List NtI) : Bool := decide (nkeys A = nkeys B)
theorem nkeys_len (A : List NtI) : (nkeys A).length = A.length := by simp [nkeys]
theorem nkeys_step (A B : List NtI) (k : Nat) (hA : k < A.length) (hB : k < B.length) (h : nkeys (A.take k) = nkeys (B.take k)) : nkeys (A.take (k + 1)) = nkeys (B.take (k + 1)) ↔ nkey A[k].2 = nkey B[k].2 := by
  rw [List.take_succ_eq_append_getElem hA, List.take_succ_eq_append_getElem hB]
  unfold nkeys at *
  rw [List.map_append, List.map_append, h]
  simp
theorem nkeys_take (A B : List NtI) (k : Nat) (h : nkeys A = nkeys B) : nkeys (A.take k) = nkeys (B.take k) := by
  unfold nkeys at *
  rw [List.map_take, List.map_take, h]
set_option maxHeartbeats 2000000 in
set_option maxRecDepth 10000 in
theorem alikeN_any (a b : Ndi) (ao bo : Option Addr) (ca cb : Nat) (w : World) (hA : Row .i64 w (.slice ao a.kids.length ca) a.kids) (hB : Row .i64 w (.slice bo b.kids.length cb) b.kids) :
    Calls Tryz.prog 12 #[.agg #[.int .i64 a.kind, .string ⟨a.ty.toArray⟩, .string ⟨a.text.toArray⟩, .int .i32 a.num, .slice ao a.kids.length ca, .int .i64 a.place], .agg #[.int .i64 b.kind, .string ⟨b.ty.toArray⟩, .string ⟨b.text.toArray⟩, .int .i32 b.num, .slice bo b.kids.length cb, .int .i64 b.place]] w fun e w' => e = .returned (.bool (nodEq a b)) ∧ Ext w w' := by
  rw [nodEq_iff]
  have HQ := hide (fun wx (hx : Ext w wx) => eqI_any ao bo ca cb a.kids b.kids wx (hA.ext hx) (hB.ext hx))
  clear hA hB
  obtain ⟨k1, y1, t1, n1, c1, p1⟩ := a
  obtain ⟨k2, y2, t2, n2, c2, p2⟩ := b
  simp only at HQ ⊢
  have X := hide (((Ext.refl w).alloc (.cells #[.int .i64 k1, .string ⟨y1.toArray⟩, .string ⟨t1.toArray⟩, .int .i32 n1, .slice ao c1.length ca, .int .i64 p1] 39)).alloc (.cells #[.int .i64 k2, .string ⟨y2.toArray⟩, .string ⟨t2.toArray⟩, .int .i32 n2, .slice bo c2.length cb, .int .i64 p2] 39))
  go_enter Tryz.func12, Tryz.ntmps12
  by_cases hk : k1 = k2
  · subst hk
    by_cases hy : y1 = y2
    · subst hy
      by_cases ht : t1 = t2
      · subst ht
        by_cases hn : n1 = n2
        · subst hn
          generalize decide (c1 = c2) = dc at *
          go_wp2_with fail
          refine (unhide HQ _ (unhide X)).mono ?_
          rintro e w2 ⟨rfl, hx2⟩
          have X2 := hide ((unhide X).trans hx2)
          clear hx2
          go_wp2
          go_ret
          exact ⟨by simp, unhide X2⟩
        · have hn' : (n1 == n2) = false := beq_eq_false_iff_ne.2 hn
          go_wp2
          go_ret
          exact ⟨by simp [hn'], unhide X⟩
      · have ht' : (t1 == t2) = false := beq_eq_false_iff_ne.2 ht
        go_wp2
        go_ret
        exact ⟨by simp [ht'], unhide X⟩
    · have hy' : (y1 == y2) = false := beq_eq_false_iff_ne.2 hy
      go_wp2
      go_ret
      exact ⟨by simp [hy'], unhide X⟩
  · have hk' : (k1 == k2) = false := beq_eq_false_iff_ne.2 hk
    go_wp2
    go_ret
    exact ⟨by simp [hk'], unhide X⟩

set_option maxHeartbeats 1000000 in
set_option maxRecDepth 100000 in
theorem equalN_any (A B : List NtI) (ao bo : Option Addr) (ca cb : Nat) (w : World) (hA : NL w (.slice ao A.length ca) A) (hB : NL w (.slice bo B.length cb) B) (eg : ∀ args w, (callFunc 12 args).run Tryz.prog w = .ok (.enter 12 args) w) :
    Calls Tryz.prog 11 #[.slice ao A.length ca, .slice bo B.length cb, .func (.func 12) #[] #[]] w fun e w' => e = .returned (.bool (sameN A B)) ∧ Ext w w' := by
  have HA := hide hA
  have HB := hide hB
  have hbig : B.length ≤ 9223372036854775807 := by
    obtain ⟨_, _, _, _, h1, h2, _⟩ := hB
    unfold maxLen at h2
    omega
  clear hA hB
  by_cases hlen : A.length = B.length
  · have hl' : (!((A.length : Int) == (B.length : Int))) = false := by rw [hlen]; simp
    go_enter Tryz.func11, Tryz.ntmps11
    rw [hlen]
    go_wp2
    go_loopw [17] (fun iv wr => ∃ k : Nat, k ≤ B.length ∧ iv = .int .i64 k ∧ nkeys (A.take k) = nkeys (B.take k) ∧ Ext w wr) (fun iv _ => B.length - (intOf iv).toNat)
    case atStart => exact ⟨0, by omega, rfl, by simp, Ext.refl _⟩
    case round =>
      obtain ⟨k, hk, rfl, hnkeys, hx⟩ := hrel
      have HK := hide hnkeys
      have X := hide hx
      clear hnkeys hx
      by_cases hlt : k < B.length
      · have hlA : k < A.length := by omega
        obtain ⟨b1, o1, rfl, h1⟩ := ((unhide HA).ext (unhide X)).at k hlA
        obtain ⟨b2, o2, rfl, h2⟩ := ((unhide HB).ext (unhide X)).at k hlt
        have hc : ∀ b (o : Obj) j u, wr.cell? ⟨b, j, none⟩ = some u → (wr.alloc o).cell? ⟨b, j, none⟩ = some u := fun b o j u hu => by
          rw [((Ext.refl wr).alloc o).cell (p := ⟨b, j, none⟩) (World.block_lt_of_cell? wr _ hu)]
          exact hu
        obtain ⟨ko1, kc1, ek1, -⟩ := h1.row.shape
        obtain ⟨ko2, kc2, ek2, -⟩ := h2.row.shape
        have r1 := h1.row
        have r2 := h2.row
        have c0 := h1.kind; have c1 := h1.ty; have c2 := h1.text; have c3 := h1.num; have c4 := h1.kids; have c5 := h1.place
        have g4 := h2.kids
        rw [ek1] at c4 r1
        rw [ek2] at g4 r2
        have d0 := fun o => hc _ o _ _ h2.kind
        have d1 := fun o => hc _ o _ _ h2.ty
        have d2 := fun o => hc _ o _ _ h2.text
        have d3 := fun o => hc _ o _ _ h2.num
        have d4 := fun o => hc _ o _ _ g4
        have d5 := fun o => hc _ o _ _ h2.place
        clear h1 h2 hc g4 ek1 ek2
        have HS := hide (nkeys_step A B k hlA hlt (unhide HK))
        have HQ := hide (fun W (hx : Ext wr W) => alikeN_any A[k].2 B[k].2 ko1 ko2 kc1 kc2 W (r1.ext hx) (r2.ext hx))
        clear r1 r2
        have HTQ := hide (show nodEq A[k].2 B[k].2 = decide (nkey A[k].2 = nkey B[k].2) from rfl)
        generalize nodEq A[k].2 B[k].2 = te at *
        generalize A[k].2 = x at *
        generalize B[k].2 = y at *
        cases te with
        | true =>
          go_wp2_with fail
          refine (unhide HQ _ (((Ext.refl wr).alloc _).alloc _)).mono ?_
          rintro e w2 ⟨rfl, hx2⟩
          have X2 := hide ((unhide X).trans ((((Ext.refl wr).alloc _).alloc _).trans hx2))
          clear hx2
          go_wp2
          refine ⟨⟨k + 1, by omega, rfl, (unhide HS).2 (of_decide_eq_true (unhide HTQ).symm), unhide X2⟩, ?_⟩
          simp [intOf]
          omega
        | false =>
          go_wp2_with fail
          refine (unhide HQ _ (((Ext.refl wr).alloc _).alloc _)).mono ?_
          rintro e w2 ⟨rfl, hx2⟩
          have X2 := hide ((unhide X).trans ((((Ext.refl wr).alloc _).alloc _).trans hx2))
          clear hx2
          go_wp2
          go_ret
          refine ⟨?_, unhide X2⟩
          have hne : sameN A B = false := by
            unfold sameN
            refine decide_eq_false fun e => ?_
            have := (unhide HS).1 (nkeys_take A B (k + 1) e)
            exact of_decide_eq_false (unhide HTQ).symm this
          rw [hne]
          rfl
      · have hke : k = B.length := by omega
        have hs : sameN A B = true := by
          unfold sameN
          refine decide_eq_true ?_
          have := unhide HK
          rw [hke, List.take_length, ← hlen, List.take_length] at this
          exact this
        go_wp2
        go_ret
        exact ⟨by rw [hs]; rfl, unhide X⟩
  · have hl' : ((A.length : Int) == (B.length : Int)) = false := beq_eq_false_iff_ne.2 (by omega)
    have hs : sameN A B = false := by
      unfold sameN
      refine decide_eq_false fun e => hlen ?_
      rw [← nkeys_len, e, nkeys_len]
    rw [hs]
    go_enter Tryz.func11, Tryz.ntmps11
    go_wp2
    go_ret
    exact ⟨rfl, Ext.refl _⟩

/-- The program's Same. -/
theorem sameT_any (A B : List NtI) (ao bo : Option Addr) (ca cb : Nat) (w : World) (hA : NL w (.slice ao A.length ca) A) (hB : NL w (.slice bo B.length cb) B) :
    Calls Tryz.prog 6 #[.agg #[.slice ao A.length ca], .agg #[.slice bo B.length cb]] w fun e w' => e = .returned (.bool (sameN A B)) ∧ Ext w w' := by
  have X := hide (((Ext.refl w).alloc (.cells #[.slice ao A.length ca] 24)).alloc (.cells #[.slice bo B.length cb] 24))
  have HQ := hide (fun wx (hx : Ext w wx) => equalN_any A B ao bo ca cb wx (hA.ext hx) (hB.ext hx) (enters_of Tryz.func12 (by kernel_rfl) rfl))
  clear hA hB
  generalize sameN A B = s at *
  go_enter Tryz.func6, Tryz.ntmps6
  go_wp2_with fail
  refine (unhide HQ _ (unhide X)).mono ?_
  rintro e w2 ⟨rfl, hx2⟩
  have X2 := hide ((unhide X).trans hx2)
  clear hx2
  go_wp2
  go_ret
  exact ⟨rfl, unhide X2⟩

end Go.Proofs.YtjfhhhabcbkahaaGreat

/-
  Nodes that are read: the document's Same.
-/
namespace Go.Proofs.YtjfhhhabcbkahaaGreat
open Go.RowKit
set_option linter.unusedVariables false
set_option linter.unusedSimpArgs false

theorem Blk.row {w : World} {b : Nat} {cs cs' : Array Value} {t : TypeId} (h : Blk w b cs t) : Blk (w.setRow b cs') b cs' t := setRow_heap w b cs cs' t (0, 0) h
theorem Blk.rowOther {w : World} {b r : Nat} {cs cs' : Array Value} {t : TypeId} (h : Blk w b cs t) (hne : b ≠ r) : Blk (w.setRow r cs') b cs t := (setRow_other w r b cs' hne).trans h
theorem ext_row {w w1 : World} {b : Nat} {cs : Array Value} (h : Ext w w1) (hb : w.heap.size ≤ b) : Ext w (w1.setRow b cs) := below_setRow h hb cs
theorem drewN_drewN (w : World) (n m : Nat) : (w.drewN n).drewN m = w.drewN (n + m) := by simp [World.drewN, Nat.add_assoc]
theorem ext_0 (w : World) : Ext w w.drew := (Ext.refl w).drew
theorem sizeN : (Tryz.prog.info? 39).map (·.size) = some 6 := by kernel_rfl
/-- The cells of a node. -/
def ncl (p : NtI) : Array Value := #[.int .i64 p.2.kind, .string ⟨p.2.ty.toArray⟩, .string ⟨p.2.text.toArray⟩, .int .i32 p.2.num, p.1, .int .i64 p.2.place]
theorem blk_nat {w : World} {b : Nat} {p : NtI} {t : TypeId} (h : Blk w b #[.int .i64 p.2.kind, .string ⟨p.2.ty.toArray⟩, .string ⟨p.2.text.toArray⟩, .int .i32 p.2.num, p.1, .int .i64 p.2.place] t) :
    w.cell? ⟨b, 0, none⟩ = some (.int .i64 p.2.kind) ∧ w.cell? ⟨b, 1, none⟩ = some (.string ⟨p.2.ty.toArray⟩) ∧ w.cell? ⟨b, 2, none⟩ = some (.string ⟨p.2.text.toArray⟩) ∧ w.cell? ⟨b, 3, none⟩ = some (.int .i32 p.2.num) ∧ w.cell? ⟨b, 4, none⟩ = some p.1 ∧ w.cell? ⟨b, 5, none⟩ = some (.int .i64 p.2.place) :=
  ⟨h.cell (i := 0) rfl, h.cell (i := 1) rfl, h.cell (i := 2) rfl, h.cell (i := 3) rfl, h.cell (i := 4) rfl, h.cell (i := 5) rfl⟩

set_option maxRecDepth 10000 in
set_option maxHeartbeats 2000000 in
theorem refSameT_any (A B : List NtI) (ao bo : Option Addr) (ca cb : Nat) (w : World) (hA : NL w (.slice ao A.length ca) A) (hB : NL w (.slice bo B.length cb) B) :
    Calls Tryz.prog 7 #[.agg #[.slice ao A.length ca], .agg #[.slice bo B.length cb]] w fun e w' => e = .returned (.bool (sameN A B)) ∧ Ext w w' := by
  have hBA : Blk ((w.alloc (.cells #[.slice ao A.length ca] 24)).alloc (.cells #[.slice bo B.length cb] 24)) w.heap.size #[.slice ao A.length ca] 24 := (Blk.new _ _ _).alloc _
  have hBB : Blk ((w.alloc (.cells #[.slice ao A.length ca] 24)).alloc (.cells #[.slice bo B.length cb] 24)) (w.heap.size + 1) #[.slice bo B.length cb] 24 := by
    have h := Blk.new (w.alloc (.cells #[.slice ao A.length ca] 24)) #[.slice bo B.length cb] 24
    rw [show (w.alloc (.cells #[.slice ao A.length ca] 24)).heap.size = w.heap.size + 1 by simp] at h
    exact h
  have H1 := hide (And.intro (((Ext.refl w).alloc (.cells #[.slice ao A.length ca] 24)).alloc (.cells #[.slice bo B.length cb] 24)) (And.intro hBA hBB))
  have HA := hide hA
  have HB := hide hB
  have hca : A.length ≤ ca ∧ ca ≤ 9223372036854775807 := by
    obtain ⟨_, _, e, _, h2, h3, _⟩ := hA
    cases e
    unfold maxLen at h3
    exact ⟨h2, by omega⟩
  have hcb : B.length ≤ cb ∧ cb ≤ 9223372036854775807 := by
    obtain ⟨_, _, e, _, h2, h3, _⟩ := hB
    cases e
    unfold maxLen at h3
    exact ⟨h2, by omega⟩
  obtain ⟨ca1, ca2⟩ := hca
  obtain ⟨cb1, cb2⟩ := hcb
  have a0 := hBA.cell (i := 0) rfl
  have b0 := hBB.cell (i := 0) rfl
  clear hA hB hBA hBB
  by_cases hl : A.length = B.length
  case neg =>
    have hne : ((A.length : Int) != (B.length : Int)) = true := by rw [bne_iff_ne]; omega
    have E := hide (show sameN A B = false by
      unfold sameN
      refine decide_eq_false fun h => hl ?_
      have := congrArg List.length h
      rw [nkeys_len, nkeys_len] at this
      exact this)
    clear hl
    go_enter Tryz.func7, Tryz.ntmps7
    go_wp2
    go_ret
    rw [unhide E]
    exact ⟨rfl, (unhide H1).1⟩
  case pos =>
  have hne : ((A.length : Int) != (B.length : Int)) = false := by rw [hl]; simp
  have HL := hide hl
  clear hl
  go_enter Tryz.func7, Tryz.ntmps7
  go_wp2_with fail
  generalize (w.alloc (.cells #[.slice ao A.length ca] 24)).alloc (.cells #[.slice bo B.length cb] 24) = w1 at *
  clear a0 b0
  go_loopw [19] (fun iv wr => ∃ k : Nat, k ≤ A.length ∧ iv = .int .i64 (k : Int) ∧ nkeys (A.take k) = nkeys (B.take k) ∧ Ext w1 wr) (fun iv _ => A.length - (intOf iv).toNat)
  case atStart => exact ⟨0, Nat.zero_le _, rfl, rfl, Ext.refl _⟩
  case round =>
    obtain ⟨k, hk, rfl, hkk, hxr⟩ := hrel
    have HKK := hide hkk
    have HXR := hide hxr
    by_cases hlt : k < A.length
    · have hlt2 : (k : Int) < (A.length : Int) := by omega
      have hkB : k < B.length := by rw [← unhide HL]; exact hlt
      obtain ⟨ba, oa, rfl, hNA⟩ := (unhide HA).at k hlt
      obtain ⟨bb, ob, rfl, hNB⟩ := (unhide HB).at k hkB
      obtain ⟨x, hx⟩ : ∃ x, x = A[k] := ⟨_, rfl⟩
      obtain ⟨y, hy⟩ : ∃ y, y = B[k] := ⟨_, rfl⟩
      rw [← hx] at hNA
      rw [← hy] at hNB
      have hst := nkeys_step A B k hlt hkB hkk
      rw [← hx, ← hy] at hst
      have hbl : (k : Int) < (B.length : Int) := by have := unhide HL; omega
      obtain ⟨xo, xc, hxs, _, hxc, hxm⟩ := hNA.row.shape
      obtain ⟨yo, yc, hys, _, hyc, hym⟩ := hNB.row.shape
      have hxm2 : xc ≤ 9223372036854775807 := by unfold maxLen at hxm; omega
      have hym2 : yc ≤ 9223372036854775807 := by unfold maxLen at hym; omega
      have HNA := hide hNA
      have HNB := hide hNB
      have HST := hide hst
      have HXY := hide (And.intro hx (And.intro hy (And.intro hxs hys)))
      have HCL : Hid (∀ wx, Ext wr wx → NAt wx ba (oa + k * 6) x ∧ NAt wx bb (ob + k * 6) y ∧ wx.cell? ⟨w.heap.size, 0, none⟩ = some (.slice (some ⟨ba, oa, none⟩) A.length ca) ∧ wx.cell? ⟨w.heap.size + 1, 0, none⟩ = some (.slice (some ⟨bb, ob, none⟩) B.length cb)) := fun wx hxw =>
        ⟨hNA.ext ((unhide H1).1.trans ((unhide HXR).trans hxw)), hNB.ext ((unhide H1).1.trans ((unhide HXR).trans hxw)), ((unhide H1).2.1.ext ((unhide HXR).trans hxw)).cell (i := 0) rfl, ((unhide H1).2.2.ext ((unhide HXR).trans hxw)).cell (i := 0) rfl⟩
      clear hNA hNB hx hy hst hxs hys hkk hxr
      go_upto_region 6 with fail
      have hxs := (unhide HXY).2.2.1
      have hys := (unhide HXY).2.2.2
      go_cut [6, 7] from 22 to 85 (fun p q wc => ∃ Ba Bb, p = .pointer (some ⟨Ba, 0, none⟩) ∧ q = .pointer (some ⟨Bb, 0, none⟩) ∧ Blk wc Ba #[.int .i64 x.2.kind, .string ⟨x.2.ty.toArray⟩, .string ⟨x.2.text.toArray⟩, .int .i32 x.2.num, .slice xo x.2.kids.length xc, .int .i64 x.2.place] 39 ∧ Blk wc Bb #[.int .i64 y.2.kind, .string ⟨y.2.ty.toArray⟩, .string ⟨y.2.text.toArray⟩, .int .i32 y.2.num, .slice yo y.2.kids.length yc, .int .i64 y.2.place] 39 ∧ Ext wr wc)
      case first =>
        refine wp_region_noPanic ?_
        refine wp_region_held_drew (S := fun wx => Ext wr wx) (by kernel_rfl) (ext_0 wr) (fun HS => ?_)
        refine wpAnyH_take (i := 0) (oi := { dst := some 22, op := Op.fieldAddr 24 (Operand.tmp 2) 0, type := 0, pos := _, after := _, guard := none }) (v := .pointer (some ⟨w.heap.size, 0, none⟩)) rfl (by kernel_rfl) (by kernel_rfl) (by kernel_rfl) (fun _ _ _ h => h) (Or.inl ⟨by rfl, fun _ _ => rfl⟩) HS ?_
        simp only [Act.put, List.setIfInBounds_toArray, List.set_cons_zero, List.set_cons_succ]
        refine wpAnyH_take (i := 1) (oi := { dst := some 23, op := Op.load 22 (Operand.tmp 22), type := 22, pos := _, after := _, guard := none }) (v := .slice (some ⟨ba, oa, none⟩) A.length ca) rfl (by kernel_rfl) (by kernel_rfl) (by kernel_rfl) (fun _ _ _ h => h) (Or.inl ⟨by rfl, fun wx hx => by have h1 := (unhide HCL wx hx).2.2.1; go_simp⟩) HS ?_
        simp only [Act.put, List.setIfInBounds_toArray, List.set_cons_zero, List.set_cons_succ]
        refine wpAnyH_take (i := 2) (oi := { dst := some 24, op := Op.move (Operand.tmp 5), type := 3, pos := _, after := _, guard := none }) (v := .int .i64 (k : Int)) rfl (by kernel_rfl) (by kernel_rfl) (by kernel_rfl) (fun _ _ _ h => h) (Or.inl ⟨by rfl, fun _ _ => rfl⟩) HS ?_
        simp only [Act.put, List.setIfInBounds_toArray, List.set_cons_zero, List.set_cons_succ]
        refine wpAnyH_take (i := 3) (oi := { dst := some 25, op := Op.indexAddr 22 (Operand.tmp 23) (Operand.tmp 24), type := 0, pos := _, after := _, guard := none }) (v := .pointer (some ⟨ba, oa + k * 6, none⟩)) rfl (by kernel_rfl) (by kernel_rfl) (by kernel_rfl) (fun _ _ _ h => h) (Or.inl ⟨by rfl, fun wx hx => by go_simp⟩) HS ?_
        simp only [Act.put, List.setIfInBounds_toArray, List.set_cons_zero, List.set_cons_succ]
        refine wpAnyH_take (i := 4) (oi := { dst := some 26, op := Op.load 39 (Operand.tmp 25), type := 39, pos := _, after := _, guard := none }) (v := .agg #[.int .i64 x.2.kind, .string ⟨x.2.ty.toArray⟩, .string ⟨x.2.text.toArray⟩, .int .i32 x.2.num, .slice xo x.2.kids.length xc, .int .i64 x.2.place]) rfl (by kernel_rfl) (by kernel_rfl) (by kernel_rfl) (fun _ _ _ h => h) (Or.inl ⟨by rfl, fun wx hx => by have h0 := (unhide HCL wx hx).1; obtain ⟨h1, h2, h3, h4, h5, h6, _⟩ := h0; rw [hxs] at h5; clear hxs; go_simp⟩) HS ?_
        simp only [Act.put, List.setIfInBounds_toArray, List.set_cons_zero, List.set_cons_succ]
        refine wpAnyH_take (i := 5) (oi := { dst := some 27, op := Op.fieldAddr 24 (Operand.tmp 3) 0, type := 0, pos := _, after := _, guard := none }) (v := .pointer (some ⟨w.heap.size + 1, 0, none⟩)) rfl (by kernel_rfl) (by kernel_rfl) (by kernel_rfl) (fun _ _ _ h => h) (Or.inl ⟨by rfl, fun _ _ => rfl⟩) HS ?_
        simp only [Act.put, List.setIfInBounds_toArray, List.set_cons_zero, List.set_cons_succ]
        refine wpAnyH_take (i := 6) (oi := { dst := some 28, op := Op.load 22 (Operand.tmp 27), type := 22, pos := _, after := _, guard := none }) (v := .slice (some ⟨bb, ob, none⟩) B.length cb) rfl (by kernel_rfl) (by kernel_rfl) (by kernel_rfl) (fun _ _ _ h => h) (Or.inl ⟨by rfl, fun wx hx => by have h1 := (unhide HCL wx hx).2.2.2; go_simp⟩) HS ?_
        simp only [Act.put, List.setIfInBounds_toArray, List.set_cons_zero, List.set_cons_succ]
        refine wpAnyH_take (i := 7) (oi := { dst := some 29, op := Op.move (Operand.tmp 5), type := 3, pos := _, after := _, guard := none }) (v := .int .i64 (k : Int)) rfl (by kernel_rfl) (by kernel_rfl) (by kernel_rfl) (fun _ _ _ h => h) (Or.inl ⟨by rfl, fun _ _ => rfl⟩) HS ?_
        simp only [Act.put, List.setIfInBounds_toArray, List.set_cons_zero, List.set_cons_succ]
        refine wpAnyH_take (i := 8) (oi := { dst := some 30, op := Op.indexAddr 22 (Operand.tmp 28) (Operand.tmp 29), type := 0, pos := _, after := _, guard := none }) (v := .pointer (some ⟨bb, ob + k * 6, none⟩)) rfl (by kernel_rfl) (by kernel_rfl) (by kernel_rfl) (fun _ _ _ h => h) (Or.inl ⟨by rfl, fun wx hx => by go_simp⟩) HS ?_
        simp only [Act.put, List.setIfInBounds_toArray, List.set_cons_zero, List.set_cons_succ]
        refine wpAnyH_take (i := 9) (oi := { dst := some 31, op := Op.load 39 (Operand.tmp 30), type := 39, pos := _, after := _, guard := none }) (v := .agg #[.int .i64 y.2.kind, .string ⟨y.2.ty.toArray⟩, .string ⟨y.2.text.toArray⟩, .int .i32 y.2.num, .slice yo y.2.kids.length yc, .int .i64 y.2.place]) rfl (by kernel_rfl) (by kernel_rfl) (by kernel_rfl) (fun _ _ _ h => h) (Or.inl ⟨by rfl, fun wx hx => by have h0 := (unhide HCL wx hx).2.1; obtain ⟨h1, h2, h3, h4, h5, h6, _⟩ := h0; rw [hys] at h5; clear hys; go_simp⟩) HS ?_
        simp only [Act.put, List.setIfInBounds_toArray, List.set_cons_zero, List.set_cons_succ]
        refine wpAnyH_ready (rs := [10, 11]) (by kernel_rfl) (by simp) (AllReadyH.cons (o := { dst := some 6, op := Op.alloc 39, type := 0, pos := _, after := _, guard := none }) rfl (fun KK hK => ?_) (AllReadyH.cons (o := { dst := some 7, op := Op.alloc 39, type := 0, pos := _, after := _, guard := none }) rfl (fun KK hK => ?_) AllReadyH.nil))
        · refine Eq.mpr (if_pos (by rfl)) ?_
          go_simp
          refine hK.out _ (wr.drew.alloc (.cells #[.int .i64 0, .string ⟨#[]⟩, .string ⟨#[]⟩, .int .i32 0, .slice none 0 0, .int .i64 0] 39)) (HS.alloc _) (fun _ => ?_)
          clear hK KK
          have RBa : Hid (Blk (wr.drew.alloc (.cells #[.int .i64 0, .string ⟨#[]⟩, .string ⟨#[]⟩, .int .i32 0, .slice none 0 0, .int .i64 0] 39)) wr.heap.size #[.int .i64 0, .string ⟨#[]⟩, .string ⟨#[]⟩, .int .i32 0, .slice none 0 0, .int .i64 0] 39) := hide (Blk.new wr.drew #[.int .i64 0, .string ⟨#[]⟩, .string ⟨#[]⟩, .int .i32 0, .slice none 0 0, .int .i64 0] 39)
          have RLa : Hid (wr.heap.size ≤ wr.heap.size) := hide (Nat.le_refl _)
          have HS2 := HS.alloc (.cells #[.int .i64 0, .string ⟨#[]⟩, .string ⟨#[]⟩, .int .i32 0, .slice none 0 0, .int .i64 0] 39)
          clear HS
          have HS := HS2
          clear HS2
          generalize wr.drew.alloc (.cells #[.int .i64 0, .string ⟨#[]⟩, .string ⟨#[]⟩, .int .i32 0, .slice none 0 0, .int .i64 0] 39) = wa at HS RBa ⊢
          try simp only [Act.put, List.setIfInBounds_toArray, List.set_cons_zero, List.set_cons_succ]
          refine wpAnyH_ready (rs := [11]) (by kernel_rfl) (by simp) (AllReadyH.cons (o := { dst := some 7, op := Op.alloc 39, type := 0, pos := _, after := _, guard := none }) rfl (fun KK hK => ?_) AllReadyH.nil)
          refine Eq.mpr (if_pos (by rfl)) ?_
          go_simp
          refine hK.out _ (wa.alloc (.cells #[.int .i64 0, .string ⟨#[]⟩, .string ⟨#[]⟩, .int .i32 0, .slice none 0 0, .int .i64 0] 39)) (HS.alloc _) (fun _ => ?_)
          clear hK KK
          have NE := hide (show _ ≠ _ from Nat.ne_of_lt (unhide RBa).lt)
          have RBa := hide ((unhide RBa).alloc (.cells #[.int .i64 0, .string ⟨#[]⟩, .string ⟨#[]⟩, .int .i32 0, .slice none 0 0, .int .i64 0] 39))
          have RBb := hide (Blk.new wa #[.int .i64 0, .string ⟨#[]⟩, .string ⟨#[]⟩, .int .i32 0, .slice none 0 0, .int .i64 0] 39)
          have RLb := hide (Below.size HS)
          have HS2 := HS.alloc (.cells #[.int .i64 0, .string ⟨#[]⟩, .string ⟨#[]⟩, .int .i32 0, .slice none 0 0, .int .i64 0] 39)
          clear HS
          have HS := HS2
          clear HS2
          generalize wa.alloc (.cells #[.int .i64 0, .string ⟨#[]⟩, .string ⟨#[]⟩, .int .i32 0, .slice none 0 0, .int .i64 0] 39) = wa at HS RBa RBb ⊢
          try simp only [Act.put, List.setIfInBounds_toArray, List.set_cons_zero, List.set_cons_succ]
          refine wpAnyH_ready (rs := [12]) (by kernel_rfl) (by simp) (AllReadyH.cons (o := { dst := none, op := Op.store 39 (Operand.tmp 6) (Operand.tmp 26), type := 0, pos := _, after := _, guard := none }) rfl (fun KK hK => ?_) AllReadyH.nil)
          refine Eq.mpr (if_pos (by rfl)) ?_
          refine wp_store_row 39 (.tmp 6) (.tmp 26) rfl _ #[.int .i64 x.2.kind, .string ⟨x.2.ty.toArray⟩, .string ⟨x.2.text.toArray⟩, .int .i32 x.2.num, .slice xo x.2.kids.length xc, .int .i64 x.2.place] rfl rfl 39 _ (unhide RBa) sizeN rfl (by simp [Value.oneCell']) ?_
          refine hK.out _ _ (ext_row HS (unhide RLa)) (fun _ => ?_)
          clear hK KK
          have RBb := hide (Blk.rowOther (cs' := #[.int .i64 x.2.kind, .string ⟨x.2.ty.toArray⟩, .string ⟨x.2.text.toArray⟩, .int .i32 x.2.num, .slice xo x.2.kids.length xc, .int .i64 x.2.place]) (unhide RBb) (Ne.symm (unhide NE)))
          have RBa := hide (Blk.row (cs' := #[.int .i64 x.2.kind, .string ⟨x.2.ty.toArray⟩, .string ⟨x.2.text.toArray⟩, .int .i32 x.2.num, .slice xo x.2.kids.length xc, .int .i64 x.2.place]) (unhide RBa))
          have HS2 := ext_row (cs := #[.int .i64 x.2.kind, .string ⟨x.2.ty.toArray⟩, .string ⟨x.2.text.toArray⟩, .int .i32 x.2.num, .slice xo x.2.kids.length xc, .int .i64 x.2.place]) HS (unhide RLa)
          clear HS
          have HS := HS2
          clear HS2
          try simp only [Act.put, List.setIfInBounds_toArray, List.set_cons_zero, List.set_cons_succ]
          refine wpAnyH_ready (rs := [13]) (by kernel_rfl) (by simp) (AllReadyH.cons (o := { dst := none, op := Op.store 39 (Operand.tmp 7) (Operand.tmp 31), type := 0, pos := _, after := _, guard := none }) rfl (fun KK hK => ?_) AllReadyH.nil)
          refine Eq.mpr (if_pos (by rfl)) ?_
          refine wp_store_row 39 (.tmp 7) (.tmp 31) rfl _ #[.int .i64 y.2.kind, .string ⟨y.2.ty.toArray⟩, .string ⟨y.2.text.toArray⟩, .int .i32 y.2.num, .slice yo y.2.kids.length yc, .int .i64 y.2.place] rfl rfl 39 _ (unhide RBb) sizeN rfl (by simp [Value.oneCell']) ?_
          refine hK.out _ _ (ext_row HS (unhide RLb)) (fun _ => ?_)
          clear hK KK
          have RBa := hide (Blk.rowOther (cs' := #[.int .i64 y.2.kind, .string ⟨y.2.ty.toArray⟩, .string ⟨y.2.text.toArray⟩, .int .i32 y.2.num, .slice yo y.2.kids.length yc, .int .i64 y.2.place]) (unhide RBa) (unhide NE))
          have RBb := hide (Blk.row (cs' := #[.int .i64 y.2.kind, .string ⟨y.2.ty.toArray⟩, .string ⟨y.2.text.toArray⟩, .int .i32 y.2.num, .slice yo y.2.kids.length yc, .int .i64 y.2.place]) (unhide RBb))
          have HS2 := ext_row (cs := #[.int .i64 y.2.kind, .string ⟨y.2.ty.toArray⟩, .string ⟨y.2.text.toArray⟩, .int .i32 y.2.num, .slice yo y.2.kids.length yc, .int .i64 y.2.place]) HS (unhide RLb)
          clear HS
          have HS := HS2
          clear HS2
          try simp only [Act.put, List.setIfInBounds_toArray, List.set_cons_zero, List.set_cons_succ]
          refine wpAnyH_done (by kernel_rfl) ?_ _
          refine NoPanic.normal ?_
          go_wp2
          go_meet
          exact ⟨_, _, rfl, rfl, unhide RBa, unhide RBb, HS⟩
        · refine Eq.mpr (if_pos (by rfl)) ?_
          go_simp
          refine hK.out _ (wr.drew.alloc (.cells #[.int .i64 0, .string ⟨#[]⟩, .string ⟨#[]⟩, .int .i32 0, .slice none 0 0, .int .i64 0] 39)) (HS.alloc _) (fun _ => ?_)
          clear hK KK
          have RBb : Hid (Blk (wr.drew.alloc (.cells #[.int .i64 0, .string ⟨#[]⟩, .string ⟨#[]⟩, .int .i32 0, .slice none 0 0, .int .i64 0] 39)) wr.heap.size #[.int .i64 0, .string ⟨#[]⟩, .string ⟨#[]⟩, .int .i32 0, .slice none 0 0, .int .i64 0] 39) := hide (Blk.new wr.drew #[.int .i64 0, .string ⟨#[]⟩, .string ⟨#[]⟩, .int .i32 0, .slice none 0 0, .int .i64 0] 39)
          have RLb : Hid (wr.heap.size ≤ wr.heap.size) := hide (Nat.le_refl _)
          have HS2 := HS.alloc (.cells #[.int .i64 0, .string ⟨#[]⟩, .string ⟨#[]⟩, .int .i32 0, .slice none 0 0, .int .i64 0] 39)
          clear HS
          have HS := HS2
          clear HS2
          generalize wr.drew.alloc (.cells #[.int .i64 0, .string ⟨#[]⟩, .string ⟨#[]⟩, .int .i32 0, .slice none 0 0, .int .i64 0] 39) = wa at HS RBb ⊢
          try simp only [Act.put, List.setIfInBounds_toArray, List.set_cons_zero, List.set_cons_succ]
          refine wpAnyH_ready (rs := [10]) (by kernel_rfl) (by simp) (AllReadyH.cons (o := { dst := some 6, op := Op.alloc 39, type := 0, pos := _, after := _, guard := none }) rfl (fun KK hK => ?_) AllReadyH.nil)
          refine Eq.mpr (if_pos (by rfl)) ?_
          go_simp
          refine hK.out _ (wa.alloc (.cells #[.int .i64 0, .string ⟨#[]⟩, .string ⟨#[]⟩, .int .i32 0, .slice none 0 0, .int .i64 0] 39)) (HS.alloc _) (fun _ => ?_)
          clear hK KK
          have NE := hide (show _ ≠ _ from Nat.ne_of_lt (unhide RBb).lt)
          have RBb := hide ((unhide RBb).alloc (.cells #[.int .i64 0, .string ⟨#[]⟩, .string ⟨#[]⟩, .int .i32 0, .slice none 0 0, .int .i64 0] 39))
          have RBa := hide (Blk.new wa #[.int .i64 0, .string ⟨#[]⟩, .string ⟨#[]⟩, .int .i32 0, .slice none 0 0, .int .i64 0] 39)
          have RLa := hide (Below.size HS)
          have HS2 := HS.alloc (.cells #[.int .i64 0, .string ⟨#[]⟩, .string ⟨#[]⟩, .int .i32 0, .slice none 0 0, .int .i64 0] 39)
          clear HS
          have HS := HS2
          clear HS2
          generalize wa.alloc (.cells #[.int .i64 0, .string ⟨#[]⟩, .string ⟨#[]⟩, .int .i32 0, .slice none 0 0, .int .i64 0] 39) = wa at HS RBb RBa ⊢
          try simp only [Act.put, List.setIfInBounds_toArray, List.set_cons_zero, List.set_cons_succ]
          refine wpAnyH_ready (rs := [12]) (by kernel_rfl) (by simp) (AllReadyH.cons (o := { dst := none, op := Op.store 39 (Operand.tmp 6) (Operand.tmp 26), type := 0, pos := _, after := _, guard := none }) rfl (fun KK hK => ?_) AllReadyH.nil)
          refine Eq.mpr (if_pos (by rfl)) ?_
          refine wp_store_row 39 (.tmp 6) (.tmp 26) rfl _ #[.int .i64 x.2.kind, .string ⟨x.2.ty.toArray⟩, .string ⟨x.2.text.toArray⟩, .int .i32 x.2.num, .slice xo x.2.kids.length xc, .int .i64 x.2.place] rfl rfl 39 _ (unhide RBa) sizeN rfl (by simp [Value.oneCell']) ?_
          refine hK.out _ _ (ext_row HS (unhide RLa)) (fun _ => ?_)
          clear hK KK
          have RBb := hide (Blk.rowOther (cs' := #[.int .i64 x.2.kind, .string ⟨x.2.ty.toArray⟩, .string ⟨x.2.text.toArray⟩, .int .i32 x.2.num, .slice xo x.2.kids.length xc, .int .i64 x.2.place]) (unhide RBb) (unhide NE))
          have RBa := hide (Blk.row (cs' := #[.int .i64 x.2.kind, .string ⟨x.2.ty.toArray⟩, .string ⟨x.2.text.toArray⟩, .int .i32 x.2.num, .slice xo x.2.kids.length xc, .int .i64 x.2.place]) (unhide RBa))
          have HS2 := ext_row (cs := #[.int .i64 x.2.kind, .string ⟨x.2.ty.toArray⟩, .string ⟨x.2.text.toArray⟩, .int .i32 x.2.num, .slice xo x.2.kids.length xc, .int .i64 x.2.place]) HS (unhide RLa)
          clear HS
          have HS := HS2
          clear HS2
          try simp only [Act.put, List.setIfInBounds_toArray, List.set_cons_zero, List.set_cons_succ]
          refine wpAnyH_ready (rs := [13]) (by kernel_rfl) (by simp) (AllReadyH.cons (o := { dst := none, op := Op.store 39 (Operand.tmp 7) (Operand.tmp 31), type := 0, pos := _, after := _, guard := none }) rfl (fun KK hK => ?_) AllReadyH.nil)
          refine Eq.mpr (if_pos (by rfl)) ?_
          refine wp_store_row 39 (.tmp 7) (.tmp 31) rfl _ #[.int .i64 y.2.kind, .string ⟨y.2.ty.toArray⟩, .string ⟨y.2.text.toArray⟩, .int .i32 y.2.num, .slice yo y.2.kids.length yc, .int .i64 y.2.place] rfl rfl 39 _ (unhide RBb) sizeN rfl (by simp [Value.oneCell']) ?_
          refine hK.out _ _ (ext_row HS (unhide RLb)) (fun _ => ?_)
          clear hK KK
          have RBa := hide (Blk.rowOther (cs' := #[.int .i64 y.2.kind, .string ⟨y.2.ty.toArray⟩, .string ⟨y.2.text.toArray⟩, .int .i32 y.2.num, .slice yo y.2.kids.length yc, .int .i64 y.2.place]) (unhide RBa) (Ne.symm (unhide NE)))
          have RBb := hide (Blk.row (cs' := #[.int .i64 y.2.kind, .string ⟨y.2.ty.toArray⟩, .string ⟨y.2.text.toArray⟩, .int .i32 y.2.num, .slice yo y.2.kids.length yc, .int .i64 y.2.place]) (unhide RBb))
          have HS2 := ext_row (cs := #[.int .i64 y.2.kind, .string ⟨y.2.ty.toArray⟩, .string ⟨y.2.text.toArray⟩, .int .i32 y.2.num, .slice yo y.2.kids.length yc, .int .i64 y.2.place]) HS (unhide RLb)
          clear HS
          have HS := HS2
          clear HS2
          try simp only [Act.put, List.setIfInBounds_toArray, List.set_cons_zero, List.set_cons_succ]
          refine wpAnyH_done (by kernel_rfl) ?_ _
          refine NoPanic.normal ?_
          go_wp2
          go_meet
          exact ⟨_, _, rfl, rfl, unhide RBa, unhide RBb, HS⟩
      case rest =>
      obtain ⟨Ba, Bb, rfl, rfl, hBa, hBb, hxc9⟩ := hcut
      rename_i wc
      have HRX := hide ((unhide HNA).row.ext ((unhide H1).1.trans ((unhide HXR).trans hxc9)))
      have HRY := hide ((unhide HNB).row.ext ((unhide H1).1.trans ((unhide HXR).trans hxc9)))
      rw [hxs] at HRX
      rw [hys] at HRY
      have HXC := hide ((unhide HXR).trans hxc9)
      have HSTE : Hid (nkey x.2 ≠ nkey y.2 → sameN A B = false) := fun h => decide_eq_false fun h2 => h ((unhide HST).1 (nkeys_take A B (k + 1) h2))
      clear HNA HNB HCL HXY hxs hys hxc9
      obtain ⟨xv, k1, y1, t1, n1, c1, p1⟩ := x
      obtain ⟨yv, k2, y2, t2, n2, c2, p2⟩ := y
      simp only [nkey] at hBa hBb HRX HRY HST HSTE hxc hyc
      obtain ⟨a0, a1, a2, a3, a4, a5⟩ := (show _ from ⟨hBa.cell (i := 0) rfl, hBa.cell (i := 1) rfl, hBa.cell (i := 2) rfl, hBa.cell (i := 3) rfl, hBa.cell (i := 4) rfl, hBa.cell (i := 5) rfl⟩ : wc.cell? ⟨Ba, 0, none⟩ = some (.int .i64 k1) ∧ wc.cell? ⟨Ba, 1, none⟩ = some (.string ⟨y1.toArray⟩) ∧ wc.cell? ⟨Ba, 2, none⟩ = some (.string ⟨t1.toArray⟩) ∧ wc.cell? ⟨Ba, 3, none⟩ = some (.int .i32 n1) ∧ wc.cell? ⟨Ba, 4, none⟩ = some (.slice xo c1.length xc) ∧ wc.cell? ⟨Ba, 5, none⟩ = some (.int .i64 p1))
      obtain ⟨b0, b1, b2, b3, b4, b5⟩ := (show _ from ⟨hBb.cell (i := 0) rfl, hBb.cell (i := 1) rfl, hBb.cell (i := 2) rfl, hBb.cell (i := 3) rfl, hBb.cell (i := 4) rfl, hBb.cell (i := 5) rfl⟩ : wc.cell? ⟨Bb, 0, none⟩ = some (.int .i64 k2) ∧ wc.cell? ⟨Bb, 1, none⟩ = some (.string ⟨y2.toArray⟩) ∧ wc.cell? ⟨Bb, 2, none⟩ = some (.string ⟨t2.toArray⟩) ∧ wc.cell? ⟨Bb, 3, none⟩ = some (.int .i32 n2) ∧ wc.cell? ⟨Bb, 4, none⟩ = some (.slice yo c2.length yc) ∧ wc.cell? ⟨Bb, 5, none⟩ = some (.int .i64 p2))
      have HB9 := hide (And.intro hBa hBb)
      clear hBa hBb a5 b5
      by_cases hk1 : k1 = k2
      case neg =>
        have e1 : (k1 == k2) = false := beq_eq_false_iff_ne.2 hk1
        have e2 : (k1 != k2) = true := by rw [bne_iff_ne]; exact hk1
        have E := hide (unhide HSTE (fun h => hk1 (congrArg (·.1) h)))
        clear hk1
        go_wp2
        go_ret
        rw [unhide E]
        exact ⟨rfl, (unhide H1).1.trans (unhide HXC)⟩
      case pos =>
      subst hk1
      by_cases hk2 : y1 = y2
      case neg =>
        have e1 : (y1 == y2) = false := beq_eq_false_iff_ne.2 hk2
        have e2 : (y1 != y2) = true := by rw [bne_iff_ne]; exact hk2
        have E := hide (unhide HSTE (fun h => hk2 (congrArg (·.2.1) h)))
        clear hk2
        go_wp2
        go_ret
        rw [unhide E]
        exact ⟨rfl, (unhide H1).1.trans (unhide HXC)⟩
      case pos =>
      subst hk2
      by_cases hk3 : t1 = t2
      case neg =>
        have e1 : (t1 == t2) = false := beq_eq_false_iff_ne.2 hk3
        have e2 : (t1 != t2) = true := by rw [bne_iff_ne]; exact hk3
        have E := hide (unhide HSTE (fun h => hk3 (congrArg (·.2.2.1) h)))
        clear hk3
        go_wp2
        go_ret
        rw [unhide E]
        exact ⟨rfl, (unhide H1).1.trans (unhide HXC)⟩
      case pos =>
      subst hk3
      by_cases hk4 : n1 = n2
      case neg =>
        have e1 : (n1 == n2) = false := beq_eq_false_iff_ne.2 hk4
        have e2 : (n1 != n2) = true := by rw [bne_iff_ne]; exact hk4
        have E := hide (unhide HSTE (fun h => hk4 (congrArg (·.2.2.2.1) h)))
        clear hk4
        go_wp2
        go_ret
        rw [unhide E]
        exact ⟨rfl, (unhide H1).1.trans (unhide HXC)⟩
      case pos =>
      subst hk4
      by_cases hk5 : c1.length = c2.length
      case neg =>
        have e2 : ((c1.length : Int) != (c2.length : Int)) = true := by rw [bne_iff_ne]; omega
        have E := hide (unhide HSTE (fun h => hk5 (congrArg (·.2.2.2.2.length) h)))
        clear hk5
        go_wp2
        go_ret
        rw [unhide E]
        exact ⟨rfl, (unhide H1).1.trans (unhide HXC)⟩
      case pos =>
      have e2 : ((c1.length : Int) != (c2.length : Int)) = false := by rw [hk5]; simp
      have HK5 := hide hk5
      clear hk5
      go_wp2_with fail
      clear a0 a1 a2 a3 b0 b1 b2 b3 e2
      go_loopw [70] (fun jv wz => ∃ j n : Nat, j ≤ c1.length ∧ jv = .int .i64 (j : Int) ∧ c1.take j = c2.take j ∧ wz = wc.drewN n) (fun jv _ => c1.length - (intOf jv).toNat)
      case atStart => exact ⟨0, 0, Nat.zero_le _, rfl, rfl, rfl⟩
      case round =>
        obtain ⟨j, n, hj, rfl, hcc, rfl⟩ := hrel
        by_cases hltj : j < c1.length
        · have hltj2 : (j : Int) < (c1.length : Int) := by omega
          have hltj3 : (j : Int) < (c2.length : Int) := by have := unhide HK5; omega
          have hj2 : j < c2.length := by have := unhide HK5; omega
          obtain ⟨bx, ox, rfl, hcx⟩ := (unhide HRX).at j hltj
          obtain ⟨by1, oy, rfl, hcy⟩ := (unhide HRY).at j hj2
          have cx := hcx j hltj
          have cy := hcy j hj2
          have HCC := hide hcc
          by_cases hc : c1[j] = c2[j]
          · have HC := hide hc
            have ne1 : (c1[j] != c2[j]) = false := by rw [hc]; simp
            have hnx := hide (show c1.take (j + 1) = c2.take (j + 1) by rw [List.take_succ_eq_append_getElem hltj, List.take_succ_eq_append_getElem hj2, hcc, hc])
            generalize c1[j] = u1 at *
            generalize c2[j] = u2 at *
            clear hcx hcy hc hcc
            go_wp2
            go_quiet (fail)
            go_wp2
            go_roundw
            case rel => exact ⟨j + 1, n + nq, by omega, by go_num, unhide hnx, by first | rfl | exact drewN_drewN _ _ _⟩
            case measure => simp [intOf]; omega
          · have ne1 : (c1[j] != c2[j]) = true := by rw [bne_iff_ne]; exact hc
            have E := hide (unhide HSTE (fun h => hc (by have h9 : c1 = c2 := congrArg (·.2.2.2.2) h; simp only [h9])))
            generalize c1[j] = u1 at *
            generalize c2[j] = u2 at *
            clear hcx hcy hc hcc
            go_wp2
            go_quiet (fail)
            go_wp2
            go_ret
            rw [unhide E]
            exact ⟨rfl, (((unhide H1).1.trans (unhide HXC)).drewN _).drewN _⟩
        · obtain rfl : j = c1.length := by omega
          have hnl : ¬ (c1.length : Int) < (c1.length : Int) := by omega
          have hce : c1 = c2 := by
            rw [List.take_length, unhide HK5, List.take_length] at hcc
            exact hcc
          have HKN := hide ((unhide HST).2 (by rw [hce]))
          clear hcc hce
          go_wp2
          go_roundw
          case rel => exact ⟨k + 1, by omega, by go_num, unhide HKN, (unhide HXC).drewN n⟩
          case measure => simp [intOf]; omega
    · have hka : k = A.length := by omega
      subst hka
      have hnl : ¬ (A.length : Int) < (A.length : Int) := by omega
      have E := hide (show sameN A B = true by
        have h1 := unhide HKK
        rw [List.take_length, unhide HL, List.take_length] at h1
        exact decide_eq_true h1)
      go_wp2
      go_ret
      rw [unhide E]
      exact ⟨rfl, (unhide H1).1.trans (unhide HXR)⟩
end Go.Proofs.YtjfhhhabcbkahaaGreat

/-
  A region that draws its order, whose operations only read, and whose callees read and make new blocks: one walk of the text's order serves every order. Nothing here speaks of the program.
-/
namespace Go.Proofs.YtjfhhhabcbkahaaGreat
open Go.RowKit

/-- The worlds in which all that lay in w lies as it did. -/
def Later (w : World) : Type := { w' : World // Ext w w' }
def Later.w {w : World} (x : Later w) : World := x.1
theorem Later.ext {w : World} (x : Later w) : Ext w x.w := x.2
theorem Later.some (w : World) : Nonempty (Later w) := ⟨⟨w, Ext.refl w⟩⟩

theorem wp_region_later {P : Program} {id : Nat} {Q : Exit → Act → World → Prop} {a : Act} {w : World} {l : List Oper} (hm : P.follows .mixedOrders = true) (hB : Region.lexB .any l.toArray = true)
    (h : wpQuiet P l.toArray (fun w' => ∃ x : Later w, w' = x.w) (fun a' => ∀ w', (∃ x : Later w, w' = x.w) → Q .normal a' w') l a) : (Code.region id l.toArray true).wp P Q a w :=
  wp_region_quiet (C := fun w' => ∃ x : Later w, w' = x.w) hm hB ⟨⟨w.drew, (Ext.refl w).drew⟩, rfl⟩ (by simpa using h)

theorem calls_later {P : Program} {f : FuncId} {args : Array Value} {w : World} {x : Later w} {v : Value} (h : Calls P f args x.w fun e w' => e = .returned v ∧ Ext x.w w') :
    Calls P f args x.w fun e w'' => e = .returned v ∧ ∃ y : Later w, w'' = y.w :=
  h.mono fun _ w' ⟨he, hx⟩ => ⟨he, ⟨w', x.ext.trans hx⟩, rfl⟩

/-- What a cell holds in w it holds later. -/
theorem cell_later {w : World} {p : Addr} {v : Value} (h : w.cell? p = some v) (x : Later w) : x.w.cell? p = some v := by
  rw [x.ext.cell (p := p) (World.block_lt_of_cell? w p h)]
  exact h
end Go.Proofs.YtjfhhhabcbkahaaGreat

/-
  'append' onto a slice of the call's own, at a step of a region that draws its order: whatever row is appended, nil or empty too. Nothing here speaks of the program.
-/
namespace Go.Proofs.YtjfhhhabcbkahaaGreat
open Go.RowKit

theorem Own.made_at {k : IntKind} {e : TypeId} {base g : Nat} (w : World) (hg : w.heap.size = g) (hb : base ≤ g) : Own k (w.alloc (.cells #[] e)) base e (.slice (some ⟨g, 0, none⟩) 0 0) [] := by
  subst hg
  exact Own.made w hb

theorem Own.drew {k : IntKind} {e : TypeId} {base : Nat} {w : World} {v : Value} {xs : List Int} (h : Own k w base e v xs) : Own k w.drew base e v xs := h
theorem run_append_Own {P : Program} (w : World) (t ty : TypeId) (base : Nat) (e : TypeId) (i : TypeInfo) (k : IntKind) (bytes : Nat) (ht : P.underlying t = some (.slice e)) (hi : P.info? e = some i) (hz : i.zero = some (.int k 0))
    (hsize : i.size = 1) (hby : i.bytes = bytes) (v : Value) (hown : Own k w base e v []) (vx : Value) (ys : List Int) (hrow : Row k w vx ys) (h63 : ys.length ≤ maxLen) (hbytes : ys.length * bytes ≤ 140737488355328) (hbase : base ≤ w.heap.size) :
    ∃ ao cap w', (Builtin.append_ #[t, t] ty #[v, vx]).run P w = .ok (.slice ao ys.length cap) w' ∧ Own k w' base e (.slice ao ys.length cap) ys ∧ w.grownBy w' v.ownBlock := by
  have fin : ∀ v' w', w'.ownsRow base e 1 v' (0 + ys.length) (([] : List Int).map (Value.int k) ++ ys.map (Value.int k)) → Own k w' base e v' ys := by
    intro v' w' h1
    unfold Own
    rw [Nat.zero_add] at h1
    exact h1
  rcases hrow with ⟨rfl, ao, cap, rfl, h0, hm⟩ | ⟨hne, b, off, cap, rfl, hl, hm, hc⟩
  · cases ao with
    | none =>
      obtain rfl := h0 rfl
      obtain ⟨ao, cap, hv⟩ := hown.shape
      subst hv
      exact ⟨ao, cap, w, run_append_owned_none (P := P) (w := w) base t ty e i 1 ht hi _ 0 _ hown, hown, World.grownBy.refl _ _⟩
    | some ad =>
      obtain ⟨v', w', hr, h2, h3, _⟩ := run_append_own_at (P := P) w base t ty e i (.int k 0) 1 bytes ht hi hz hsize hby rfl (by decide) v 0 _ hown ad 0 cap [] rfl (by simp) (by simp) (by simp) (by simp) hbase
      have ho := fin v' w' h2
      obtain ⟨ao', cap', hv⟩ := ho.shape
      subst hv
      exact ⟨ao', cap', w', hr, ho, h3⟩
  · obtain ⟨v', w', hr, h2, h3, _⟩ := run_append_own_at (P := P) w base t ty e i (.int k 0) 1 bytes ht hi hz hsize hby rfl (by decide) v 0 _ hown ⟨b, off, none⟩ ys.length cap (ys.map (Value.int k)) (by simp) (Row.news hc) (ints_oneCell _ _) (by simpa using h63) (by simpa using hbytes) hbase
    have ho := fin v' w' h2
    obtain ⟨ao', cap', hv⟩ := ho.shape
    subst hv
    exact ⟨ao', cap', w', hr, ho, h3⟩

theorem step_append_Own {P : Program} {ops : Array Oper} {o : Oper} {a : Act} {w : World} {K : Act → World → Prop} {Q : Exit → Act → World → Prop} {E : Prop} (hgd : o.guard = none) (s x : Operand) (t : TypeId)
    (ho : o.op = .call { callee := .builtin .append, args := #[s, x], argTypes := #[t, t] })
    (base : Nat) (e : TypeId) (i : TypeInfo) (k : IntKind) (bytes : Nat) (ht : P.underlying t = some (.slice e)) (hi : P.info? e = some i) (hz : i.zero = some (.int k 0)) (hsize : i.size = 1) (hby : i.bytes = bytes)
    (v : Value) (hs : a.eval s = v) (vx : Value) (hx : a.eval x = vx) (hown : Own k w base e v []) (ys : List Int) (hrow : Row k w vx ys) (h63 : ys.length ≤ maxLen) (hbytes : ys.length * bytes ≤ 140737488355328) (hbase : base ≤ w.heap.size)
    (h : ∀ ao cap w', Own k w' base e (.slice ao ys.length cap) ys → w.grownBy w' v.ownBlock → K (a.put o.dst (.slice ao ys.length cap)) w') :
    if Region.wanted o (yielded ops a.tmps) = true then Oper.wp P o a w K Q else E := by
  have hw : Region.wanted o (yielded ops a.tmps) = true := by simp [Region.wanted, hgd]
  rw [if_pos hw]
  obtain ⟨ao, cap, w', hr, h2, h3⟩ := run_append_Own (P := P) w t o.type base e i k bytes ht hi hz hsize hby v hown vx ys hrow h63 hbytes hbase
  unfold Oper.wp execOp
  simp only [ho, resolve, invoke, builtin, Sem.run_bind, Sem.run_pure, Result.andThen_ok, List.map_toArray, List.map_cons, List.map_nil, hs, hx, hr]
  exact h ao cap w' h2 h3

theorem own_of_block {k : IntKind} {e : TypeId} {base g : Nat} {w : World} (hb : base ≤ g) (h : w.heap[g]? = some (.cells #[] e (0, 0))) : Own k w base e (.slice (some ⟨g, 0, none⟩) 0 0) [] := by
  exact ⟨rfl, .inr ⟨g, 0, #[], rfl, hb, h, Nat.le_refl _, by unfold maxLen; omega, rfl, rfl⟩⟩
theorem heap_at1 (w : World) (o : Obj) : (w.alloc o).drew.heap[w.heap.size]? = some o := heap_alloc_new w o
theorem heap_at2a (w : World) (o o' : Obj) : ((w.alloc o).alloc o').drew.heap[w.heap.size]? = some o := by
  show ((w.alloc o).alloc o').heap[w.heap.size]? = some o
  have h := heap_alloc_new w o
  have hl : w.heap.size < (w.alloc o).heap.size := by simp
  exact (((Ext.refl (w.alloc o)).alloc o').block _ hl).trans h
theorem heap_at2b (w : World) (o o' : Obj) : ((w.alloc o).alloc o').drew.heap[w.heap.size + 1]? = some o' := by
  show ((w.alloc o).alloc o').heap[w.heap.size + 1]? = some o'
  have h := heap_alloc_new (w.alloc o) o'
  rwa [show (w.alloc o).heap.size = w.heap.size + 1 by simp] at h
theorem ext_1 (w : World) (o : Obj) : Ext w (w.alloc o).drew := ((Ext.refl w).alloc o).drew
theorem ext_2 (w : World) (o o' : Obj) : Ext w ((w.alloc o).alloc o').drew := (((Ext.refl w).alloc o).alloc o').drew

/-- The same, as a walk needs it: the empty slice lies in block g, which was made since w1. -/
theorem step_append_R {P : Program} {ops : Array Oper} {o : Oper} {a : Act} {w : World} {K : Act → World → Prop} {Q : Exit → Act → World → Prop} {E : Prop} (hgd : o.guard = none) (s x : Operand) (t : TypeId)
    (ho : o.op = .call { callee := .builtin .append, args := #[s, x], argTypes := #[t, t] })
    (e : TypeId) (i : TypeInfo) (k : IntKind) (bytes : Nat) (ht : P.underlying t = some (.slice e)) (hi : P.info? e = some i) (hz : i.zero = some (.int k 0)) (hsize : i.size = 1) (hby : i.bytes = bytes)
    (w1 : World) (ys : List Int) (vx : Value) (hrow : Row k w1 vx ys) (h63 : ys.length ≤ maxLen) (hbytes : ys.length * bytes ≤ 140737488355328)
    (g : Nat) (hs : a.eval s = .slice (some ⟨g, 0, none⟩) 0 0) (hx : a.eval x = vx) (hg : w1.heap.size ≤ g) (hext : Ext w1 w) (hb : w.heap[g]? = some (.cells #[] e (0, 0)))
    (h : ∀ ao cap w', Row k w' (.slice ao ys.length cap) ys → Ext w1 w' → (∀ r cs ty, r ≠ g → Blk w r cs ty → Blk w' r cs ty) → K (a.put o.dst (.slice ao ys.length cap)) w') :
    if Region.wanted o (yielded ops a.tmps) = true then Oper.wp P o a w K Q else E := by
  refine step_append_Own hgd s x t ho w1.heap.size e i k bytes ht hi hz hsize hby _ hs vx hx (own_of_block hg hb) ys (hrow.ext hext) h63 hbytes hext.size fun ao cap w' h1 h2 => ?_
  have h3 : w.grownBy w' (some g) := h2
  exact h ao cap w' h1.row (below_grown hext h3 hext.size hg) fun r cs ty hne hB => hB.grown h3 hne

/-- Four values laid into a block of four. -/
theorem Blk.set4 {w : World} {b : Nat} {y0 y1 y2 y3 : Value} {t : TypeId} (h : w.heap[b]? = some (.cells #[y0, y1, y2, y3] t (0, 0))) (x0 x1 x2 x3 : Value) :
    ((((w.setCell ⟨b, 0, none⟩ x0).setCell ⟨b, 1, none⟩ x1).setCell ⟨b, 2, none⟩ x2).setCell ⟨b, 3, none⟩ x3).heap[b]? = some (.cells #[x0, x1, x2, x3] t (0, 0)) := by
  have h0 := heap_setCell_same w b 0 _ t x0 h
  have h1 := heap_setCell_same _ b 1 _ t x1 h0
  have h2 := heap_setCell_same _ b 2 _ t x2 h1
  have h3 := heap_setCell_same _ b 3 _ t x3 h2
  simpa using h3
end Go.Proofs.YtjfhhhabcbkahaaGreat

/-
  Nodes that the law copies: a row of the call's own, each node's numbers in rows apart from it.
-/
namespace Go.Proofs.YtjfhhhabcbkahaaGreat
open Go.RowKit
set_option linter.unusedVariables false
set_option linter.unusedSimpArgs false

def icell (p : NtI) : List Value := [.int .i64 p.2.kind, .string ⟨p.2.ty.toArray⟩, .string ⟨p.2.text.toArray⟩, .int .i32 p.2.num, p.1, .int .i64 p.2.place]
def icells (ns : List NtI) : List Value := ns.flatMap icell
theorem icells_len (ns : List NtI) : (icells ns).length = ns.length * 6 := by
  induction ns with
  | nil => rfl
  | cons x r ih =>
    unfold icells at ih ⊢
    rw [List.flatMap_cons, List.length_append, ih]
    simp [icell]
    omega
theorem icells_append (A B : List NtI) : icells (A ++ B) = icells A ++ icells B := by
  unfold icells
  rw [List.flatMap_append]
theorem icells_one (x : NtI) : icells [x] = icell x := by simp [icells]
theorem icells_get : ∀ (ns : List NtI) (i : Nat) (h : i < ns.length) (j : Nat), j < 6 → (icells ns)[i * 6 + j]? = (icell ns[i])[j]?
  | x :: r, 0, _, j, hj => by
    have e : icells (x :: r) = icell x ++ icells r := rfl
    rw [e, List.getElem?_append_left (by simp [icell]; omega)]
    simp
  | x :: r, i + 1, h, j, hj => by
    have ih := icells_get r i (by simpa using h) j hj
    have e : icells (x :: r) = icell x ++ icells r := rfl
    have el : (icell x).length = 6 := rfl
    rw [e, List.getElem?_append_right (by omega), el, show (i + 1) * 6 + j - 6 = i * 6 + j by omega]
    simpa using ih

/-- A row is kept where its block is. -/
theorem Row.keptB {k : IntKind} {w w' : World} {u : Value} {xs : List Int} (h : Row k w u xs) (hb : ∀ g, u.ownBlock = some g → g < w.heap.size → w'.heap[g]? = w.heap[g]?) : Row k w' u xs := by
  rcases h with h | ⟨hne, b, off, cap, rfl, hl, hm, hc⟩
  · exact .inl h
  · refine .inr ⟨hne, b, off, cap, rfl, hl, hm, fun i hi => ?_⟩
    rw [World.cell?_of_block (w := w) (w' := w') (a := ⟨b, off + i, none⟩) (hb b rfl (World.block_lt_of_cell? w _ (hc i hi)))]
    exact hc i hi

/-- The slice v is the call's own and holds these nodes; their numbers lie elsewhere. -/
structure NRI (w : World) (base : Nat) (v : Value) (ns : List NtI) : Prop where
  own : w.ownsRow base 39 6 v ns.length (icells ns)
  kid : ∀ p ∈ ns, Row .i64 w p.1 p.2.kids
  apart : ∀ p ∈ ns, ∀ g, p.1.ownBlock = some g → base ≤ g ∧ g < w.heap.size ∧ v.ownBlock ≠ some g
section
variable {w w' : World} {base : Nat} {v : Value} {ns : List NtI}
theorem NRI.nil (w : World) (base : Nat) : NRI w base (.slice none 0 0) [] := ⟨World.ownsRow_nil _ _ _ _, (fun p hp => by cases hp), (fun p hp => by cases hp)⟩
theorem NRI.ext (h : NRI w base v ns) (hx : Ext w w') : NRI w' base v ns :=
  ⟨owns_kept h.own (fun k h1 h2 _ => hx.block k h1), fun p hp => (h.kid p hp).ext hx, fun p hp g hg => ⟨(h.apart p hp g hg).1, Nat.lt_of_lt_of_le (h.apart p hp g hg).2.1 hx.size, (h.apart p hp g hg).2.2⟩⟩
/-- What is stored below the row's floor does not touch it. -/
theorem NRI.stored (h : NRI w base v ns) {b : Nat} (hb : b < base) (j : Nat) (u : Value) : NRI (w.setCell ⟨b, j, none⟩ u) base v ns := by
  have hg : w.grownBy (w.setCell ⟨b, j, none⟩ u) (some b) := grownBy_set _ _ _ _
  refine ⟨owns_kept h.own (fun k h1 h2 _ => hg.block k h1 (fun e => by cases e; omega)), fun p hp => (h.kid p hp).keptB (fun g hg2 hlt => hg.block g hlt (fun e => by have e2 := Option.some.inj e; have := (h.apart p hp g hg2).1; omega)), fun p hp g hg2 => ⟨(h.apart p hp g hg2).1, Nat.lt_of_lt_of_le (h.apart p hp g hg2).2.1 hg.size, (h.apart p hp g hg2).2.2⟩⟩
/-- What is owned, as it is read. -/
theorem NRI.nl (h : NRI w base v ns) : NL w v ns := by
  have h0 := h.own
  rcases h0.2 with ⟨e, h1⟩ | ⟨g, cap, cur, e, hb, hg, hnc, hcm, hcs, htake⟩
  · refine ⟨none, 0, by rw [e, h1], fun _ => rfl, by omega, Nat.zero_le _, fun i hi => by omega⟩
  · refine ⟨_, cap, e, (fun c => by cases c), hnc, hcm, fun i hi => ⟨g, 0, rfl, ?_⟩⟩
    have hc := World.ownsRow.cells h0 (g := g) (by rw [e]; rfl)
    have hj : ∀ j u, j < 6 → (icell ns[i])[j]? = some u → w.cell? ⟨g, 0 + i * 6 + j, none⟩ = some u := fun j u h5 hu => by
      have := hc (i * 6 + j) u (by rw [icells_get ns i hi j h5]; exact hu)
      rw [Addr.add_lit] at this
      rw [Nat.add_assoc]
      exact this
    exact ⟨hj 0 _ (by omega) rfl, hj 1 _ (by omega) rfl, hj 2 _ (by omega) rfl, hj 3 _ (by omega) rfl, hj 4 _ (by omega) rfl, hj 5 _ (by omega) rfl, h.kid _ (List.getElem_mem hi)⟩
/-- 'append(nodes, x)', laid last, x's numbers elsewhere. -/
theorem NRI.push (h : NRI w base v ns) (x : NtI) (hr : Row .i64 w x.1 x.2.kids) (ha : ∀ g, x.1.ownBlock = some g → base ≤ g ∧ g < w.heap.size ∧ v.ownBlock ≠ some g) (hb : base ≤ w.heap.size) (hl : ns.length ≤ 1000000000) :
    ∃ ao cap w', (Builtin.append_ #[22, 22] 22 #[v, .slice (some ⟨w.heap.size, 0, none⟩) 1 1]).run Tryz.prog (w.alloc (.cells (icell x).toArray 39)) = .ok (.slice ao (ns.length + 1) cap) w' ∧
      NRI w' base (.slice ao (ns.length + 1) cap) (ns ++ [x]) ∧ w.grownBy w' v.ownBlock := by
  obtain ⟨i0, hi, hz0, hz1, hz2⟩ := info_parts3 infoN
  have hsx : ∃ so sc, x.1 = .slice so x.2.kids.length sc := by
    obtain ⟨so, sc, e, _⟩ := hr.shape
    exact ⟨so, sc, e⟩
  have hown := World.ownsRow.alloc h.own (.cells (icell x).toArray 39)
  obtain ⟨v', w2, hrun, q1, q2, _, q4⟩ := run_append_own_at (P := Tryz.prog) (w.alloc (.cells (icell x).toArray 39)) base 22 22 39 i0 _ 6 80 Tryz.underlying22 hi hz0 hz1 hz2 rfl (by decide) v ns.length (icells ns) hown ⟨w.heap.size, 0, none⟩ 1 1 (icell x) rfl
    (by
      intro j u hu
      have hB := Blk.new w (icell x).toArray 39
      rw [Addr.add_lit, Nat.zero_add]
      exact hB.cell (by simpa using hu))
    (by
      intro u hu
      obtain ⟨so, sc, e⟩ := hsx
      simp [icell] at hu
      rcases hu with rfl | rfl | rfl | rfl | rfl | rfl
      · rfl
      · rfl
      · rfl
      · rfl
      · rw [e]; rfl
      · rfl)
    (by unfold maxLen; omega) (by omega) (by simp; omega)
  have hsh : ∃ ao cap, v' = .slice ao (ns.length + 1) cap := by
    rcases q1.2 with ⟨e, h0⟩ | ⟨g, c, cur, e, _⟩
    · omega
    · exact ⟨_, _, e⟩
  obtain ⟨ao, cap, rfl⟩ := hsh
  have hg6 : w.grownBy w2 v.ownBlock := (extGrown ((Ext.refl w).alloc _) _).trans q2
  have hloc : ∀ g, (Value.slice ao (ns.length + 1) cap).ownBlock = some g → v.ownBlock = some g ∨ w.heap.size < g := fun g hg => by
    rcases q4 with q4 | q4
    · exact .inl (q4 ▸ hg)
    · rw [q4] at hg
      simp at hg
      exact .inr (by omega)
  have hall : ∀ p ∈ ns ++ [x], Row .i64 w p.1 p.2.kids ∧ ∀ g, p.1.ownBlock = some g → base ≤ g ∧ g < w.heap.size ∧ v.ownBlock ≠ some g := fun p hp => by
    rcases List.mem_append.1 hp with hp | hp
    · exact ⟨h.kid p hp, h.apart p hp⟩
    · rw [List.mem_singleton] at hp
      subst hp
      exact ⟨hr, ha⟩
  refine ⟨ao, cap, w2, hrun, ⟨?_, fun p hp => ?_, fun p hp g hg => ?_⟩, hg6⟩
  · rw [List.length_append, icells_append, icells_one]
    exact q1
  · exact (hall p hp).1.keptB (fun g hg hlt => hg6.block g hlt (fun e => ((hall p hp).2 g hg).2.2 e.symm))
  · have h1 := (hall p hp).2 g hg
    refine ⟨h1.1, Nat.lt_of_lt_of_le h1.2.1 hg6.size, fun e => ?_⟩
    rcases hloc g e with h2 | h2
    · exact h1.2.2 h2
    · omega
end
end Go.Proofs.YtjfhhhabcbkahaaGreat

/-
  The law's copied: nodes and numbers of its own.
-/
namespace Go.Proofs.YtjfhhhabcbkahaaGreat
open Go.RowKit
set_option linter.unusedVariables false
set_option linter.unusedSimpArgs false

set_option maxRecDepth 10000 in
set_option maxHeartbeats 2000000 in
theorem copiedT_any (A : List NtI) (ao : Option Addr) (ca : Nat) (w : World) (hA : NL w (.slice ao A.length ca) A) (hn : A.length ≤ 1000000) (hk : ∀ p ∈ A, p.2.kids.length ≤ 17592186044416) :
    Calls Tryz.prog 8 #[.agg #[.slice ao A.length ca]] w fun e w' => ∃ lo lc A', e = .returned (.agg #[.slice lo A'.length lc]) ∧ NRI w' (w.heap.size + 2) (.slice lo A'.length lc) A' ∧ A'.map Prod.snd = A.map Prod.snd ∧ Ext w w' := by
  obtain ⟨i0, hi, hz0, hz1, hz2⟩ := info_parts3 infoI
  have HIN := hide (And.intro hi (And.intro hz0 (And.intro hz1 hz2)))
  have hcm : A.length ≤ ca ∧ ca ≤ 9223372036854775807 := by
    obtain ⟨_, _, e, _, h2, h3, _⟩ := hA
    cases e
    unfold maxLen at h3
    exact ⟨h2, by omega⟩
  obtain ⟨hc1, hc2⟩ := hcm
  have HA := hide hA
  have HK := hide hk
  have hB1 : Blk ((w.alloc (.cells #[.slice ao A.length ca] 24)).alloc (.cells #[.slice none 0 0] 24)) (w.heap.size + 1) #[.slice none 0 0] 24 := by
    have h := Blk.new (w.alloc (.cells #[.slice ao A.length ca] 24)) #[.slice none 0 0] 24
    rw [show (w.alloc (.cells #[.slice ao A.length ca] 24)).heap.size = w.heap.size + 1 by simp] at h
    exact h
  have hX0 := ((Ext.refl w).alloc (.cells #[.slice ao A.length ca] 24)).alloc (.cells #[.slice none 0 0] 24)
  have H0 := hide (And.intro hB1 hX0)
  clear hA hk hi hz0 hz1 hz2 hB1 hX0
  go_enter Tryz.func8, Tryz.ntmps8
  go_wp2
  go_loopw [3, 9] (fun l iv wr => ∃ (k : Nat) (lo : Option Addr) (lc : Nat) (A' : List NtI), k ≤ A.length ∧ iv = .int .i64 (k : Int) ∧ l = .slice lo k lc ∧ A'.length = k ∧ A'.map Prod.snd = (A.take k).map Prod.snd ∧ NRI wr (w.heap.size + 2) (.slice lo k lc) A' ∧ Blk wr (w.heap.size + 1) #[.slice none 0 0] 24 ∧ Ext w wr) (fun _ iv _ => A.length - (intOf iv).toNat)
  case atStart => exact ⟨0, none, 0, [], Nat.zero_le _, rfl, rfl, rfl, rfl, NRI.nil _ _, (unhide H0).1, (unhide H0).2⟩
  case round =>
    clear H0
    obtain ⟨k, lo, lc, A', hkl, rfl, rfl, hlA, hmap, hN, hB, hX⟩ := hrel
    by_cases hlt : k < A.length
    · have hkn : (k : Int) < (A.length : Int) := by omega
      obtain ⟨b, off, rfl, hc⟩ := ((unhide HA).ext hX).at k hlt
      have hkk := unhide HK _ (List.getElem_mem hlt)
      have HMS := hide (show ∀ u : Value, (A' ++ [(u, A[k].2)]).map Prod.snd = (A.take (k + 1)).map Prod.snd from fun u => by rw [List.map_append, hmap, List.take_succ_eq_append_getElem hlt, List.map_append]; rfl)
      generalize A[k] = x at hc hkk HMS
      obtain ⟨c0, c1, c2, c3, c4, c5, hrow⟩ := hc
      obtain ⟨kv, kind, ty, text, num, kids, place⟩ := x
      dsimp only at c0 c1 c2 c3 c4 c5 hrow hkk HMS
      obtain ⟨ko, kc, rfl, _, hkc1, hkc2⟩ := hrow.shape
      have hlN : ∀ g, (Value.slice lo k lc).ownBlock = some g → w.heap.size + 2 ≤ g ∧ g < wr.heap.size := World.ownsRow.lt hN.own
      have hBl := hB.lt
      have hs1 : (wr.alloc (.cells #[.int .i64 kind, .string ⟨ty.toArray⟩, .string ⟨text.toArray⟩, .int .i32 num, .slice ko kids.length kc, .int .i64 place] 39)).heap.size = wr.heap.size + 1 := by simp
      have hx1 : Ext wr (wr.alloc (.cells #[.int .i64 kind, .string ⟨ty.toArray⟩, .string ⟨text.toArray⟩, .int .i32 num, .slice ko kids.length kc, .int .i64 place] 39)) := (Ext.refl wr).alloc _
      have hb1 := Blk.new wr #[.int .i64 kind, .string ⟨ty.toArray⟩, .string ⟨text.toArray⟩, .int .i32 num, .slice ko kids.length kc, .int .i64 place] 39
      obtain ⟨ao6, cap6, w6, hrun, hown6, hg6⟩ := run_append_Own (P := Tryz.prog) ((wr.alloc (.cells #[.int .i64 kind, .string ⟨ty.toArray⟩, .string ⟨text.toArray⟩, .int .i32 num, .slice ko kids.length kc, .int .i64 place] 39)).alloc (.cells #[] 3)) 37 37 (wr.heap.size + 1) 3 i0 .i64 8 Tryz.underlying37 (unhide HIN).1 (unhide HIN).2.1 (unhide HIN).2.2.1 (unhide HIN).2.2.2 (.slice (some ⟨wr.heap.size + 1, 0, none⟩) 0 0) (Own.made_at _ hs1 (Nat.le_refl _)) (.slice ko kids.length kc) kids (hrow.ext (hx1.alloc _)) (by unfold maxLen; omega) (by omega) (by simp)
      have hx6 : Ext (wr.alloc (.cells #[.int .i64 kind, .string ⟨ty.toArray⟩, .string ⟨text.toArray⟩, .int .i32 num, .slice ko kids.length kc, .int .i64 place] 39)) w6 := below_grown ((Ext.refl _).alloc _) (show ((wr.alloc (.cells #[.int .i64 kind, .string ⟨ty.toArray⟩, .string ⟨text.toArray⟩, .int .i32 num, .slice ko kids.length kc, .int .i64 place] 39)).alloc (.cells #[] 3)).grownBy w6 (some (wr.heap.size + 1)) from hg6) (by simp) (by rw [hs1]; exact Nat.le_refl _)
      have hb6 := hb1.ext hx6
      have hx6r : Ext wr w6 := hx1.trans hx6
      have hs6 := hx6r.size
      have hl6 : ∀ g, (Value.slice ao6 kids.length cap6).ownBlock = some g → wr.heap.size + 1 ≤ g ∧ g < w6.heap.size := hown6.lt
      have hg7 : w6.grownBy (w6.setCell ⟨wr.heap.size, 4, none⟩ (.slice ao6 kids.length cap6)) (some wr.heap.size) := grownBy_set _ _ _ _
      have hs7 : (w6.setCell ⟨wr.heap.size, 4, none⟩ (.slice ao6 kids.length cap6)).heap.size = w6.heap.size := by simp
      have hx7 : Ext wr (w6.setCell ⟨wr.heap.size, 4, none⟩ (.slice ao6 kids.length cap6)) := below_grown hx6r hg7 hs6 (Nat.le_refl _)
      have hb7 := hb6.set 4 (.slice ao6 kids.length cap6)
      have hr7 : Row .i64 (w6.setCell ⟨wr.heap.size, 4, none⟩ (.slice ao6 kids.length cap6)) (.slice ao6 kids.length cap6) kids := hown6.row.keptB (fun g hg hlt2 => hg7.block g hlt2 (fun e => by have e2 := Option.some.inj e; have := hl6 g hg; omega))
      obtain ⟨ao8, c8, w8, hrun8, hN8, hg8⟩ := (hN.ext hx7).push (.slice ao6 kids.length cap6, ⟨kind, ty, text, num, kids, place⟩) hr7 (fun g hg => by
        have h1 := hl6 g hg
        refine ⟨by omega, by rw [hs7]; exact h1.2, fun e => ?_⟩
        have h2 := hlN g e
        omega) (by rw [hs7]; omega) (by omega)
      rw [hs7] at hrun8
      have hX8 : Ext w w8 := (hX.trans hx7).grown hg8 (hX.trans hx7).size (fun b e => by have := hlN b e; omega)
      have hB8 : Blk w8 (w.heap.size + 1) #[.slice none 0 0] 24 := (hg8.block _ (by rw [hs7]; omega) (fun e => by have := hlN _ e.symm; omega)).trans (hB.ext hx7)
      have HR := hide (And.intro hN8 (And.intro hB8 hX8))
      have HRUN := hide hrun
      have hrun9 : (Builtin.append_ #[22, 22] 22 #[.slice lo k lc, .slice (some ⟨w6.heap.size, 0, none⟩) 1 1]).run Tryz.prog ((w6.setCell ⟨wr.heap.size, 4, none⟩ (.slice ao6 kids.length cap6)).alloc (.cells #[.int .i64 kind, .string ⟨ty.toArray⟩, .string ⟨text.toArray⟩, .int .i32 num, .slice ao6 kids.length cap6, .int .i64 place] 39)) = .ok (.slice ao8 (A'.length + 1) c8) w8 := hrun8
      have HRUN9 := hide hrun9
      have d0 := hb6.cell (i := 0) (v := .int .i64 kind) rfl
      have d1 := hb6.cell (i := 1) (v := .string ⟨ty.toArray⟩) rfl
      have d2 := hb6.cell (i := 2) (v := .string ⟨text.toArray⟩) rfl
      have d3 := hb6.cell (i := 3) (v := .int .i32 num) rfl
      have d4 := hb6.cell (i := 4) (v := .slice ko kids.length kc) rfl
      have d5 := hb6.cell (i := 5) (v := .int .i64 place) rfl
      have f4 := hb6.free 4
      have HLN := hide (And.intro hlA hmap)
      clear hrow hN hB hX hmap hlN hBl hs1 hx1 hb1 hrun hown6 hg6 hx6 hb6 hx6r hs6 hl6 hg7 hs7 hx7 hb7 hr7 hrun8 hN8 hg8 hX8 hB8 hrun9
      go_wp2_with (first
        | (at_builtin; refine wpList_run rfl (.tmp 13) (.tmp 15) 37 rfl rfl rfl (unhide HRUN) ?_)
        | (at_builtin; refine wpList_run rfl (.tmp 18) (.tmp 20) 22 rfl rfl rfl (unhide HRUN9) ?_))
      go_roundw
      case rel => exact ⟨k + 1, ao8, c8, A' ++ [(.slice ao6 kids.length cap6, ⟨kind, ty, text, num, kids, place⟩)], by omega, by go_num, by first | rfl | rw [hlA], by simp [hlA], unhide HMS _, hlA ▸ (unhide HR).1, (unhide HR).2.1, (unhide HR).2.2⟩
      case measure => simp [intOf]; omega
    · obtain rfl : k = A.length := by omega
      rw [List.take_length] at hmap
      have q0 := hB.cell (i := 0) (v := .slice none 0 0) rfl
      have f0 := hB.free 0
      have hb7 := hB.set 0 (.slice lo A.length lc)
      have hN7 := hN.stored (b := w.heap.size + 1) (by omega) 0 (.slice lo A.length lc)
      have hX7 : Ext w (wr.setCell ⟨w.heap.size + 1, 0, none⟩ (.slice lo A.length lc)) := below_grown hX (grownBy_set _ _ _ _) hX.size (by omega)
      rw [← hlA] at hN7
      have HR := hide (And.intro hb7 (And.intro hN7 (And.intro hmap hX7)))
      clear hN hB hX hb7 hN7 hX7 hlt hkl hmap
      go_wp2
      have r0 := (unhide HR).1.cell (i := 0) rfl
      refine bodyPost_ret (v := .agg #[.slice lo A.length lc]) (by simp [results, Tryz.results8, go_sem, r0]) rfl ⟨lo, lc, A', by rw [hlA], ?_⟩
      rw [hlA] at *
      exact (unhide HR).2
end Go.Proofs.YtjfhhhabcbkahaaGreat

/-
  A node of the law's own is cut in its place: its numbers, its text, its type.
-/
namespace Go.Proofs.YtjfhhhabcbkahaaGreat
open Go.RowKit
set_option linter.unusedVariables false
set_option linter.unusedSimpArgs false

theorem icells_set3 (A B : List NtI) (x : NtI) (u : Value) (ks : List Int) (s1 s2 : Byts8) :
    (((icells (A ++ x :: B)).set (A.length * 6 + 4) u).set (A.length * 6 + 2) (.string ⟨s2.toArray⟩)).set (A.length * 6 + 1) (.string ⟨s1.toArray⟩) = icells (A ++ (u, ⟨x.2.kind, s1, s2, x.2.num, ks, x.2.place⟩) :: B) := by
  rw [icells_append, icells_append, List.set_append_right _ _ (by rw [icells_len]; omega), List.set_append_right _ _ (by rw [icells_len]; omega), List.set_append_right _ _ (by rw [icells_len]; omega), icells_len, Nat.add_sub_cancel_left, Nat.add_sub_cancel_left, Nat.add_sub_cancel_left]
  rfl
section
variable {w w' : World} {base : Nat} {v : Value} {ns : List NtI}
theorem NRI.cut {gv n cap : Nat} {A B : List NtI} {x : NtI} (h : NRI w base (.slice (some ⟨gv, 0, none⟩) n cap) (A ++ x :: B)) (u : Value) (ks : List Int) (s1 s2 : Byts8) (hr : Row .i64 w u ks) (hu : ∀ g, u.ownBlock = some g → base ≤ g ∧ g < w.heap.size ∧ g ≠ gv) :
    NRI (((w.setCell ⟨gv, A.length * 6 + 4, none⟩ u).setCell ⟨gv, A.length * 6 + 2, none⟩ (.string ⟨s2.toArray⟩)).setCell ⟨gv, A.length * 6 + 1, none⟩ (.string ⟨s1.toArray⟩)) base (.slice (some ⟨gv, 0, none⟩) n cap) (A ++ (u, ⟨x.2.kind, s1, s2, x.2.num, ks, x.2.place⟩) :: B) ∧
    w.grownBy (((w.setCell ⟨gv, A.length * 6 + 4, none⟩ u).setCell ⟨gv, A.length * 6 + 2, none⟩ (.string ⟨s2.toArray⟩)).setCell ⟨gv, A.length * 6 + 1, none⟩ (.string ⟨s1.toArray⟩)) (some gv) := by
  have hn : n = (A ++ x :: B).length := by
    rcases h.own.2 with ⟨e, _⟩ | ⟨g2, c2, cur, e, _⟩
    · cases e
    · cases e; rfl
  have hl : (A ++ (u, (⟨x.2.kind, s1, s2, x.2.num, ks, x.2.place⟩ : Ndi)) :: B).length = n := by rw [hn]; simp
  obtain ⟨h1, g1⟩ := World.ownsRow.stored (hn ▸ h.own) (A.length * 6 + 4) u
  obtain ⟨h2, g2⟩ := World.ownsRow.stored h1 (A.length * 6 + 2) (.string ⟨s2.toArray⟩)
  obtain ⟨h3, g3⟩ := World.ownsRow.stored h2 (A.length * 6 + 1) (.string ⟨s1.toArray⟩)
  rw [icells_set3 A B x u ks s1 s2] at h3
  have hg : w.grownBy (((w.setCell ⟨gv, A.length * 6 + 4, none⟩ u).setCell ⟨gv, A.length * 6 + 2, none⟩ (.string ⟨s2.toArray⟩)).setCell ⟨gv, A.length * 6 + 1, none⟩ (.string ⟨s1.toArray⟩)) (some gv) := ((grownBy_set _ _ _ _).trans (grownBy_set _ _ _ _)).trans (grownBy_set _ _ _ _)
  have hall : ∀ p ∈ A ++ (u, (⟨x.2.kind, s1, s2, x.2.num, ks, x.2.place⟩ : Ndi)) :: B, Row .i64 w p.1 p.2.kids ∧ ∀ g, p.1.ownBlock = some g → base ≤ g ∧ g < w.heap.size ∧ g ≠ gv := fun p hp => by
    have hold : p ∈ A ++ x :: B → Row .i64 w p.1 p.2.kids ∧ ∀ g, p.1.ownBlock = some g → base ≤ g ∧ g < w.heap.size ∧ g ≠ gv := fun hp2 => ⟨h.kid p hp2, fun g hg5 => by
      obtain ⟨a1, a2, a3⟩ := h.apart p hp2 g hg5
      exact ⟨a1, a2, fun e => a3 (by rw [e]; rfl)⟩⟩
    rcases List.mem_append.1 hp with hp | hp
    · exact hold (List.mem_append_left _ hp)
    · rcases List.mem_cons.1 hp with hp | hp
      · subst hp
        exact ⟨hr, hu⟩
      · exact hold (List.mem_append_right _ (List.mem_cons_of_mem _ hp))
  refine ⟨⟨by rw [hl]; rw [← hn] at h3; exact h3, fun p hp => (hall p hp).1.keptB (fun g hg5 hlt => hg.block g hlt (fun e => ((hall p hp).2 g hg5).2.2 (Option.some.inj e))), fun p hp g hg5 => ?_⟩, hg⟩
  obtain ⟨a1, a2, a3⟩ := (hall p hp).2 g hg5
  exact ⟨a1, Nat.lt_of_lt_of_le a2 hg.size, fun e => a3 (Option.some.inj e).symm⟩
end
/-- What short leaves of a node. -/
def cutN (n : Ndi) : Ndi := ⟨n.kind, n.ty.take 40, n.text.take 40, n.num, n.kids.take 60, n.place⟩
/-- The first numbers of a row. -/
theorem Row.first {k : IntKind} {w : World} {ao : Option Addr} {n cap : Nat} {xs : List Int} (h : Row k w (.slice ao n cap) xs) (m : Nat) (hm : m ≤ xs.length) : Row k w (.slice ao m cap) (xs.take m) := by
  have hl : (xs.take m).length = m := by rw [List.length_take]; omega
  rcases h with ⟨rfl, a1, c1, e, h1, h2⟩ | ⟨hne, b, off, c1, e, h1, h2, h3⟩
  · cases e
    have hm0 : m = 0 := by simpa using hm
    subst hm0
    exact .inl ⟨rfl, _, _, rfl, h1, h2⟩
  · cases e
    by_cases hm0 : m = 0
    · subst hm0
      exact .inl ⟨rfl, _, _, rfl, (fun c => by cases c), h2⟩
    · refine .inr ⟨fun c => by rw [c] at hl; simp at hl; omega, b, off, cap, by rw [hl], by omega, h2, fun i hi => ?_⟩
      rw [hl] at hi
      rw [h3 i (by omega)]
      simp [List.getD, List.getElem?_take, hi]
end Go.Proofs.YtjfhhhabcbkahaaGreat

/-
  A region that draws its order: a load may be taken first where its cell is written only by operations that wait for it. The condition on the world hangs on what has come up.
-/
namespace Go.Proofs.YtjfhhhabcbkahaaGreat
open Go.RowKit
set_option linter.unusedVariables false
set_option linter.unusedSimpArgs false

section
variable {P : Program} {ops : Array Oper} {Q : Exit → Act → World → Prop} {md : Region.Mode} {S : Array Bool → World → Prop}

/-- Whatever order is picked from here on, and S holds of what has come up and of the world behind every operation. -/
def wpAnyL (P : Program) (md : Region.Mode) (ops : Array Oper) (Q : Exit → Act → World → Prop) (S : Array Bool → World → Prop) : Nat → Array Bool → Act → World → Prop
  | 0, listed, a, w => Region.ready md ops listed = [] ∧ Q .normal a w
  | fuel + 1, listed, a, w =>
    (Region.ready md ops listed = [] → Q .normal a w) ∧
    ∀ i ∈ Region.ready md ops listed, wpOp P ops Q i (fun a' w' => S (listed.setIfInBounds i true) w' ∧ wpAnyL P md ops Q S fuel (listed.setIfInBounds i true) a' w') a w

theorem wpAny_of_L : ∀ (fuel : Nat) (listed : Array Bool) (a : Act) (w : World), wpAnyL P md ops Q S fuel listed a w → wpAny P md ops Q fuel listed a w
  | 0, _, _, _, h => h
  | fuel + 1, _, _, _, h => ⟨h.1, fun i hi => wpOp_mono (fun a' w' h' => wpAny_of_L fuel _ a' w' h'.2) (h.2 i hi)⟩

theorem wpAnyL_first {i : Nat} {oi : Oper} {v : Value} {SY : World → Prop} {ds : List Nat} (hi : ops[i]? = some oi) (hsel : ∀ (j : Nat) (o : Oper) cs b, ops[j]? = some o → o.op ≠ .select cs b)
    (hQ : ∀ c a w, Q (.panic c) (a.put oi.dst v) w → Q (.panic c) a w) (hind : ∀ L w, S (L.setIfInBounds i true) w → S L w)
    (hSY : ∀ L w, (∀ s ∈ ds, L.getD s true = false) → S L w → SY w)
    (hdep : ∀ s ∈ ds, ∃ os, ops[s]? = some os ∧ ∃ e ∈ os.after, Region.binds md e = true ∧ e.on = i) :
    ∀ (fuel : Nat) (listed : Array Bool) (a : Act) (w : World),
      (∀ j oj, ops[j]? = some oj → j ≠ i → listed.getD j true = false → (∀ e ∈ oj.after, Region.binds md e = true → e.on ≠ i) → oi.apart ops oj = true) →
      i ∈ Region.ready md ops listed → (∀ s ∈ ds, listed.getD s true = false) → YieldsIf P ops SY oi v a → SY w → S (listed.setIfInBounds i true) w →
      wpAnyL P md ops Q S fuel (listed.setIfInBounds i true) (a.put oi.dst v) w → wpAnyL P md ops Q S (fuel + 1) listed a w := by
  intro fuel
  induction fuel with
  | zero =>
    intro listed a w _ hr hds hy hSw hS0 H
    refine ⟨fun h => (by rw [h] at hr; cases hr), fun j hj => ?_⟩
    by_cases hji : j = i
    · subst hji; exact hy.wpOp hi hSw ⟨hS0, H⟩
    · have := ready_mono hj hji
      rw [H.1] at this
      cases this
  | succ fuel ih =>
    intro listed a w hfree hr hds hy hSw hS0 H
    refine ⟨fun h => (by rw [h] at hr; cases hr), fun j hj => ?_⟩
    by_cases hji : j = i
    · subst hji; exact hy.wpOp hi hSw ⟨hS0, H⟩
    · have h1 := H.2 j (ready_mono hj hji)
      obtain ⟨hjun, oj, hoj, hall⟩ := mem_ready.1 hj
      have hnot : ∀ e ∈ oj.after, Region.binds md e = true → e.on ≠ i := fun e he hb heq => by
        have h1 := hall e he hb
        have h0 := (mem_ready.1 hr).1
        rw [heq] at h1
        rcases Nat.lt_or_ge i listed.size with h' | h'
        · simp [h'] at h0 h1; rw [h0] at h1; cases h1
        · simp [Array.getElem?_eq_none h'] at h1
      have hjs : ∀ s ∈ ds, j ≠ s := fun s hs e => by
        obtain ⟨os, hos, e2, he2, hb2, ho2⟩ := hdep s hs
        subst e
        rw [hoj] at hos
        cases hos
        exact hnot e2 he2 hb2 ho2
      have h2 := wpOp_putIf hoj (hfree j oj hoj hji hjun hnot) (fun cs b => hsel i oi cs b hi) (fun cs b => hsel j oj cs b hoj) hQ hy h1
      have hfree' : ∀ k ok, ops[k]? = some ok → k ≠ i → (listed.setIfInBounds j true).getD k true = false →
          (∀ e ∈ ok.after, Region.binds md e = true → e.on ≠ i) → oi.apart ops ok = true := fun k ok hk hki hun hno => by
        refine hfree k ok hk hki ?_ hno
        by_cases hjk : j = k
        · subst hjk; exact hjun
        · rw [getD_set_ne true hjk] at hun; exact hun
      have hds' : ∀ s ∈ ds, (listed.setIfInBounds j true).getD s true = false := fun s hs => by
        rw [getD_set_ne true (hjs s hs)]
        exact hds s hs
      have hcm : (listed.setIfInBounds i true).setIfInBounds j true = (listed.setIfInBounds j true).setIfInBounds i true := Array.setIfInBounds_comm _ _ (Ne.symm hji)
      rw [hcm] at h2
      exact wpOp_mono (fun a' w' h3 => ⟨hind _ _ h3.2.1, ih (listed.setIfInBounds j true) a' w' hfree' (ready_mono hr (Ne.symm hji)) hds' h3.1 (hSY _ _ hds' (hind _ _ h3.2.1)) h3.2.1 h3.2.2⟩) h2

/-- Number i may be taken first: it may come up, its value is the same in every world that it can meet, and nobody who could come before it touches its temporaries. -/
theorem wpAnyL_take {i : Nat} {oi : Oper} {v : Value} (SY : World → Prop) (ds : List Nat) {fuel : Nat} {listed : Array Bool} {a : Act} {w : World} (hi : ops[i]? = some oi)
    (hs : Region.noSelect ops = true) (hf : Region.free md ops listed i = true) (hr : (Region.ready md ops listed).contains i = true)
    (hdp : ds.all (fun s => (ops[s]?.map (fun o => o.after.any (fun e => Region.binds md e && e.on == i))).getD false) = true) (hun : ds.all (fun s => !(listed.getD s true)) = true)
    (hQ : ∀ c a w, Q (.panic c) (a.put oi.dst v) w → Q (.panic c) a w) (hind : ∀ L w, S (L.setIfInBounds i true) w → S L w)
    (hSY : ∀ L w, (∀ s ∈ ds, L.getD s true = false) → S L w → SY w)
    (hy : YieldsIf P ops SY oi v a) (hS : S listed w) (hS1 : S (listed.setIfInBounds i true) w)
    (h : wpAnyL P md ops Q S fuel (listed.setIfInBounds i true) (a.put oi.dst v) w) : wpAnyL P md ops Q S (fuel + 1) listed a w := by
  have hds : ∀ s ∈ ds, listed.getD s true = false := fun s hs => by
    have := List.all_eq_true.1 hun s hs
    simpa using this
  refine wpAnyL_first hi (Region.noSelect_spec hs) hQ hind hSY (fun s hs => ?_) fuel listed a w (Region.free_spec hi hf) (by simpa using hr) hds hy (hSY _ _ hds hS) hS1 h
  have := List.all_eq_true.1 hdp s hs
  cases ho : ops[s]? with
  | none => rw [ho] at this; simp at this
  | some os =>
    rw [ho] at this
    simp only [Option.map_some, Option.getD_some, Array.any_eq_true', Bool.and_eq_true, beq_iff_eq] at this
    obtain ⟨e, he, hb, ho2⟩ := this
    exact ⟨os, rfl, e, he, hb, ho2⟩

/-- Only one may come up. -/
theorem wpAnyL_one {i : Nat} {o : Oper} {fuel : Nat} {listed : Array Bool} {a : Act} {w : World} (hr : Region.ready md ops listed = [i]) (hi : ops[i]? = some o) (hw : Region.wanted o (yielded ops a.tmps) = true)
    (h : o.wp P a w (fun a' w' => S (listed.setIfInBounds i true) w' ∧ wpAnyL P md ops Q S fuel (listed.setIfInBounds i true) a' w') Q) : wpAnyL P md ops Q S (fuel + 1) listed a w := by
  refine ⟨fun h0 => (by rw [hr] at h0; cases h0), fun j hj => ?_⟩
  rw [hr] at hj
  obtain rfl : j = i := by simpa using hj
  unfold wpOp
  simp only [hi, hw, if_true]
  exact .inl h
/-- The same, what follows under a name. -/
theorem wpAnyL_next {i : Nat} {o : Oper} {fuel : Nat} {listed : Array Bool} {a : Act} {w : World} (hr : Region.ready md ops listed = [i]) (hi : ops[i]? = some o) (hw : Region.wanted o (yielded ops a.tmps) = true)
    (h : ∀ K : Act → World → Prop, Hid (∀ a' w', S (listed.setIfInBounds i true) w' → wpAnyL P md ops Q S fuel (listed.setIfInBounds i true) a' w' → K a' w') → o.wp P a w K Q) : wpAnyL P md ops Q S (fuel + 1) listed a w :=
  wpAnyL_one hr hi hw (h _ (fun _ _ h1 h2 => ⟨h1, h2⟩))
theorem wpAnyL_done {listed : Array Bool} {a : Act} {w : World} (hr : Region.ready md ops listed = []) (h : Q .normal a w) :
    ∀ fuel, wpAnyL P md ops Q S fuel listed a w
  | 0 => ⟨hr, h⟩
  | _ + 1 => ⟨fun _ => h, by rw [hr]; simp⟩
theorem wp_regionL {id : Nat} {a : Act} {w : World} (hm : P.follows .mixedOrders = true)
    (h : wpAnyL P .any ops Q S ops.size (Array.replicate ops.size false) a w.drew) : (Code.region id ops true).wp P Q a w :=
  wp_region_any hm (wpAny_of_L _ _ _ _ h)
end
end Go.Proofs.YtjfhhhabcbkahaaGreat

/-
  The law's short.
-/
namespace Go.Proofs.YtjfhhhabcbkahaaGreat
open Go.RowKit
set_option linter.unusedVariables false
set_option linter.unusedSimpArgs false

/-- What holds as long as a store has not come up. -/
def SL (s1 s2 s3 : Nat) (F1 F2 F3 : World → Prop) (L : Array Bool) (w : World) : Prop := (L.getD s1 true = false → F1 w) ∧ (L.getD s2 true = false → F2 w) ∧ (L.getD s3 true = false → F3 w)
theorem SL.ind {s1 s2 s3 i : Nat} {F1 F2 F3 : World → Prop} (h1 : i ≠ s1) (h2 : i ≠ s2) (h3 : i ≠ s3) : ∀ L w, SL s1 s2 s3 F1 F2 F3 (L.setIfInBounds i true) w → SL s1 s2 s3 F1 F2 F3 L w := fun L w h =>
  ⟨fun e => h.1 (by rw [getD_set_ne true h1]; exact e), fun e => h.2.1 (by rw [getD_set_ne true h2]; exact e), fun e => h.2.2 (by rw [getD_set_ne true h3]; exact e)⟩
theorem SL.all {s1 s2 s3 : Nat} {F1 F2 F3 : World → Prop} {L : Array Bool} {w : World} (h1 : F1 w) (h2 : F2 w) (h3 : F3 w) : SL s1 s2 s3 F1 F2 F3 L w := ⟨fun _ => h1, fun _ => h2, fun _ => h3⟩
theorem SL.get1 {s1 s2 s3 : Nat} {F1 F2 F3 : World → Prop} : ∀ L w, (∀ s ∈ [s1], L.getD s true = false) → SL s1 s2 s3 F1 F2 F3 L w → F1 w := fun L w h hS => hS.1 (h s1 (by simp))
theorem SL.get2 {s1 s2 s3 : Nat} {F1 F2 F3 : World → Prop} : ∀ L w, (∀ s ∈ [s2], L.getD s true = false) → SL s1 s2 s3 F1 F2 F3 L w → F2 w := fun L w h hS => hS.2.1 (h s2 (by simp))
theorem SL.get3 {s1 s2 s3 : Nat} {F1 F2 F3 : World → Prop} : ∀ L w, (∀ s ∈ [s3], L.getD s true = false) → SL s1 s2 s3 F1 F2 F3 L w → F3 w := fun L w h hS => hS.2.2 (h s3 (by simp))
theorem cell_ne (w : World) (g i j : Nat) (v : Value) (h : j ≠ i) : (w.setCell ⟨g, i, none⟩ v).cell? ⟨g, j, none⟩ = w.cell? ⟨g, j, none⟩ := by
  apply World.cell?_setCell_other
  intro e
  cases e
  exact h rfl
theorem froz_set (w : World) (p q : Addr) (v : Value) : (w.setCell p v).frozen? q = w.frozen? q := World.frozen?_setCell _ _ _ _
theorem getD_self (L : Array Bool) (i : Nat) : (L.setIfInBounds i true).getD i true = true := by
  rcases Nat.lt_or_ge i L.size with h | h
  · simp [h]
  · simp [Array.getElem?_eq_none (by simpa using h : (L.setIfInBounds i true).size ≤ i)]
theorem SL.mk1 {s1 s2 s3 : Nat} {F1 F2 F3 : World → Prop} {L : Array Bool} {w : World} (b1 : L.getD s1 true = true) (h2 : F2 w) (h3 : F3 w) : SL s1 s2 s3 F1 F2 F3 L w := ⟨fun e => (by rw [b1] at e; cases e), fun _ => h2, fun _ => h3⟩
theorem SL.mk2 {s1 s2 s3 : Nat} {F1 F2 F3 : World → Prop} {L : Array Bool} {w : World} (b1 : L.getD s1 true = true) (b2 : L.getD s2 true = true) (h3 : F3 w) : SL s1 s2 s3 F1 F2 F3 L w := ⟨fun e => (by rw [b1] at e; cases e), fun e => (by rw [b2] at e; cases e), fun _ => h3⟩
theorem SL.mk3 {s1 s2 s3 : Nat} {F1 F2 F3 : World → Prop} {L : Array Bool} {w : World} (b1 : L.getD s1 true = true) (b2 : L.getD s2 true = true) (b3 : L.getD s3 true = true) : SL s1 s2 s3 F1 F2 F3 L w := ⟨fun e => (by rw [b1] at e; cases e), fun e => (by rw [b2] at e; cases e), fun e => (by rw [b3] at e; cases e)⟩
theorem getD_late (L : Array Bool) (i j : Nat) : ((L.setIfInBounds i true).setIfInBounds j true).getD i true = true := by
  by_cases h : j = i
  · subst h; exact getD_self _ _
  · rw [getD_set_ne true h]; exact getD_self _ _
theorem NL.first {w : World} {ao : Option Addr} {n cap : Nat} {ns : List NtI} (h : NL w (.slice ao n cap) ns) (m : Nat) (hm : m ≤ ns.length) : NL w (.slice ao m cap) (ns.take m) := by
  have hl : (ns.take m).length = m := by rw [List.length_take]; omega
  obtain ⟨a1, c1, e, h1, h2, h3, h4⟩ := h
  cases e
  refine ⟨_, _, by rw [hl], h1, by omega, h3, fun i hi => ?_⟩
  obtain ⟨b, off, e2, c⟩ := h4 i (by omega)
  refine ⟨b, off, e2, ?_⟩
  rw [List.getElem_take]
  exact c

theorem cutS (s : Byts8) : ∃ (t : ByteArray) (m : Nat), (⟨s.toArray⟩ : ByteArray) = t ∧ min (t.size : Int) 40 = (m : Int) ∧ m ≤ t.size ∧ t.extract 0 m = ⟨(s.take 40).toArray⟩ := by
  have hz : (⟨s.toArray⟩ : ByteArray).size = s.length := rfl
  refine ⟨_, min s.length 40, rfl, by rw [hz]; omega, by rw [hz]; omega, ?_⟩
  apply ByteArray.ext
  apply Array.toList_inj.1
  rw [ext_list]
  simp [List.take_eq_take_iff]
  omega
set_option maxRecDepth 10000 in
set_option maxHeartbeats 2000000 in
theorem shortT_any (A : List NtI) (ao : Option Addr) (ca : Nat) (w : World) (hA : NL w (.slice ao A.length ca) A) (hk : ∀ p ∈ A, p.2.kids.length ≤ 17592186044416) :
    Calls Tryz.prog 5 #[.agg #[.slice ao A.length ca]] w fun e w' => ∃ lo lc A', e = .returned (.agg #[.slice lo A'.length lc]) ∧ NRI w' (w.heap.size + 4) (.slice lo A'.length lc) A' ∧ A'.map Prod.snd = (A.take 300).map (fun p => cutN p.2) ∧ Ext w w' := by
  have hcm : A.length ≤ ca ∧ ca ≤ 9223372036854775807 := by
    obtain ⟨_, _, e, _, h2, h3, _⟩ := hA
    cases e
    unfold maxLen at h3
    exact ⟨h2, by omega⟩
  obtain ⟨hc1, hc2⟩ := hcm
  have hmin : min (A.length : Int) 300 = ((min A.length 300 : Nat) : Int) := by omega
  have hm1 : min A.length 300 ≤ A.length := by omega
  have hm2 : min A.length 300 ≤ 300 := by omega
  have HA := hide (hA.first _ hm1)
  have HT : Hid (A.take (min A.length 300) = A.take 300) := hide (by rw [List.take_eq_take_iff]; omega)
  have HK := hide hk
  generalize min A.length 300 = m at hmin hm1 hm2 HA HT
  clear hA hk
  go_enter Tryz.func5, Tryz.ntmps5
  have hml : (A.take m).length = m := by rw [List.length_take]; omega
  have HC : Hid (Calls Tryz.prog 8 #[.agg #[.slice ao m ca]] ((w.alloc (.cells #[.slice ao m ca] 24)).alloc (.cells #[.slice none 0 0] 24)) fun e w' => ∃ lo lc C, e = .returned (.agg #[.slice lo C.length lc]) ∧ NRI w' (w.heap.size + 4) (.slice lo C.length lc) C ∧ C.map Prod.snd = (A.take m).map Prod.snd ∧ Ext w w' ∧ Blk w' w.heap.size #[.slice ao m ca] 24 ∧ Blk w' (w.heap.size + 1) #[.slice none 0 0] 24) := by
    have hx2 : Ext w ((w.alloc (.cells #[.slice ao m ca] 24)).alloc (.cells #[.slice none 0 0] 24)) := ((Ext.refl w).alloc _).alloc _
    have hs2 : ((w.alloc (.cells #[.slice ao m ca] 24)).alloc (.cells #[.slice none 0 0] 24)).heap.size = w.heap.size + 2 := by simp
    have hB1 : Blk ((w.alloc (.cells #[.slice ao m ca] 24)).alloc (.cells #[.slice none 0 0] 24)) (w.heap.size + 1) #[.slice none 0 0] 24 := by
      have h := Blk.new (w.alloc (.cells #[.slice ao m ca] 24)) #[.slice none 0 0] 24
      rw [show (w.alloc (.cells #[.slice ao m ca] 24)).heap.size = w.heap.size + 1 by simp] at h
      exact h
    have hB0 : Blk ((w.alloc (.cells #[.slice ao m ca] 24)).alloc (.cells #[.slice none 0 0] 24)) w.heap.size #[.slice ao m ca] 24 := (Blk.new w #[.slice ao m ca] 24).alloc _
    have h0 := copiedT_any (A.take m) ao ca _ (by rw [hml]; exact (unhide HA).ext hx2) (by omega) (fun p hp => unhide HK p (List.mem_of_mem_take hp))
    rw [hml] at h0
    refine h0.mono ?_
    rintro e w3 ⟨lo, lc, C, rfl, hN, hm, hx3⟩
    rw [hs2] at hN
    exact ⟨lo, lc, C, rfl, hN, hm, hx2.trans hx3, hB0.ext hx3, hB1.ext hx3⟩
  clear HA HK
  go_wp2_with fail
  refine (unhide HC).mono ?_
  rintro e w3 ⟨lo, lc, C, rfl, hN, hm, hx3, hB0, hB1⟩
  have hC3 : C.length ≤ 300 := by have h := congrArg List.length hm; rw [List.length_map, List.length_map, hml] at h; omega
  have q0 := hB0.cell (i := 0) (v := .slice ao m ca) rfl
  have f0 := hB0.free 0
  have hB4 := hB0.set 0 (.slice lo C.length lc)
  have hB5 := hB1.other (r := w.heap.size) 0 (.slice lo C.length lc) (by omega)
  have hN4 := hN.stored (b := w.heap.size) (by omega) 0 (.slice lo C.length lc)
  have hX4 : Ext w (w3.setCell ⟨w.heap.size, 0, none⟩ (.slice lo C.length lc)) := below_grown hx3 (grownBy_set _ _ _ _) hx3.size (Nat.le_refl _)
  have r0 := hB4.cell (i := 0) (v := .slice lo C.length lc) rfl
  have H4 := hide (And.intro hB4 (And.intro hB5 (And.intro hN4 hX4)))
  have HM := hide hm
  clear HC hml hN hm hx3 hB0 hB1 hB4 hB5 hN4 hX4
  go_wp2
  go_loopw [18] (fun iv wr => ∃ (k : Nat) (C' : List NtI), k ≤ C.length ∧ iv = .int .i64 (k : Int) ∧ C'.length = C.length ∧ C'.map Prod.snd = (C.take k).map (fun p => cutN p.2) ++ (C.drop k).map Prod.snd ∧ NRI wr (w.heap.size + 4) (.slice lo C.length lc) C' ∧ Blk wr w.heap.size #[.slice lo C.length lc] 24 ∧ Blk wr (w.heap.size + 1) #[.slice none 0 0] 24 ∧ Ext w wr) (fun iv _ => C.length - (intOf iv).toNat)
  case atStart => exact ⟨0, C, Nat.zero_le _, rfl, rfl, by simp, (unhide H4).2.2.1, (unhide H4).1, (unhide H4).2.1, (unhide H4).2.2.2⟩
  case round =>
    clear H4
    obtain ⟨k, C', hkl, rfl, hlC, hmp, hN, hB0, hB1, hX⟩ := hrel
    have t0 := hB0.cell (i := 0) (v := .slice lo C.length lc) rfl
    by_cases hlt : k < C.length
    · have hkn : (k : Int) < (C.length : Int) := by omega
      have hkC : k < C'.length := by omega
      obtain ⟨g, rfl⟩ : ∃ g, lo = some ⟨g, 0, none⟩ := by
        rcases hN.own.2 with ⟨e, h0⟩ | ⟨g, cap, cur, e, _⟩
        · omega
        · exact ⟨g, (Value.slice.inj e).1⟩
      obtain ⟨b, off, e1, hc⟩ := hN.nl.at k hkC
      cases e1
      rw [Nat.zero_add] at hc
      obtain ⟨c0, c1, c2, c3, c4, c5, hrow⟩ := hc
      have hsp : C' = C'.take k ++ C'[k] :: C'.drop (k + 1) := by rw [List.getElem_cons_drop, List.take_append_drop]
      have hPl : (C'.take k).length = k := by rw [List.length_take]; omega
      have hCl : C'.length = C.length := hlC
      have hfz : ∀ j, wr.frozen? ⟨g, j, none⟩ = false := fun j => World.ownsRow.frozenAt (hlC ▸ hN.own) j
      have hxk : C'[k].2 = C[k].2 := by
        have h1 : (C'.map Prod.snd)[k]? = some C'[k].2 := by rw [List.getElem?_map, List.getElem?_eq_getElem hkC]; rfl
        rw [hmp, List.getElem?_append_right (by simp; omega), List.length_map, List.length_take, Nat.min_eq_left (Nat.le_of_lt hlt), Nat.sub_self, List.getElem?_map, List.getElem?_drop] at h1
        simp [hlt] at h1
        exact h1.symm
      have hap := hN.apart C'[k] (List.getElem_mem hkC)
      have hN2 := hN
      rw [hsp] at hN2
      have HQ : Hid (∀ (P S : List NtI) (u : Value), P = C'.take k → S = C'.drop (k + 1) → (P ++ (u, cutN C'[k].2) :: S).length = C.length ∧ (P ++ (u, cutN C'[k].2) :: S).map Prod.snd = (C.take (k + 1)).map (fun p => cutN p.2) ++ (C.drop (k + 1)).map Prod.snd) := hide (fun P S u hP hS => by
        subst hP
        subst hS
        have hd : (C'.map Prod.snd).drop (k + 1) = (C.drop (k + 1)).map Prod.snd := by
          rw [hmp, List.drop_append, List.length_map, List.length_take, Nat.min_eq_left (Nat.le_of_lt hlt), List.drop_eq_nil_of_le (by simp; omega), List.nil_append, show k + 1 - k = 1 by omega, ← List.map_drop, List.drop_drop]
        have ht : (C'.map Prod.snd).take k = (C.take k).map (fun p => cutN p.2) := by
          rw [hmp, List.take_append, List.length_map, List.length_take, Nat.min_eq_left (Nat.le_of_lt hlt), Nat.sub_self, List.take_zero, List.append_nil, List.take_of_length_le (by simp; omega)]
        refine ⟨by simp; omega, ?_⟩
        rw [List.map_append, List.map_cons, List.map_take, List.map_drop, ht, hd, List.take_succ_eq_append_getElem hlt, List.map_append, hxk]
        simp)
      generalize C'.take k = P at hPl hN2 HQ
      generalize C'.drop (k + 1) = S at hN2 HQ
      generalize C'[k] = x at c0 c1 c2 c3 c4 c5 hrow hap hN2 HQ
      clear hsp hxk
      obtain ⟨kv, kind, ty, text, num, kids, place⟩ := x
      dsimp only at c0 c1 c2 c3 c4 c5 hrow hap hN2 HQ
      obtain ⟨ko, kc, rfl, _, hkc1, hkc2⟩ := hrow.shape
      obtain ⟨km, ekm, hkm1, hkm2⟩ : ∃ km : Nat, min (kids.length : Int) 60 = (km : Int) ∧ km ≤ kids.length ∧ kids.take km = kids.take 60 := ⟨min kids.length 60, by omega, by omega, by rw [List.take_eq_take_iff]; omega⟩
      obtain ⟨s1, m1, es1, em1, hm11, hx1⟩ := cutS ty
      obtain ⟨s2, m2, es2, em2, hm21, hx2⟩ := cutS text
      rw [es1] at c1
      rw [es2] at c2
      have hkc3 : kc ≤ 9223372036854775807 := by unfold maxLen at hkc2; omega
      have hkmc : km ≤ kc := by omega
      have fz1 := hfz (k * 6 + 1)
      have fz2 := hfz (k * 6 + 2)
      have fz4 := hfz (k * 6 + 4)
      have HF := hide (And.intro hrow (And.intro hap (And.intro hN2 (And.intro hB0 (And.intro hB1 hX)))))
      have HE := hide (And.intro hkm2 (And.intro hx1 hx2))
      clear hrow hap hN2 hN hB0 hB1 hX hfz hmp es1 es2 hkm2 hx1 hx2 hkc2 hCl
      go_wp2_with fail
      refine wp_region_noPanic ?_
      refine wp_regionL (S := SL 38 41 44 (fun wx => wx.cell? ⟨g, k * 6 + 4, none⟩ = some (.slice ko kids.length kc)) (fun wx => wx.cell? ⟨g, k * 6 + 2, none⟩ = some (.string s2)) (fun wx => wx.cell? ⟨g, k * 6 + 1, none⟩ = some (.string s1))) (by kernel_rfl) ?_
      have hxd := (Ext.refl wr).drew
      have F1 : wr.drew.cell? ⟨g, k * 6 + 4, none⟩ = some (.slice ko kids.length kc) := c4
      have F2 : wr.drew.cell? ⟨g, k * 6 + 2, none⟩ = some (.string s2) := c2
      have F3 : wr.drew.cell? ⟨g, k * 6 + 1, none⟩ = some (.string s1) := c1
      have z1 : wr.drew.frozen? ⟨g, k * 6 + 1, none⟩ = false := fz1
      have z2 : wr.drew.frozen? ⟨g, k * 6 + 2, none⟩ = false := fz2
      have z4 : wr.drew.frozen? ⟨g, k * 6 + 4, none⟩ = false := fz4
      have HG := hide (show Row .i64 wr.drew (.slice ko kids.length kc) kids ∧ (∀ g2, (Value.slice ko kids.length kc).ownBlock = some g2 → w.heap.size + 4 ≤ g2 ∧ g2 < wr.drew.heap.size ∧ g2 ≠ g) ∧ NRI wr.drew (w.heap.size + 4) (.slice (some ⟨g, 0, none⟩) C.length lc) (P ++ (.slice ko kids.length kc, (⟨kind, ty, text, num, kids, place⟩ : Ndi)) :: S) ∧ Blk wr.drew w.heap.size #[.slice (some ⟨g, 0, none⟩) C.length lc] 24 ∧ Blk wr.drew (w.heap.size + 1) #[.slice none 0 0] 24 ∧ Ext w wr.drew from ⟨(unhide HF).1.below hxd, fun g2 e2 => by have h9 := (unhide HF).2.1 g2 e2; exact ⟨h9.1, h9.2.1, fun e => h9.2.2 (by rw [e]; rfl)⟩, (unhide HF).2.2.1.ext hxd, (unhide HF).2.2.2.1.ext hxd, (unhide HF).2.2.2.2.1.ext hxd, (unhide HF).2.2.2.2.2.drew⟩)
      clear HF c1 c2 c4 fz1 fz2 fz4 hxd
      generalize wr.drew = wd at F1 F2 F3 z1 z2 z4 HG ⊢
      have HS0 : ∀ Lx, SL 38 41 44 (fun wx => wx.cell? ⟨g, k * 6 + 4, none⟩ = some (.slice ko kids.length kc)) (fun wx => wx.cell? ⟨g, k * 6 + 2, none⟩ = some (.string s2)) (fun wx => wx.cell? ⟨g, k * 6 + 1, none⟩ = some (.string s1)) Lx wd := fun Lx => SL.all F1 F2 F3
      refine wpAnyL_take (fun _ => True) [] (i := 0) (oi := { dst := some 25, op := Op.move (Operand.tmp 4), type := _, pos := _, after := _, guard := none }) (v := .pointer (some ⟨g, k * 6, none⟩)) rfl (by kernel_rfl) (by kernel_rfl) (by kernel_rfl) (by kernel_rfl) (by kernel_rfl) (fun _ _ _ h => h) (SL.ind (by decide) (by decide) (by decide)) (fun _ _ _ _ => trivial) (Or.inl ⟨by rfl, fun _ _ => rfl⟩) (HS0 _) (HS0 _) ?_
      simp only [Act.put, List.setIfInBounds_toArray, List.set_cons_zero, List.set_cons_succ]
      refine wpAnyL_take (fun _ => True) [] (i := 1) (oi := { dst := some 26, op := Op.move (Operand.tmp 4), type := _, pos := _, after := _, guard := none }) (v := .pointer (some ⟨g, k * 6, none⟩)) rfl (by kernel_rfl) (by kernel_rfl) (by kernel_rfl) (by kernel_rfl) (by kernel_rfl) (fun _ _ _ h => h) (SL.ind (by decide) (by decide) (by decide)) (fun _ _ _ _ => trivial) (Or.inl ⟨by rfl, fun _ _ => rfl⟩) (HS0 _) (HS0 _) ?_
      simp only [Act.put, List.setIfInBounds_toArray, List.set_cons_zero, List.set_cons_succ]
      refine wpAnyL_take (fun _ => True) [] (i := 2) (oi := { dst := some 27, op := Op.move (Operand.tmp 4), type := _, pos := _, after := _, guard := none }) (v := .pointer (some ⟨g, k * 6, none⟩)) rfl (by kernel_rfl) (by kernel_rfl) (by kernel_rfl) (by kernel_rfl) (by kernel_rfl) (fun _ _ _ h => h) (SL.ind (by decide) (by decide) (by decide)) (fun _ _ _ _ => trivial) (Or.inl ⟨by rfl, fun _ _ => rfl⟩) (HS0 _) (HS0 _) ?_
      simp only [Act.put, List.setIfInBounds_toArray, List.set_cons_zero, List.set_cons_succ]
      refine wpAnyL_take (fun _ => True) [] (i := 3) (oi := { dst := some 28, op := Op.move (Operand.tmp 4), type := _, pos := _, after := _, guard := none }) (v := .pointer (some ⟨g, k * 6, none⟩)) rfl (by kernel_rfl) (by kernel_rfl) (by kernel_rfl) (by kernel_rfl) (by kernel_rfl) (fun _ _ _ h => h) (SL.ind (by decide) (by decide) (by decide)) (fun _ _ _ _ => trivial) (Or.inl ⟨by rfl, fun _ _ => rfl⟩) (HS0 _) (HS0 _) ?_
      simp only [Act.put, List.setIfInBounds_toArray, List.set_cons_zero, List.set_cons_succ]
      refine wpAnyL_take (fun _ => True) [] (i := 4) (oi := { dst := some 29, op := Op.nilCheck (Operand.tmp 28), type := _, pos := _, after := _, guard := none }) (v := .pointer (some ⟨g, k * 6, none⟩)) rfl (by kernel_rfl) (by kernel_rfl) (by kernel_rfl) (by kernel_rfl) (by kernel_rfl) (fun _ _ _ h => h) (SL.ind (by decide) (by decide) (by decide)) (fun _ _ _ _ => trivial) (Or.inl ⟨by rfl, fun wx hx => by go_simp⟩) (HS0 _) (HS0 _) ?_
      simp only [Act.put, List.setIfInBounds_toArray, List.set_cons_zero, List.set_cons_succ]
      refine wpAnyL_take (fun _ => True) [] (i := 5) (oi := { dst := some 30, op := Op.fieldAddr _ (Operand.tmp 29) 4, type := _, pos := _, after := _, guard := none }) (v := .pointer (some ⟨g, k * 6 + 4, none⟩)) rfl (by kernel_rfl) (by kernel_rfl) (by kernel_rfl) (by kernel_rfl) (by kernel_rfl) (fun _ _ _ h => h) (SL.ind (by decide) (by decide) (by decide)) (fun _ _ _ _ => trivial) (Or.inl ⟨by rfl, fun _ _ => rfl⟩) (HS0 _) (HS0 _) ?_
      simp only [Act.put, List.setIfInBounds_toArray, List.set_cons_zero, List.set_cons_succ]
      refine wpAnyL_take (fun wx => wx.cell? ⟨g, k * 6 + 4, none⟩ = some (.slice ko kids.length kc)) [38] (i := 6) (oi := { dst := some 31, op := Op.load _ (Operand.tmp 30), type := _, pos := _, after := _, guard := none }) (v := .slice ko kids.length kc) rfl (by kernel_rfl) (by kernel_rfl) (by kernel_rfl) (by kernel_rfl) (by kernel_rfl) (fun _ _ _ h => h) (SL.ind (by decide) (by decide) (by decide)) (SL.get1) (Or.inl ⟨by rfl, fun wx hx => by go_simp⟩) (HS0 _) (HS0 _) ?_
      simp only [Act.put, List.setIfInBounds_toArray, List.set_cons_zero, List.set_cons_succ]
      refine wpAnyL_take (fun _ => True) [] (i := 7) (oi := { dst := some 32, op := Op.move (Operand.tmp 4), type := _, pos := _, after := _, guard := none }) (v := .pointer (some ⟨g, k * 6, none⟩)) rfl (by kernel_rfl) (by kernel_rfl) (by kernel_rfl) (by kernel_rfl) (by kernel_rfl) (fun _ _ _ h => h) (SL.ind (by decide) (by decide) (by decide)) (fun _ _ _ _ => trivial) (Or.inl ⟨by rfl, fun _ _ => rfl⟩) (HS0 _) (HS0 _) ?_
      simp only [Act.put, List.setIfInBounds_toArray, List.set_cons_zero, List.set_cons_succ]
      refine wpAnyL_take (fun _ => True) [] (i := 8) (oi := { dst := some 33, op := Op.nilCheck (Operand.tmp 32), type := _, pos := _, after := _, guard := none }) (v := .pointer (some ⟨g, k * 6, none⟩)) rfl (by kernel_rfl) (by kernel_rfl) (by kernel_rfl) (by kernel_rfl) (by kernel_rfl) (fun _ _ _ h => h) (SL.ind (by decide) (by decide) (by decide)) (fun _ _ _ _ => trivial) (Or.inl ⟨by rfl, fun wx hx => by go_simp⟩) (HS0 _) (HS0 _) ?_
      simp only [Act.put, List.setIfInBounds_toArray, List.set_cons_zero, List.set_cons_succ]
      refine wpAnyL_take (fun _ => True) [] (i := 9) (oi := { dst := some 34, op := Op.fieldAddr _ (Operand.tmp 33) 4, type := _, pos := _, after := _, guard := none }) (v := .pointer (some ⟨g, k * 6 + 4, none⟩)) rfl (by kernel_rfl) (by kernel_rfl) (by kernel_rfl) (by kernel_rfl) (by kernel_rfl) (fun _ _ _ h => h) (SL.ind (by decide) (by decide) (by decide)) (fun _ _ _ _ => trivial) (Or.inl ⟨by rfl, fun _ _ => rfl⟩) (HS0 _) (HS0 _) ?_
      simp only [Act.put, List.setIfInBounds_toArray, List.set_cons_zero, List.set_cons_succ]
      refine wpAnyL_take (fun wx => wx.cell? ⟨g, k * 6 + 4, none⟩ = some (.slice ko kids.length kc)) [38] (i := 10) (oi := { dst := some 35, op := Op.load _ (Operand.tmp 34), type := _, pos := _, after := _, guard := none }) (v := .slice ko kids.length kc) rfl (by kernel_rfl) (by kernel_rfl) (by kernel_rfl) (by kernel_rfl) (by kernel_rfl) (fun _ _ _ h => h) (SL.ind (by decide) (by decide) (by decide)) (SL.get1) (Or.inl ⟨by rfl, fun wx hx => by go_simp⟩) (HS0 _) (HS0 _) ?_
      simp only [Act.put, List.setIfInBounds_toArray, List.set_cons_zero, List.set_cons_succ]
      refine wpAnyL_take (fun _ => True) [] (i := 11) (oi := { dst := some 36, op := Op.call { callee := Callee.builtin Builtin.len, args := #[Operand.tmp 35], argTypes := _ }, type := _, pos := _, after := _, guard := none }) (v := .int .i64 (kids.length : Int)) rfl (by kernel_rfl) (by kernel_rfl) (by kernel_rfl) (by kernel_rfl) (by kernel_rfl) (fun _ _ _ h => h) (SL.ind (by decide) (by decide) (by decide)) (fun _ _ _ _ => trivial) (Or.inl ⟨by rfl, fun wx hx => by go_simp⟩) (HS0 _) (HS0 _) ?_
      simp only [Act.put, List.setIfInBounds_toArray, List.set_cons_zero, List.set_cons_succ]
      refine wpAnyL_take (fun _ => True) [] (i := 12) (oi := { dst := some 37, op := Op.call { callee := Callee.builtin Builtin.min, args := #[Operand.tmp 36, Operand.const (Value.int IntKind.i64 60)], argTypes := _ }, type := _, pos := _, after := _, guard := none }) (v := .int .i64 (km : Int)) rfl (by kernel_rfl) (by kernel_rfl) (by kernel_rfl) (by kernel_rfl) (by kernel_rfl) (fun _ _ _ h => h) (SL.ind (by decide) (by decide) (by decide)) (fun _ _ _ _ => trivial) (Or.inl ⟨by rfl, fun wx hx => by go_simp⟩) (HS0 _) (HS0 _) ?_
      simp only [Act.put, List.setIfInBounds_toArray, List.set_cons_zero, List.set_cons_succ]
      refine wpAnyL_take (fun _ => True) [] (i := 13) (oi := { dst := some 38, op := Op.slice _ (Operand.tmp 31) none (some (Operand.tmp 37)) none, type := _, pos := _, after := _, guard := none }) (v := .slice ko km kc) rfl (by kernel_rfl) (by kernel_rfl) (by kernel_rfl) (by kernel_rfl) (by kernel_rfl) (fun _ _ _ h => h) (SL.ind (by decide) (by decide) (by decide)) (fun _ _ _ _ => trivial) (Or.inl ⟨by rfl, fun wx hx => by go_simp <;> omega⟩) (HS0 _) (HS0 _) ?_
      simp only [Act.put, List.setIfInBounds_toArray, List.set_cons_zero, List.set_cons_succ]
      refine wpAnyL_take (fun _ => True) [] (i := 14) (oi := { dst := some 39, op := Op.move (Operand.tmp 4), type := _, pos := _, after := _, guard := none }) (v := .pointer (some ⟨g, k * 6, none⟩)) rfl (by kernel_rfl) (by kernel_rfl) (by kernel_rfl) (by kernel_rfl) (by kernel_rfl) (fun _ _ _ h => h) (SL.ind (by decide) (by decide) (by decide)) (fun _ _ _ _ => trivial) (Or.inl ⟨by rfl, fun _ _ => rfl⟩) (HS0 _) (HS0 _) ?_
      simp only [Act.put, List.setIfInBounds_toArray, List.set_cons_zero, List.set_cons_succ]
      refine wpAnyL_take (fun _ => True) [] (i := 15) (oi := { dst := some 40, op := Op.nilCheck (Operand.tmp 39), type := _, pos := _, after := _, guard := none }) (v := .pointer (some ⟨g, k * 6, none⟩)) rfl (by kernel_rfl) (by kernel_rfl) (by kernel_rfl) (by kernel_rfl) (by kernel_rfl) (fun _ _ _ h => h) (SL.ind (by decide) (by decide) (by decide)) (fun _ _ _ _ => trivial) (Or.inl ⟨by rfl, fun wx hx => by go_simp⟩) (HS0 _) (HS0 _) ?_
      simp only [Act.put, List.setIfInBounds_toArray, List.set_cons_zero, List.set_cons_succ]
      refine wpAnyL_take (fun _ => True) [] (i := 16) (oi := { dst := some 41, op := Op.fieldAddr _ (Operand.tmp 40) 2, type := _, pos := _, after := _, guard := none }) (v := .pointer (some ⟨g, k * 6 + 2, none⟩)) rfl (by kernel_rfl) (by kernel_rfl) (by kernel_rfl) (by kernel_rfl) (by kernel_rfl) (fun _ _ _ h => h) (SL.ind (by decide) (by decide) (by decide)) (fun _ _ _ _ => trivial) (Or.inl ⟨by rfl, fun _ _ => rfl⟩) (HS0 _) (HS0 _) ?_
      simp only [Act.put, List.setIfInBounds_toArray, List.set_cons_zero, List.set_cons_succ]
      refine wpAnyL_take (fun wx => wx.cell? ⟨g, k * 6 + 2, none⟩ = some (.string s2)) [41] (i := 17) (oi := { dst := some 42, op := Op.load _ (Operand.tmp 41), type := _, pos := _, after := _, guard := none }) (v := .string s2) rfl (by kernel_rfl) (by kernel_rfl) (by kernel_rfl) (by kernel_rfl) (by kernel_rfl) (fun _ _ _ h => h) (SL.ind (by decide) (by decide) (by decide)) (SL.get2) (Or.inl ⟨by rfl, fun wx hx => by go_simp⟩) (HS0 _) (HS0 _) ?_
      simp only [Act.put, List.setIfInBounds_toArray, List.set_cons_zero, List.set_cons_succ]
      refine wpAnyL_take (fun _ => True) [] (i := 18) (oi := { dst := some 43, op := Op.move (Operand.tmp 4), type := _, pos := _, after := _, guard := none }) (v := .pointer (some ⟨g, k * 6, none⟩)) rfl (by kernel_rfl) (by kernel_rfl) (by kernel_rfl) (by kernel_rfl) (by kernel_rfl) (fun _ _ _ h => h) (SL.ind (by decide) (by decide) (by decide)) (fun _ _ _ _ => trivial) (Or.inl ⟨by rfl, fun _ _ => rfl⟩) (HS0 _) (HS0 _) ?_
      simp only [Act.put, List.setIfInBounds_toArray, List.set_cons_zero, List.set_cons_succ]
      refine wpAnyL_take (fun _ => True) [] (i := 19) (oi := { dst := some 44, op := Op.nilCheck (Operand.tmp 43), type := _, pos := _, after := _, guard := none }) (v := .pointer (some ⟨g, k * 6, none⟩)) rfl (by kernel_rfl) (by kernel_rfl) (by kernel_rfl) (by kernel_rfl) (by kernel_rfl) (fun _ _ _ h => h) (SL.ind (by decide) (by decide) (by decide)) (fun _ _ _ _ => trivial) (Or.inl ⟨by rfl, fun wx hx => by go_simp⟩) (HS0 _) (HS0 _) ?_
      simp only [Act.put, List.setIfInBounds_toArray, List.set_cons_zero, List.set_cons_succ]
      refine wpAnyL_take (fun _ => True) [] (i := 20) (oi := { dst := some 45, op := Op.fieldAddr _ (Operand.tmp 44) 2, type := _, pos := _, after := _, guard := none }) (v := .pointer (some ⟨g, k * 6 + 2, none⟩)) rfl (by kernel_rfl) (by kernel_rfl) (by kernel_rfl) (by kernel_rfl) (by kernel_rfl) (fun _ _ _ h => h) (SL.ind (by decide) (by decide) (by decide)) (fun _ _ _ _ => trivial) (Or.inl ⟨by rfl, fun _ _ => rfl⟩) (HS0 _) (HS0 _) ?_
      simp only [Act.put, List.setIfInBounds_toArray, List.set_cons_zero, List.set_cons_succ]
      refine wpAnyL_take (fun wx => wx.cell? ⟨g, k * 6 + 2, none⟩ = some (.string s2)) [41] (i := 21) (oi := { dst := some 46, op := Op.load _ (Operand.tmp 45), type := _, pos := _, after := _, guard := none }) (v := .string s2) rfl (by kernel_rfl) (by kernel_rfl) (by kernel_rfl) (by kernel_rfl) (by kernel_rfl) (fun _ _ _ h => h) (SL.ind (by decide) (by decide) (by decide)) (SL.get2) (Or.inl ⟨by rfl, fun wx hx => by go_simp⟩) (HS0 _) (HS0 _) ?_
      simp only [Act.put, List.setIfInBounds_toArray, List.set_cons_zero, List.set_cons_succ]
      refine wpAnyL_take (fun _ => True) [] (i := 22) (oi := { dst := some 47, op := Op.call { callee := Callee.builtin Builtin.len, args := #[Operand.tmp 46], argTypes := _ }, type := _, pos := _, after := _, guard := none }) (v := .int .i64 (s2.size : Int)) rfl (by kernel_rfl) (by kernel_rfl) (by kernel_rfl) (by kernel_rfl) (by kernel_rfl) (fun _ _ _ h => h) (SL.ind (by decide) (by decide) (by decide)) (fun _ _ _ _ => trivial) (Or.inl ⟨by rfl, fun wx hx => by go_simp⟩) (HS0 _) (HS0 _) ?_
      simp only [Act.put, List.setIfInBounds_toArray, List.set_cons_zero, List.set_cons_succ]
      refine wpAnyL_take (fun _ => True) [] (i := 23) (oi := { dst := some 48, op := Op.call { callee := Callee.builtin Builtin.min, args := #[Operand.tmp 47, Operand.const (Value.int IntKind.i64 40)], argTypes := _ }, type := _, pos := _, after := _, guard := none }) (v := .int .i64 (m2 : Int)) rfl (by kernel_rfl) (by kernel_rfl) (by kernel_rfl) (by kernel_rfl) (by kernel_rfl) (fun _ _ _ h => h) (SL.ind (by decide) (by decide) (by decide)) (fun _ _ _ _ => trivial) (Or.inl ⟨by rfl, fun wx hx => by go_simp⟩) (HS0 _) (HS0 _) ?_
      simp only [Act.put, List.setIfInBounds_toArray, List.set_cons_zero, List.set_cons_succ]
      refine wpAnyL_take (fun _ => True) [] (i := 24) (oi := { dst := some 49, op := Op.slice _ (Operand.tmp 42) none (some (Operand.tmp 48)) none, type := _, pos := _, after := _, guard := none }) (v := .string (s2.extract 0 m2)) rfl (by kernel_rfl) (by kernel_rfl) (by kernel_rfl) (by kernel_rfl) (by kernel_rfl) (fun _ _ _ h => h) (SL.ind (by decide) (by decide) (by decide)) (fun _ _ _ _ => trivial) (Or.inl ⟨by rfl, fun wx hx => by go_simp <;> omega⟩) (HS0 _) (HS0 _) ?_
      simp only [Act.put, List.setIfInBounds_toArray, List.set_cons_zero, List.set_cons_succ]
      refine wpAnyL_take (fun _ => True) [] (i := 25) (oi := { dst := some 50, op := Op.move (Operand.tmp 4), type := _, pos := _, after := _, guard := none }) (v := .pointer (some ⟨g, k * 6, none⟩)) rfl (by kernel_rfl) (by kernel_rfl) (by kernel_rfl) (by kernel_rfl) (by kernel_rfl) (fun _ _ _ h => h) (SL.ind (by decide) (by decide) (by decide)) (fun _ _ _ _ => trivial) (Or.inl ⟨by rfl, fun _ _ => rfl⟩) (HS0 _) (HS0 _) ?_
      simp only [Act.put, List.setIfInBounds_toArray, List.set_cons_zero, List.set_cons_succ]
      refine wpAnyL_take (fun _ => True) [] (i := 26) (oi := { dst := some 51, op := Op.nilCheck (Operand.tmp 50), type := _, pos := _, after := _, guard := none }) (v := .pointer (some ⟨g, k * 6, none⟩)) rfl (by kernel_rfl) (by kernel_rfl) (by kernel_rfl) (by kernel_rfl) (by kernel_rfl) (fun _ _ _ h => h) (SL.ind (by decide) (by decide) (by decide)) (fun _ _ _ _ => trivial) (Or.inl ⟨by rfl, fun wx hx => by go_simp⟩) (HS0 _) (HS0 _) ?_
      simp only [Act.put, List.setIfInBounds_toArray, List.set_cons_zero, List.set_cons_succ]
      refine wpAnyL_take (fun _ => True) [] (i := 27) (oi := { dst := some 52, op := Op.fieldAddr _ (Operand.tmp 51) 1, type := _, pos := _, after := _, guard := none }) (v := .pointer (some ⟨g, k * 6 + 1, none⟩)) rfl (by kernel_rfl) (by kernel_rfl) (by kernel_rfl) (by kernel_rfl) (by kernel_rfl) (fun _ _ _ h => h) (SL.ind (by decide) (by decide) (by decide)) (fun _ _ _ _ => trivial) (Or.inl ⟨by rfl, fun _ _ => rfl⟩) (HS0 _) (HS0 _) ?_
      simp only [Act.put, List.setIfInBounds_toArray, List.set_cons_zero, List.set_cons_succ]
      refine wpAnyL_take (fun wx => wx.cell? ⟨g, k * 6 + 1, none⟩ = some (.string s1)) [44] (i := 28) (oi := { dst := some 53, op := Op.load _ (Operand.tmp 52), type := _, pos := _, after := _, guard := none }) (v := .string s1) rfl (by kernel_rfl) (by kernel_rfl) (by kernel_rfl) (by kernel_rfl) (by kernel_rfl) (fun _ _ _ h => h) (SL.ind (by decide) (by decide) (by decide)) (SL.get3) (Or.inl ⟨by rfl, fun wx hx => by go_simp⟩) (HS0 _) (HS0 _) ?_
      simp only [Act.put, List.setIfInBounds_toArray, List.set_cons_zero, List.set_cons_succ]
      refine wpAnyL_take (fun _ => True) [] (i := 29) (oi := { dst := some 54, op := Op.move (Operand.tmp 4), type := _, pos := _, after := _, guard := none }) (v := .pointer (some ⟨g, k * 6, none⟩)) rfl (by kernel_rfl) (by kernel_rfl) (by kernel_rfl) (by kernel_rfl) (by kernel_rfl) (fun _ _ _ h => h) (SL.ind (by decide) (by decide) (by decide)) (fun _ _ _ _ => trivial) (Or.inl ⟨by rfl, fun _ _ => rfl⟩) (HS0 _) (HS0 _) ?_
      simp only [Act.put, List.setIfInBounds_toArray, List.set_cons_zero, List.set_cons_succ]
      refine wpAnyL_take (fun _ => True) [] (i := 30) (oi := { dst := some 55, op := Op.nilCheck (Operand.tmp 54), type := _, pos := _, after := _, guard := none }) (v := .pointer (some ⟨g, k * 6, none⟩)) rfl (by kernel_rfl) (by kernel_rfl) (by kernel_rfl) (by kernel_rfl) (by kernel_rfl) (fun _ _ _ h => h) (SL.ind (by decide) (by decide) (by decide)) (fun _ _ _ _ => trivial) (Or.inl ⟨by rfl, fun wx hx => by go_simp⟩) (HS0 _) (HS0 _) ?_
      simp only [Act.put, List.setIfInBounds_toArray, List.set_cons_zero, List.set_cons_succ]
      refine wpAnyL_take (fun _ => True) [] (i := 31) (oi := { dst := some 56, op := Op.fieldAddr _ (Operand.tmp 55) 1, type := _, pos := _, after := _, guard := none }) (v := .pointer (some ⟨g, k * 6 + 1, none⟩)) rfl (by kernel_rfl) (by kernel_rfl) (by kernel_rfl) (by kernel_rfl) (by kernel_rfl) (fun _ _ _ h => h) (SL.ind (by decide) (by decide) (by decide)) (fun _ _ _ _ => trivial) (Or.inl ⟨by rfl, fun _ _ => rfl⟩) (HS0 _) (HS0 _) ?_
      simp only [Act.put, List.setIfInBounds_toArray, List.set_cons_zero, List.set_cons_succ]
      refine wpAnyL_take (fun wx => wx.cell? ⟨g, k * 6 + 1, none⟩ = some (.string s1)) [44] (i := 32) (oi := { dst := some 57, op := Op.load _ (Operand.tmp 56), type := _, pos := _, after := _, guard := none }) (v := .string s1) rfl (by kernel_rfl) (by kernel_rfl) (by kernel_rfl) (by kernel_rfl) (by kernel_rfl) (fun _ _ _ h => h) (SL.ind (by decide) (by decide) (by decide)) (SL.get3) (Or.inl ⟨by rfl, fun wx hx => by go_simp⟩) (HS0 _) (HS0 _) ?_
      simp only [Act.put, List.setIfInBounds_toArray, List.set_cons_zero, List.set_cons_succ]
      refine wpAnyL_take (fun _ => True) [] (i := 33) (oi := { dst := some 58, op := Op.call { callee := Callee.builtin Builtin.len, args := #[Operand.tmp 57], argTypes := _ }, type := _, pos := _, after := _, guard := none }) (v := .int .i64 (s1.size : Int)) rfl (by kernel_rfl) (by kernel_rfl) (by kernel_rfl) (by kernel_rfl) (by kernel_rfl) (fun _ _ _ h => h) (SL.ind (by decide) (by decide) (by decide)) (fun _ _ _ _ => trivial) (Or.inl ⟨by rfl, fun wx hx => by go_simp⟩) (HS0 _) (HS0 _) ?_
      simp only [Act.put, List.setIfInBounds_toArray, List.set_cons_zero, List.set_cons_succ]
      refine wpAnyL_take (fun _ => True) [] (i := 34) (oi := { dst := some 59, op := Op.call { callee := Callee.builtin Builtin.min, args := #[Operand.tmp 58, Operand.const (Value.int IntKind.i64 40)], argTypes := _ }, type := _, pos := _, after := _, guard := none }) (v := .int .i64 (m1 : Int)) rfl (by kernel_rfl) (by kernel_rfl) (by kernel_rfl) (by kernel_rfl) (by kernel_rfl) (fun _ _ _ h => h) (SL.ind (by decide) (by decide) (by decide)) (fun _ _ _ _ => trivial) (Or.inl ⟨by rfl, fun wx hx => by go_simp⟩) (HS0 _) (HS0 _) ?_
      simp only [Act.put, List.setIfInBounds_toArray, List.set_cons_zero, List.set_cons_succ]
      refine wpAnyL_take (fun _ => True) [] (i := 35) (oi := { dst := some 60, op := Op.slice _ (Operand.tmp 53) none (some (Operand.tmp 59)) none, type := _, pos := _, after := _, guard := none }) (v := .string (s1.extract 0 m1)) rfl (by kernel_rfl) (by kernel_rfl) (by kernel_rfl) (by kernel_rfl) (by kernel_rfl) (fun _ _ _ h => h) (SL.ind (by decide) (by decide) (by decide)) (fun _ _ _ _ => trivial) (Or.inl ⟨by rfl, fun wx hx => by go_simp <;> omega⟩) (HS0 _) (HS0 _) ?_
      simp only [Act.put, List.setIfInBounds_toArray, List.set_cons_zero, List.set_cons_succ]
      refine wpAnyL_take (fun _ => True) [] (i := 36) (oi := { dst := some 61, op := Op.nilCheck (Operand.tmp 25), type := _, pos := _, after := _, guard := none }) (v := .pointer (some ⟨g, k * 6, none⟩)) rfl (by kernel_rfl) (by kernel_rfl) (by kernel_rfl) (by kernel_rfl) (by kernel_rfl) (fun _ _ _ h => h) (SL.ind (by decide) (by decide) (by decide)) (fun _ _ _ _ => trivial) (Or.inl ⟨by rfl, fun wx hx => by go_simp⟩) (HS0 _) (HS0 _) ?_
      simp only [Act.put, List.setIfInBounds_toArray, List.set_cons_zero, List.set_cons_succ]
      refine wpAnyL_take (fun _ => True) [] (i := 37) (oi := { dst := some 62, op := Op.fieldAddr _ (Operand.tmp 61) 4, type := _, pos := _, after := _, guard := none }) (v := .pointer (some ⟨g, k * 6 + 4, none⟩)) rfl (by kernel_rfl) (by kernel_rfl) (by kernel_rfl) (by kernel_rfl) (by kernel_rfl) (fun _ _ _ h => h) (SL.ind (by decide) (by decide) (by decide)) (fun _ _ _ _ => trivial) (Or.inl ⟨by rfl, fun _ _ => rfl⟩) (HS0 _) (HS0 _) ?_
      simp only [Act.put, List.setIfInBounds_toArray, List.set_cons_zero, List.set_cons_succ]
      refine wpAnyL_next (i := 38) (o := { dst := none, op := Op.store _ (Operand.tmp 62) (Operand.tmp 38), type := _, pos := _, after := _, guard := none }) (by kernel_rfl) rfl (by rfl) (fun KK hK => ?_)
      go_simp
      have G2 : (wd.setCell ⟨g, k * 6 + 4, none⟩ (.slice ko km kc)).cell? ⟨g, k * 6 + 2, none⟩ = some (.string s2) := by rw [cell_ne _ _ _ _ _ (by omega)]; exact F2
      have G3 : (wd.setCell ⟨g, k * 6 + 4, none⟩ (.slice ko km kc)).cell? ⟨g, k * 6 + 1, none⟩ = some (.string s1) := by rw [cell_ne _ _ _ _ _ (by omega)]; exact F3
      have y2 : (wd.setCell ⟨g, k * 6 + 4, none⟩ (.slice ko km kc)).frozen? ⟨g, k * 6 + 2, none⟩ = false := by rw [froz_set]; exact z2
      have y1 : (wd.setCell ⟨g, k * 6 + 4, none⟩ (.slice ko km kc)).frozen? ⟨g, k * 6 + 1, none⟩ = false := by rw [froz_set]; exact z1
      obtain ⟨w5, hw5⟩ : ∃ w5, w5 = wd.setCell ⟨g, k * 6 + 4, none⟩ (.slice ko km kc) := ⟨_, rfl⟩
      rw [← hw5] at G2 G3 y1 y2 ⊢
      have HW5 := hide hw5
      clear hw5 F1 F2 F3 z1 z2 z4 HS0
      refine unhide hK _ _ (SL.mk1 (getD_self _ _) G2 G3) ?_
      clear hK KK
      try simp only [Act.put, List.setIfInBounds_toArray, List.set_cons_zero, List.set_cons_succ]
      refine wpAnyL_take (fun _ => True) [] (i := 39) (oi := { dst := some 63, op := Op.nilCheck (Operand.tmp 26), type := _, pos := _, after := _, guard := none }) (v := .pointer (some ⟨g, k * 6, none⟩)) rfl (by kernel_rfl) (by kernel_rfl) (by kernel_rfl) (by kernel_rfl) (by kernel_rfl) (fun _ _ _ h => h) (SL.ind (by decide) (by decide) (by decide)) (fun _ _ _ _ => trivial) (Or.inl ⟨by rfl, fun wx hx => by go_simp⟩) (SL.mk1 (by kernel_rfl) G2 G3) (SL.mk1 (by kernel_rfl) G2 G3) ?_
      simp only [Act.put, List.setIfInBounds_toArray, List.set_cons_zero, List.set_cons_succ]
      refine wpAnyL_take (fun _ => True) [] (i := 40) (oi := { dst := some 64, op := Op.fieldAddr _ (Operand.tmp 63) 2, type := _, pos := _, after := _, guard := none }) (v := .pointer (some ⟨g, k * 6 + 2, none⟩)) rfl (by kernel_rfl) (by kernel_rfl) (by kernel_rfl) (by kernel_rfl) (by kernel_rfl) (fun _ _ _ h => h) (SL.ind (by decide) (by decide) (by decide)) (fun _ _ _ _ => trivial) (Or.inl ⟨by rfl, fun _ _ => rfl⟩) (SL.mk1 (by kernel_rfl) G2 G3) (SL.mk1 (by kernel_rfl) G2 G3) ?_
      simp only [Act.put, List.setIfInBounds_toArray, List.set_cons_zero, List.set_cons_succ]
      refine wpAnyL_next (i := 41) (o := { dst := none, op := Op.store _ (Operand.tmp 64) (Operand.tmp 49), type := _, pos := _, after := _, guard := none }) (by kernel_rfl) rfl (by rfl) (fun KK hK => ?_)
      go_simp
      have K3 : (w5.setCell ⟨g, k * 6 + 2, none⟩ (.string (s2.extract 0 m2))).cell? ⟨g, k * 6 + 1, none⟩ = some (.string s1) := by rw [cell_ne _ _ _ _ _ (by omega)]; exact G3
      have x1 : (w5.setCell ⟨g, k * 6 + 2, none⟩ (.string (s2.extract 0 m2))).frozen? ⟨g, k * 6 + 1, none⟩ = false := by rw [froz_set]; exact y1
      obtain ⟨w6, hw6⟩ : ∃ w6, w6 = w5.setCell ⟨g, k * 6 + 2, none⟩ (.string (s2.extract 0 m2)) := ⟨_, rfl⟩
      rw [← hw6] at K3 x1 ⊢
      have HW6 := hide hw6
      clear hw6 G2 G3 y1 y2
      refine unhide hK _ _ (SL.mk2 (by kernel_rfl) (getD_self _ _) K3) ?_
      clear hK KK
      try simp only [Act.put, List.setIfInBounds_toArray, List.set_cons_zero, List.set_cons_succ]
      refine wpAnyL_take (fun _ => True) [] (i := 42) (oi := { dst := some 65, op := Op.nilCheck (Operand.tmp 27), type := _, pos := _, after := _, guard := none }) (v := .pointer (some ⟨g, k * 6, none⟩)) rfl (by kernel_rfl) (by kernel_rfl) (by kernel_rfl) (by kernel_rfl) (by kernel_rfl) (fun _ _ _ h => h) (SL.ind (by decide) (by decide) (by decide)) (fun _ _ _ _ => trivial) (Or.inl ⟨by rfl, fun wx hx => by go_simp⟩) (SL.mk2 (by kernel_rfl) (by kernel_rfl) K3) (SL.mk2 (by kernel_rfl) (by kernel_rfl) K3) ?_
      simp only [Act.put, List.setIfInBounds_toArray, List.set_cons_zero, List.set_cons_succ]
      refine wpAnyL_take (fun _ => True) [] (i := 43) (oi := { dst := some 66, op := Op.fieldAddr _ (Operand.tmp 65) 1, type := _, pos := _, after := _, guard := none }) (v := .pointer (some ⟨g, k * 6 + 1, none⟩)) rfl (by kernel_rfl) (by kernel_rfl) (by kernel_rfl) (by kernel_rfl) (by kernel_rfl) (fun _ _ _ h => h) (SL.ind (by decide) (by decide) (by decide)) (fun _ _ _ _ => trivial) (Or.inl ⟨by rfl, fun _ _ => rfl⟩) (SL.mk2 (by kernel_rfl) (by kernel_rfl) K3) (SL.mk2 (by kernel_rfl) (by kernel_rfl) K3) ?_
      simp only [Act.put, List.setIfInBounds_toArray, List.set_cons_zero, List.set_cons_succ]
      refine wpAnyL_next (i := 44) (o := { dst := none, op := Op.store _ (Operand.tmp 66) (Operand.tmp 60), type := _, pos := _, after := _, guard := none }) (by kernel_rfl) rfl (by rfl) (fun KK hK => ?_)
      go_simp
      obtain ⟨w7, hw7⟩ : ∃ w7, w7 = w6.setCell ⟨g, k * 6 + 1, none⟩ (.string (s1.extract 0 m1)) := ⟨_, rfl⟩
      rw [← hw7]
      have HW7 := hide hw7
      clear hw7 K3 x1
      refine unhide hK _ _ (SL.mk3 (by kernel_rfl) (by kernel_rfl) (getD_self _ _)) ?_
      clear hK KK
      try simp only [Act.put, List.setIfInBounds_toArray, List.set_cons_zero, List.set_cons_succ]
      refine wpAnyL_done (by kernel_rfl) ?_ _
      refine NoPanic.normal ?_
      have hrk := (unhide HG).1.first km hkm1
      rw [(unhide HE).1] at hrk
      have hcut := (unhide HG).2.2.1.cut (A := P) (B := S) (.slice ko km kc) (kids.take 60) (ty.take 40) (text.take 40) hrk (fun g2 e2 => (unhide HG).2.1 g2 (by cases ko <;> exact e2))
      rw [hPl, ← (unhide HE).2.1, ← (unhide HE).2.2, ← unhide HW5, ← unhide HW6, ← unhide HW7] at hcut
      obtain ⟨hc1, hc2⟩ := hcut
      have hgb : w.heap.size + 4 ≤ g := (World.ownsRow.lt (unhide HG).2.2.1.own g rfl).1
      have hq := unhide HQ P S (.slice ko km kc) rfl rfl
      have D9 := hide (And.intro hq (And.intro hc1 (And.intro ((unhide HG).2.2.2.1.grown hc2 (by omega)) (And.intro ((unhide HG).2.2.2.2.1.grown hc2 (by omega)) ((unhide HG).2.2.2.2.2.grown hc2 (unhide HG).2.2.2.2.2.size (fun k e => by cases e; omega))))))
      clear hq hc1 hc2 hrk
      go_wp2
      go_roundw
      case rel => exact ⟨k + 1, P ++ (.slice ko km kc, cutN ⟨kind, ty, text, num, kids, place⟩) :: S, by omega, by go_num, (unhide D9).1.1, (unhide D9).1.2, (unhide D9).2.1, (unhide D9).2.2.1, (unhide D9).2.2.2.1, (unhide D9).2.2.2.2⟩
      case measure => simp [intOf]; omega
    · obtain rfl : k = C.length := by omega
      rw [List.take_length, List.drop_length, List.map_nil, List.append_nil] at hmp
      have q0 := hB1.cell (i := 0) (v := .slice none 0 0) rfl
      have f0 := hB1.free 0
      have hb7 := hB1.set 0 (.slice lo C.length lc)
      have hN7 := hN.stored (b := w.heap.size + 1) (by omega) 0 (.slice lo C.length lc)
      have hX7 : Ext w (wr.setCell ⟨w.heap.size + 1, 0, none⟩ (.slice lo C.length lc)) := below_grown hX (grownBy_set _ _ _ _) hX.size (by omega)
      have hfin : C'.map Prod.snd = (A.take 300).map (fun p => cutN p.2) := by
        have h1 := congrArg (List.map cutN) (unhide HM)
        rw [List.map_map, List.map_map, unhide HT] at h1
        exact hmp.trans h1
      have HR := hide (And.intro hb7 (And.intro hN7 (And.intro hfin hX7)))
      clear hN hB0 hB1 hX hb7 hN7 hX7 hlt hkl hmp hfin
      go_wp2
      have r0 := (unhide HR).1.cell (i := 0) rfl
      refine bodyPost_ret (v := .agg #[.slice lo C.length lc]) (by simp [results, Tryz.results5, go_sem, r0]) rfl ⟨lo, lc, C', by rw [hlC], ?_⟩
      rw [hlC]
      exact (unhide HR).2
end Go.Proofs.YtjfhhhabcbkahaaGreat
