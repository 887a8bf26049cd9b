/-
  Codes as bytes: the walk of Decode. What the dump lacks is left out.
-/
import Derived.Test.YtfoffnbkfnbglaaCS
import Derived.Test.YtfoffnbkfnbglaaCU
import Derived.Test.YtfoffnbkfnbglaaCP
namespace Go.Proofs.Ytfoffnbkfnbglaa
open Go.RowKit Go.Shelf
set_option linter.unusedVariables false
set_option linter.unusedSimpArgs false
attribute [local go_sem] Oper.semAt_some

def zC : Cod := ⟨0, 0, 0, 0, 0, []⟩
def hdK (V : Nat → Int) (k : Nat) : Array Value := #[.int .i64 (if 0 < k then V 0 else 0), .int .i64 (if 1 < k then V 1 else 0), .int .i64 (if 2 < k then V 2 else 0), .int .i64 (if 3 < k then V 3 else 0), .int .i64 (if 4 < k then V 4 else 0), .int .i64 (if 5 < k then V 5 else 0), .int .i64 (if 6 < k then V 6 else 0)]
theorem hdK_get (V : Nat → Int) (k : Nat) (hk : k < 7) : (hdK V k)[k]? = some (.int .i64 0) := by
  rcases (by omega : k = 0 ∨ k = 1 ∨ k = 2 ∨ k = 3 ∨ k = 4 ∨ k = 5 ∨ k = 6) with rfl | rfl | rfl | rfl | rfl | rfl | rfl <;> simp [hdK]
theorem hdK_set (V : Nat → Int) (k : Nat) (hk : k < 7) : (hdK V k).setIfInBounds k (.int .i64 (V k)) = hdK V (k + 1) := by
  rcases (by omega : k = 0 ∨ k = 1 ∨ k = 2 ∨ k = 3 ∨ k = 4 ∨ k = 5 ∨ k = 6) with rfl | rfl | rfl | rfl | rfl | rfl | rfl <;> simp [hdK]
def hdV (V : Nat → Int) : Array Value := #[.int .i64 (V 0), .int .i64 (V 1), .int .i64 (V 2), .int .i64 (V 3), .int .i64 (V 4), .int .i64 (V 5), .int .i64 (V 6)]
theorem hdK_all (V : Nat → Int) : hdK V 7 = hdV V := by simp [hdK, hdV]
/-- The code of the numbers that a Reader gives: k instructions. -/
def codR (bs : List Int) (k : Nat) : Cod := ⟨rdV bs 0 0 1, rdV bs 0 0 2, rdV bs 0 0 3, rdV bs 0 0 4, rdV bs 0 0 5, insL bs (rdS bs 0 0 7).1 (rdS bs 0 0 7).2 k⟩
theorem rdS_le (bs : List Int) (p : Nat) (err : Int) : ∀ k, p ≤ bs.length → (rdS bs p err k).1 ≤ bs.length
  | 0, h => h
  | k + 1, h => by
    have ih := rdS_le bs p err k h
    rw [rdS]
    simp only
    unfold took
    repeat' split
    all_goals first | exact ih | (simp only; omega)
theorem insS_low (bs : List Int) (p : Nat) (err : Int) : ∀ k, p ≤ bs.length → (∀ j, j < k → goes bs p err j) → p + k ≤ (insS bs p err k).1 ∨ (insS bs p err k).2 ≠ 0
  | 0, _, _ => .inl (Nat.le_refl _)
  | k + 1, hp, h => by
    have ih := insS_low bs p err k hp (fun j hj => h j (by omega))
    have hk := h k (by omega)
    unfold goes at hk
    rw [insS, hk.2]
    rcases rdS_less bs (insS bs p err k).1 16 (by omega) (by omega) with h1 | ⟨h1, h2, _⟩
    · exact .inr h1
    · rcases ih with ih | ih
      · exact .inl (by omega)
      · exact (ih hk.2).elim
/-- What stands between two rounds of Decode. -/
def DecM (w : World) (V : Nat → Int) (rb Bh B7 : Nat) (pre : List (Nat → Int)) (W : World) : Prop :=
  ∃ ao cap, Blk W B7 #[.int .i64 (V 1), .slice ao pre.length cap, .int .i64 (V 2), .int .i64 (V 3), .int .i64 (V 4), .int .i64 (V 5)] 26 ∧ OI W B7 (.slice ao pre.length cap) pre ∧ (Value.slice ao pre.length cap).ownBlock ≠ some rb ∧ Blk W Bh (hdV V) 52 ∧ Blk W w.heap.size #[.int .i64 (zC).stage, .slice none 0 0, .int .i64 (zC).regs, .int .i64 (zC).attr, .int .i64 (zC).unif, .int .i64 (zC).vary] 26 ∧ Ext w W

theorem grown_put {W : World} {l : Nat} (o' : Obj) : W.grownBy (W.putObj l o') (some l) := ⟨rfl, rfl, rfl, by simp [World.putObj], fun i hi hne => World.putObj_heap_other (fun e => hne (by rw [e]))⟩
theorem Row.keptC {k : IntKind} {W W' : World} {v : Value} {xs : List Int} {row : Option Nat} (h : Row k W v xs) (hg : W.grownBy W' row) (hr : ∀ r, row = some r → ∃ o : Obj, W.heap[r]? = some o ∧ o.isCells = false) : Row k W' v xs := by
  rcases h with h | ⟨h0, b, off, cap, rfl, hl, hm, hc⟩
  · exact .inl h
  · refine .inr ⟨h0, b, off, cap, rfl, hl, hm, fun i hi => ?_⟩
    have hci := hc i hi
    have hne : some b ≠ row := fun e => by
      obtain ⟨o, ho, hcl⟩ := hr b e.symm
      simp only [World.cell?, ho] at hci
      cases o with
      | cells a b c => cases hcl
      | _ => simp at hci
    rw [World.cell?_of_block (w := W) (hg.block b (World.block_lt_of_cell? W _ hci) hne)]
    exact hci
theorem Rd.keptC {W W' : World} {rb : Nat} {sv : Value} {bs : List Int} {p : Nat} {err : Int} {row : Option Nat} (h : Rd W rb sv bs p err) (hg : W.grownBy W' row) (hr : ∀ r, row = some r → ∃ o : Obj, W.heap[r]? = some o ∧ o.isCells = false) : Rd W' rb sv bs p err :=
  ⟨blk_keptC (W := W) (t := 78) h.blk hg hr, h.row.keptC hg hr, h.le, h.len, h.byt⟩
theorem DecM.keptC {w : World} {V : Nat → Int} {rb Bh B7 : Nat} {pre : List (Nat → Int)} {W : World} {l : Nat} {o o' : Obj} (h : DecM w V rb Bh B7 pre W) (hw : w.heap.size ≤ l) (hl : W.heap[l]? = some o) (hc : o.isCells = false) : DecM w V rb Bh B7 pre (W.putObj l o') := by
  obtain ⟨ao, cap, h1, h2, h3, h4, h5, h6⟩ := h
  have hr : ∀ r, some l = some r → ∃ o : Obj, W.heap[r]? = some o ∧ o.isCells = false := fun r e => by cases e; exact ⟨o, hl, hc⟩
  exact ⟨ao, cap, blk_keptC h1 (grown_put o') hr, h2.keptC (grown_put o') hr, h3, blk_keptC h4 (grown_put o') hr, blk_keptC h5 (grown_put o') hr, h6.grown (grown_put o') h6.size (fun r e => by cases e; exact hw)⟩
theorem DecM.past {w : World} {V : Nat → Int} {rb Bh B7 : Nat} (h7 : B7 ≠ rb) (hh : Bh ≠ rb) (hw : w.heap.size < rb) (pre : List (Nat → Int)) (A B : World) (h : DecM w V rb Bh B7 pre A) (hg : A.grownBy B (some rb)) : DecM w V rb Bh B7 pre B := by
  obtain ⟨ao, cap, h1, h2, h3, h4, h5, h6⟩ := h
  exact ⟨ao, cap, h1.grown hg h7, h2.kept9 hg h3, h3, h4.grown hg hh, h5.grown hg (by omega), h6.grown hg h6.size (fun r e => by cases e; omega)⟩

set_option maxRecDepth 100000 in
set_option maxHeartbeats 4000000 in
theorem decode_raw (v : Value) (bs : List Int) (w : World) (hr : Row .u8 w v bs) (hB : Byt bs) (hlen : bs.length ≤ 262172) :
    Calls Try.prog 7 #[v] w fun e w' => ∃ k, (∀ j, j < k → goes bs (rdS bs 0 0 7).1 (rdS bs 0 0 7).2 j) ∧ ¬ goes bs (rdS bs 0 0 7).1 (rdS bs 0 0 7).2 k ∧ Ext w w' ∧
      (((insS bs (rdS bs 0 0 7).1 (rdS bs 0 0 7).2 k).2 = 0 ∧ rdV bs 0 0 0 = 1128353872 ∧ rdV bs 0 0 6 = (k : Int) ∧ mayP (codR bs k) = true ∧ ∃ ao cap, e = .returned (.tuple #[.agg #[.int .i64 ((codR bs k)).stage, .slice ao k cap, .int .i64 ((codR bs k)).regs, .int .i64 ((codR bs k)).attr, .int .i64 ((codR bs k)).unif, .int .i64 ((codR bs k)).vary], .int .i64 0]) ∧ OI w' w.heap.size (.slice ao k cap) (codR bs k).ins) ∨
       (¬ ((insS bs (rdS bs 0 0 7).1 (rdS bs 0 0 7).2 k).2 = 0 ∧ rdV bs 0 0 0 = 1128353872 ∧ rdV bs 0 0 6 = (k : Int) ∧ mayP (codR bs k) = true) ∧ e = .returned (.tuple #[.agg #[.int .i64 (zC).stage, .slice none 0 0, .int .i64 (zC).regs, .int .i64 (zC).attr, .int .i64 (zC).unif, .int .i64 (zC).vary], .int .i64 261]))) := by
  obtain ⟨ao, cap, rfl, hn0, hlc, hcm⟩ := hr.shape
  have HR := hide hr
  have HBY := hide hB
  have HV := hide (rdV_in bs 0 0 · hB)
  clear hr hB hn0
  have EV : Hid (∀ k, rdV bs 0 0 k = numOf (took bs (rdS bs 0 0 k).1 (rdS bs 0 0 k).2 4).1) := fun k => rfl
  have ECR : Hid (∀ k, codR bs k = ⟨rdV bs 0 0 1, rdV bs 0 0 2, rdV bs 0 0 3, rdV bs 0 0 4, rdV bs 0 0 5, insL bs (rdS bs 0 0 7).1 (rdS bs 0 0 7).2 k⟩) := fun k => rfl
  generalize rdV bs 0 0 = V at *
  have HX1 := hide ((Ext.refl w).alloc (.cells #[.int .i64 (zC).stage, .slice none 0 0, .int .i64 (zC).regs, .int .i64 (zC).attr, .int .i64 (zC).unif, .int .i64 (zC).vary] 26))
  have HZ := hide (Blk.new w #[.int .i64 (zC).stage, .slice none 0 0, .int .i64 (zC).regs, .int .i64 (zC).attr, .int .i64 (zC).unif, .int .i64 (zC).vary] 26)
  refine (callsIn_wide (n := 9)).1 ?_
  refine callsIn_of_wp_marks Try.func7 rfl trivial ?_ rfl
  simp only [Try.ntmps7, List.size_toArray, List.length_cons, List.length_nil, Nat.reduceAdd, Nat.reduceSub, Array.replicate_succ, Array.replicate_zero, List.push_toArray, List.append_toArray, List.nil_append, List.cons_append]
  refine wpIn_wide.2 ?_
  have hlen' : ¬ (262172 : Int) < (bs.length : Int) := by omega
  go_wp2_with (go_at_call 9999)
  refine (read_any _ bs _ ((unhide HR).ext (unhide HX1)) (by omega) (unhide HBY)).mono ?_
  rintro e w2 ⟨rb, sv, rfl, hrb, hrd, hx2⟩
  have hrb' : w.heap.size + 1 ≤ rb := by simpa using hrb
  have H2 := hide (And.intro hrd (And.intro ((unhide HZ).ext hx2) ((unhide HX1).trans hx2)))
  clear hrd hx2 HX1 HZ HR hrb
  go_wp2
  have hrl := (unhide H2).1.lt
  have H3 : Hid (Rd (w2.alloc (.cells #[.int .i64 0, .int .i64 0, .int .i64 0, .int .i64 0, .int .i64 0, .int .i64 0, .int .i64 0] 52)) rb sv bs (rdS bs 0 0 0).1 (rdS bs 0 0 0).2 ∧ Blk (w2.alloc (.cells #[.int .i64 0, .int .i64 0, .int .i64 0, .int .i64 0, .int .i64 0, .int .i64 0, .int .i64 0] 52)) w2.heap.size (hdK V 0) 52 ∧ Blk (w2.alloc (.cells #[.int .i64 0, .int .i64 0, .int .i64 0, .int .i64 0, .int .i64 0, .int .i64 0, .int .i64 0] 52)) w.heap.size #[.int .i64 (zC).stage, .slice none 0 0, .int .i64 (zC).regs, .int .i64 (zC).attr, .int .i64 (zC).unif, .int .i64 (zC).vary] 26 ∧ Ext w (w2.alloc (.cells #[.int .i64 0, .int .i64 0, .int .i64 0, .int .i64 0, .int .i64 0, .int .i64 0, .int .i64 0] 52))) :=
    ⟨(unhide H2).1.below ((Below.refl _ _).alloc (Nat.le_refl _) _), Blk.new _ _ _, (unhide H2).2.1.alloc _, (unhide H2).2.2.alloc _⟩
  have hzl := (unhide H2).2.1.lt
  generalize w2.alloc (.cells #[.int .i64 0, .int .i64 0, .int .i64 0, .int .i64 0, .int .i64 0, .int .i64 0, .int .i64 0] 52) = w3 at H3 ⊢
  obtain ⟨Bh, eBh⟩ : ∃ Bh, w2.heap.size = Bh := ⟨_, rfl⟩
  rw [eBh] at H3 hrl hzl
  simp only [eBh]
  clear eBh H2
  go_loopw [15] (fun iv wr => ∃ k : Nat, k ≤ 7 ∧ iv = .int .i64 (k : Int) ∧ Rd wr rb sv bs (rdS bs 0 0 k).1 (rdS bs 0 0 k).2 ∧ Blk wr Bh (hdK V k) 52 ∧ Blk wr w.heap.size #[.int .i64 (zC).stage, .slice none 0 0, .int .i64 (zC).regs, .int .i64 (zC).attr, .int .i64 (zC).unif, .int .i64 (zC).vary] 26 ∧ Ext w wr) (fun iv _ => 7 - (intOf iv).toNat)
  case atStart => exact ⟨0, by omega, rfl, unhide H3⟩
  case round =>
    clear H3
    obtain ⟨k, hk, rfl, hrd, hbh, hz, hx⟩ := hrel
    by_cases hlt : k < 7
    · have hk7 : (k : Int) < 7 := by omega
      have HU := hide (u32_any hrd)
      rw [← unhide EV k] at HU
      have hwr : IntKind.i64.wrap (V k) = V k := by
        have := unhide HV k
        simp [IntKind.wrap, IntKind.bits, IntKind.signed]
        omega
      have D := hide (And.intro hbh (And.intro hz hx))
      clear hrd hbh hz hx
      go_wp2_with (go_at_call 9999)
      refine (unhide HU).mono ?_
      rintro e w4 ⟨rfl, hrd4, hg4⟩
      have hbh' := (unhide D).1.grown hg4 (by omega)
      have hz' := (unhide D).2.1.grown hg4 (by omega)
      have hx' : Ext w w4 := (unhide D).2.2.grown hg4 (unhide D).2.2.size (fun j e => by cases e; omega)
      have hcl := hbh'.cell (hdK_get V k hlt)
      have hfr := hbh'.free k
      have HN : Hid (Rd (w4.setCell ⟨Bh, k, none⟩ (.int .i64 (V k))) rb sv bs (rdS bs 0 0 (k + 1)).1 (rdS bs 0 0 (k + 1)).2 ∧ Blk (w4.setCell ⟨Bh, k, none⟩ (.int .i64 (V k))) Bh (hdK V (k + 1)) 52 ∧ Blk (w4.setCell ⟨Bh, k, none⟩ (.int .i64 (V k))) w.heap.size #[.int .i64 (zC).stage, .slice none 0 0, .int .i64 (zC).regs, .int .i64 (zC).attr, .int .i64 (zC).unif, .int .i64 (zC).vary] 26 ∧ Ext w (w4.setCell ⟨Bh, k, none⟩ (.int .i64 (V k)))) :=
        ⟨hrd4.past (grownBy_set _ _ _ _) (by omega) (hbh'.no (by simp [hdK])), by rw [← hdK_set V k hlt]; exact hbh'.set _ _, hz'.other _ _ (by omega), extSet hx' (by omega)⟩
      clear hrd4 hg4 hbh' hz' hx' D
      go_wp2
      go_roundw
      case rel => exact ⟨k + 1, by omega, by go_num, unhide HN⟩
      case measure => simp [intOf]; omega
    · obtain rfl : k = 7 := by omega
      rw [show ((7 : Nat) : Int) = (7 : Int) from rfl]
      rw [hdK_all] at hbh
      have D := hide (And.intro hrd (And.intro hbh (And.intro hz hx)))
      clear hrd hbh hz hx
      go_wp2_with (first
        | refine wpList_load_row rfl 52 (.tmp 5) rfl Bh rfl 52 (hdV V) (0, 0) _ (unhide D).2.1 Try.underlying52 rfl size7 ?_
        | (go_at_call 9999))
      refine (codeOf_any (V 0) (V 1) (V 2) (V 3) (V 4) (V 5) (V 6) wr).mono ?_
      rintro e w5 ⟨rfl, hx5⟩
      have D5 := hide (show Rd w5 rb sv bs (rdS bs 0 0 7).1 (rdS bs 0 0 7).2 ∧ Blk w5 Bh (hdV V) 52 ∧ Blk w5 w.heap.size #[.int .i64 (zC).stage, .slice none 0 0, .int .i64 (zC).regs, .int .i64 (zC).attr, .int .i64 (zC).unif, .int .i64 (zC).vary] 26 ∧ Ext w w5 from ⟨(unhide D).1.below hx5, (unhide D).2.1.ext hx5, (unhide D).2.2.1.ext hx5, (unhide D).2.2.2.trans hx5⟩)
      have hrl5 := (unhide D5).1.lt
      have hbl5 := (unhide D5).2.1.lt
      clear hx5 D
      go_wp2_with (first
        | refine wpList_storeLast rfl 26 (.tmp 7) (.tmp 25) rfl _ w5.heap.size rfl rfl #[.int .i64 (V 1), .slice none 0 0, .int .i64 (V 2), .int .i64 (V 3), .int .i64 (V 4), .int .i64 (V 5)] rfl 6 size6 rfl rfl (by simp [Value.oneCell']) ?_
        | (go_at_call 20; refine (instrsIn_any rb _).mono ?_; rintro e w1 ⟨rfl, rfl⟩))
      refine (wpIn_wide (n := 9)).1 ?_
      have h0 : ∀ o1 o2, InI bs sv rb (w5.heap.size + 1) (rdS bs 0 0 7).1 (rdS bs 0 0 7).2 (DecM w V rb Bh w5.heap.size) [] ((((w5.alloc (.cells #[.int .i64 (V 1), .slice none 0 0, .int .i64 (V 2), .int .i64 (V 3), .int .i64 (V 4), .int .i64 (V 5)] 26)).alloc (.cells #[.pointer (some ⟨rb, 0, none⟩)] 50)).alloc o1).alloc o2) := fun o1 o2 => by
        have hxx : Ext w5 ((((w5.alloc (.cells #[.int .i64 (V 1), .slice none 0 0, .int .i64 (V 2), .int .i64 (V 3), .int .i64 (V 4), .int .i64 (V 5)] 26)).alloc (.cells #[.pointer (some ⟨rb, 0, none⟩)] 50)).alloc o1).alloc o2) := ((((Ext.refl w5).alloc _).alloc _).alloc _).alloc _
        exact ⟨rfl, fun j hj => by simp at hj, (unhide D5).1.below hxx, ((Blk.here (by simp)).alloc _).alloc _, none, 0, (((Blk.here rfl).alloc _).alloc _).alloc _, OI.nil _ _, by simp [Value.ownBlock], (unhide D5).2.1.ext hxx, (unhide D5).2.2.1.ext hxx, (unhide D5).2.2.2.trans hxx⟩
      have hsz : ((w5.alloc (.cells #[.int .i64 (V 1), .slice none 0 0, .int .i64 (V 2), .int .i64 (V 3), .int .i64 (V 4), .int .i64 (V 5)] 26)).alloc (.cells #[.pointer (some ⟨rb, 0, none⟩)] 50)).heap.size = w5.heap.size + 2 := by simp
      have hw5 : w.heap.size ≤ w5.heap.size := (unhide D5).2.2.2.size
      have hsv : ∀ b off m c, sv = .slice (some ⟨b, off, none⟩) m c → bs ≠ [] → b < w5.heap.size := fun b off m c e hne => by
        rcases (unhide D5).1.row with ⟨h, _⟩ | ⟨_, b', off', cp, e', _, _, hc⟩
        · exact (hne h).elim
        · rw [e] at e'
          cases e'
          exact World.block_lt_of_cell? _ _ (hc 0 (List.length_pos_iff.2 hne))
      generalize ((w5.alloc (.cells #[.int .i64 (V 1), .slice none 0 0, .int .i64 (V 2), .int .i64 (V 3), .int .i64 (V 4), .int .i64 (V 5)] 26)).alloc (.cells #[.pointer (some ⟨rb, 0, none⟩)] 50)) = W0 at h0 hsz ⊢
      obtain ⟨B7, eB7⟩ : ∃ B7, w5.heap.size = B7 := ⟨_, rfl⟩
      rw [eB7] at h0 hsz hrl5 hbl5 hw5 hsv
      simp only [eB7]
      clear eB7 D5
      refine range_walk (α := Nat → Int) (encs := fun x => #[.agg (insA x)]) rfl (by omega) (gf := 39) (lb := #[.pointer (some ⟨B7 + 1, 0, none⟩)]) rfl trivial (enters_of Try.func39 (by kernel_rfl) rfl) (fun _ => rfl)
        (InI bs sv rb (B7 + 1) (rdS bs 0 0 7).1 (rdS bs 0 0 7).2 (DecM w V rb Bh B7)) (InY bs sv rb (B7 + 1) (rdS bs 0 0 7).1 (rdS bs 0 0 7).2 (DecM w V rb Bh B7)) (InE bs sv rb (B7 + 1) (rdS bs 0 0 7).1 (rdS bs 0 0 7).2 (DecM w V rb Bh B7))
        (fun pre x b W => ∃ B8, b = { tmps := #[.slice ao bs.length cap, undef, .pointer (some ⟨w.heap.size, 0, none⟩), .int .i64 0, .pointer (some ⟨rb, 0, none⟩), .pointer (some ⟨Bh, 0, none⟩), u6, .pointer (some ⟨B7, 0, none⟩), .pointer (some ⟨B8, 0, none⟩), .slice ao bs.length cap, .int .i64 (bs.length : Int), .bool false, undef, .slice ao bs.length cap, .pointer (some ⟨rb, 0, none⟩), .int .i64 7, .bool false, u17, u18, u19, u20, u21, u22, u23, .agg (hdV V), .agg #[.int .i64 (V 1), .slice none 0 0, .int .i64 (V 2), .int .i64 (V 3), .int .i64 (V 4), .int .i64 (V 5)], .pointer (some ⟨rb, 0, none⟩), .func (.func 39) #[] #[.pointer (some ⟨B7 + 1, 0, none⟩)], .agg (insA x), undef, undef, undef, undef, undef, undef, undef, undef, undef, undef, undef, undef, undef, undef, undef, undef, undef, undef, undef, undef, undef, undef], defers := [] } ∧ Blk W B8 (insA x) 39 ∧ InY bs sv rb (B7 + 1) (rdS bs 0 0 7).1 (rdS bs 0 0 7).2 (DecM w V rb Bh B7) pre x W)
        ?sI ?sA ?sE h0 ?iter ?assign ?body ?done
      case sI =>
        rintro pre W l o o' hl hlo hoc ⟨h1, h2, h3, h4, h5⟩
        have hr : ∀ r, some l = some r → ∃ o : Obj, W.heap[r]? = some o ∧ o.isCells = false := fun r e => by cases e; exact ⟨o, hlo, hoc⟩
        exact ⟨h1, h2, h3.keptC (grown_put o') hr, blk_keptC h4 (grown_put o') hr, h5.keptC (by omega) hlo hoc⟩
      case sA =>
        rintro pre x b W l o o' hl hlo hoc ⟨B8, hb, hB8, h1, h2, h3, h4, h5, h6⟩
        have hr : ∀ r, some l = some r → ∃ o : Obj, W.heap[r]? = some o ∧ o.isCells = false := fun r e => by cases e; exact ⟨o, hlo, hoc⟩
        exact ⟨B8, hb, blk_keptC hB8 (grown_put o') hr, h1, h2, h3, h4.keptC (grown_put o') hr, blk_keptC h5 (grown_put o') hr, h6.keptC (by omega) hlo hoc⟩
      case sE =>
        rintro pre W l o o' hl hlo hoc ⟨⟨h1, h2, h3, h4, h5⟩, h6⟩
        have hr : ∀ r, some l = some r → ∃ o : Obj, W.heap[r]? = some o ∧ o.isCells = false := fun r e => by cases e; exact ⟨o, hlo, hoc⟩
        exact ⟨⟨h1, h2, h3.keptC (grown_put o') hr, blk_keptC h4 (grown_put o') hr, h5.keptC (by omega) hlo hoc⟩, h6⟩
      case iter =>
        intro l D ol od W hl hD hlo hDo hI hY
        exact insIter (9 - 1) (by omega) bs sv rb (B7 + 1) _ _ (DecM w V rb Bh B7) (DecM.past (by omega) (by omega) (by omega)) (by omega) l D ol od (by omega) (by omega) W hlo hDo hI hY
      case assign =>
        intro l pre x W K hy hK
        gi_wp2_with (first | refine wpListIn_storeLastC rfl 39 (.tmp 8) (.tmp 28) rfl _ W.heap.size rfl rfl (insA x) rfl 16 size16 rfl rfl (insA_one x) ?_)
        obtain ⟨h1, h2, h3, h4, h5, h6⟩ := hy
        have hxx : Ext W (W.alloc (.cells (insA x) 39)) := (Ext.refl W).alloc _
        exact hK _ _ ⟨W.heap.size, rfl, Blk.new _ _ _, h1, h2, h3, h4.below hxx, h5.alloc _, DecM.past (by omega) (by omega) (by omega) _ _ _ h6 (extG hxx (some rb))⟩ (KeepsOthers.alloc _ _)
      case body =>
        rintro l pre x b W ⟨B8, rfl, hB8, h1, h2, h3, h4, h5, ⟨ao9, cap9, m1, m2, m3, m4, m5, m6⟩⟩
        obtain ⟨i16, hi16, hz16, hs16, hb16⟩ := info_all infoI
        have hpl : pre.length ≤ bs.length := by
          rcases insS_low bs (rdS bs 0 0 7).1 (rdS bs 0 0 7).2 pre.length (rdS_le bs 0 0 7 (Nat.zero_le _)) (fun j hj => h3 j (by omega)) with h | h
          · have := (h3 pre.length (by omega)).1
            omega
          · exact (h (h3 pre.length (by omega)).2).elim
        have HD := hide (And.intro h1 (And.intro h2 (And.intro h3 (And.intro h4 (And.intro h5 (And.intro m1 (And.intro m2 (And.intro m3 (And.intro m4 (And.intro m5 m6))))))))))
        have c7 := m1.cell (i := 1) rfl
        have HB8 := hide hB8
        have m2a := m2.ext ((Ext.refl W).alloc (.cells (insA x) 39))
        have HM2 := hide m2a
        have hm6 := m6.size
        have hB7l := m1.lt
        clear h1 h2 h3 h4 h5 m1 m2 m3 m4 m5 m6 hB8 m2a
        gi_wp2_with (first
          | refine wpListIn_load_rowC rfl 39 (.tmp 8) rfl B8 rfl 39 (insA x) (0, 0) _ (unhide HB8) Try.underlying39 rfl size16 ?_
          | refine wpListIn_buildSliceC rfl 24 39 1 _ rfl (insA x) i16 (.agg (insA zI)) Try.underlying24 hi16 hz16 (by rw [hs16]; decide) (by rw [hs16]; decide) (by rw [hs16]; kernel_rfl) ?_
          | (refine wpListIn_append_own _ rfl (.tmp 30) (.tmp 32) 24 rfl B7 39 i16 (.agg (insA zI)) 16 112 Try.underlying24 hi16 hz16 hs16 hb16 rfl (by decide) _ pre.length (icells pre) rfl (unhide HM2) ⟨W.heap.size, 0, none⟩ 1 1 (insA x).toList rfl rfl ?hc ?h1 ?b1 ?b2 ?b3 ?_))
        case hc =>
          intro j u hu
          rw [Addr.add_lit, Nat.zero_add]
          exact (Blk.new W _ _).cell (by simpa using hu)
        case h1 => exact fun u hu => icells_ones [x] u (by rw [icells_one]; exact hu)
        case b1 => unfold maxLen; omega
        case b2 => omega
        case b3 => simp; omega
        intro v9 w9 ho9 hg9 hne9
        have ho9' : OI w9 B7 v9 (pre ++ [x]) := by
          rw [OI, icells_append, icells_one, List.length_append]
          exact ho9
        obtain ⟨ao8, cap8, rfl, hao8, hlc8, hcm8⟩ := ho9'.shape
        obtain ⟨h1, h2, h3, h4, h5, m1, m2, m3, m4, m5, m6⟩ := unhide HD
        have hxa : Ext W (W.alloc (.cells (insA x) 39)) := (Ext.refl W).alloc _
        have kblk : ∀ {G : Nat} {cs : Array Value} {t : TypeId}, t ≠ 39 → Blk W G cs t → Blk w9 G cs t := fun {G cs t} ht hG =>
          (hg9.block G (hG.ext hxa).lt (fun e => (m2.ext hxa).neB (hG.ext hxa) ht e.symm)).trans (hG.ext hxa)
        have hR9 : Rd w9 rb sv bs (insS bs (rdS bs 0 0 7).1 (rdS bs 0 0 7).2 (pre.length + 1)).1 (insS bs (rdS bs 0 0 7).1 (rdS bs 0 0 7).2 (pre.length + 1)).2 := by
          have h4a := h4.below hxa
          refine ⟨kblk (t := 78) (by decide) h4.blk, ?_, h4.le, h4.len, h4.byt⟩
          rcases h4a.row with hr | ⟨hr0, b, off, cp, rfl, hl, hm, hc⟩
          · exact .inl hr
          · refine .inr ⟨hr0, b, off, cp, rfl, hl, hm, fun i hi => ?_⟩
            have hci := hc i hi
            rw [World.cell?_of_block (hg9.block b (World.block_lt_of_cell? _ _ hci) (fun e => by
              have h8 := ((m2.ext hxa).lt b e.symm).1
              have h7 := hsv b off _ _ rfl hr0
              omega))]
            exact hci
        have m1' := kblk (by decide) m1
        have hX9 : Ext w w9 := (m6.trans hxa).grown hg9 (m6.trans hxa).size (fun j e => by have := ((m2.ext hxa).lt j e).1; omega)
        have hK9 : KeepsOthers W w9 := (KeepsOthers.alloc _ _).trans (KeepsOthers.of_grownBy hg9 (m2.ext hxa).cells)
        have c9 := m1'.cell (i := 1) rfl
        have f9 := m1'.free 1
        have hg8 := grownBy_set w9 B7 1 (.slice ao8 (pre ++ [x]).length cap8)
        have HF : Hid (KeepsOthers W (w9.setCell ⟨B7, 1, none⟩ (.slice ao8 (pre ++ [x]).length cap8)) ∧ InI bs sv rb (B7 + 1) (rdS bs 0 0 7).1 (rdS bs 0 0 7).2 (DecM w V rb Bh B7) (pre ++ [x]) (w9.setCell ⟨B7, 1, none⟩ (.slice ao8 (pre ++ [x]).length cap8))) := by
          refine ⟨hK9.trans (KeepsOthers.setCell _ _ _), ?_, ?_, ?_, (kblk (by decide) h5).other _ _ (by omega), ao8, cap8, m1'.set 1 _, ho9'.kept9 hg8 (ho9'.neB m1' (by decide)), ho9'.neB (t := 78) hR9.blk (by decide), (kblk (by decide) m4).other _ _ (by omega), (kblk (by decide) m5).other _ _ (by omega), extSet hX9 (by omega)⟩
          · rw [List.length_append]
            show pre ++ [x] = insL _ _ _ (pre.length + 1)
            rw [insL_succ, ← h1, ← h2]
          · intro j hj
            exact h3 j (by simpa using hj)
          · have h9 := hR9.past hg8 (by omega) (m1'.no (by simp))
            rw [show pre.length + 1 = (pre ++ [x]).length by simp] at h9
            exact h9
        rw [List.length_append] at HF
        clear hR9 m1' hX9 hK9 hg8 kblk hg9 ho9 ho9' hxa h1 h2 h3 h4 h5 m1 m2 m3 m4 m5 m6 hne9
        gi_wp2
        exact unhide HF
      case done =>
        rintro D xs W hD ⟨⟨h1, h2, h3, h4, ⟨ao9, cap9, m1, m2, m3, m4, m5, m6⟩⟩, hng⟩ hK
        have HXS := hide h1
        have HGO := hide (And.intro h2 hng)
        have HER : Hid (∀ wx, Ext W wx → Calls Try.prog 21 #[.pointer (some ⟨rb, 0, none⟩)] wx fun e w' => e = .returned (.int .i64 (insS bs (rdS bs 0 0 7).1 (rdS bs 0 0 7).2 xs.length).2) ∧ Ext wx w') := fun wx hx => by
          refine (err_any (h3.below hx)).mono ?_
          rintro e w' ⟨rfl, rfl⟩
          exact ⟨rfl, Ext.refl _⟩
        have HMB : Hid (∀ wx, Ext W wx → Calls Try.prog 23 #[.agg #[.int .i64 (V 1), .slice ao9 xs.length cap9, .int .i64 (V 2), .int .i64 (V 3), .int .i64 (V 4), .int .i64 (V 5)]] wx fun e w' => e = .returned (.bool (mayP (codR bs xs.length))) ∧ Ext wx w') := fun wx hx => by
          have h := may_any ⟨V 1, V 2, V 3, V 4, V 5, xs⟩ (.slice ao9 xs.length cap9) wx (m2.ir.ext hx)
          rw [unhide ECR xs.length, ← h1]
          exact h
        have HEQ := hide (fun wx => eqSeven 1128353872 (V 1) (V 2) (V 3) (V 4) (V 5) (xs.length : Int) (V 0) (V 1) (V 2) (V 3) (V 4) (V 5) (V 6) wx)
        simp only [beq_self_eq_true, Bool.true_and] at HEQ
        have HB7 := hide m1
        have HIO := hide m2
        have HBh := hide m4
        have HZ := hide m5
        have HXW := hide m6
        have HK := hide hK
        have HSM : Hid (((1128353872 : Int) == V 0 && (xs.length : Int) == V 6) = true ↔ V 0 = 1128353872 ∧ V 6 = (xs.length : Int)) := by
          rw [Hid, Bool.and_eq_true, beq_iff_eq, beq_iff_eq]
          exact ⟨fun h => ⟨h.1.symm, h.2.symm⟩, fun h => ⟨h.1.symm, h.2.symm⟩⟩
        have hDw : w.heap.size < D := by omega
        clear h1 h2 h3 h4 m1 m2 m3 m4 m5 m6 hng hK
        generalize ((1128353872 : Int) == V 0 && (xs.length : Int) == V 6) = sm at *
        obtain ⟨mb, EMB⟩ : ∃ mb, Hid (mayP (codR bs xs.length) = mb) := ⟨_, rfl⟩
        obtain ⟨er, EER⟩ : ∃ er, Hid ((insS bs (rdS bs 0 0 7).1 (rdS bs 0 0 7).2 xs.length).2 = er) := ⟨_, rfl⟩
        rw [unhide EMB] at HMB
        rw [unhide EER] at HER
        go_wp2
        by_cases her : er = 0
        case neg =>
          have d0 : (er != 0) = true := by simpa using her
          have HNOT : Hid (¬ ((insS bs (rdS bs 0 0 7).1 (rdS bs 0 0 7).2 xs.length).2 = 0 ∧ V 0 = 1128353872 ∧ V 6 = (xs.length : Int) ∧ mayP (codR bs xs.length) = true)) := fun h => her ((unhide EER).symm.trans h.1)
          clear her
          refine wp_region_noPanic ?_
          refine wp_region_held_drew (S := fun wx => Ext W wx) (by kernel_rfl) ((Ext.refl _).drew) (fun HS => ?_)
          refine wpAnyH_take (i := 0) (oi := { dst := some 35, op := Op.move (Operand.tmp 4), type := _, pos := _, after := _, guard := none }) (v := .pointer (some ⟨rb, 0, none⟩)) rfl (by kernel_rfl) (by kernel_rfl) (by kernel_rfl) (fun _ _ _ h => h) (Or.inl ⟨by rfl, fun _ _ => rfl⟩) HS ?_
          simp only [Act.put, List.setIfInBounds_toArray, List.set_cons_zero, List.set_cons_succ]
          refine wpAnyH_ready (rs := [1]) (by kernel_rfl) (by simp) (AllReadyH.cons (o := { dst := some 36, op := Op.call { callee := Callee.value (Operand.func _), args := #[Operand.tmp 35], argTypes := _ }, type := _, pos := _, after := _, guard := none }) rfl (fun KK hK => ?_) AllReadyH.nil)
          go_simp
          refine (unhide HER _ HS).mono ?_
          rintro e ws ⟨rfl, hxs⟩
          have HS2 := Ext.trans HS hxs
          clear hxs HS
          have HS := HS2
          clear HS2
          refine hK.out _ _ HS (fun _ => ?_)
          clear hK KK
          try simp only [Act.put, List.setIfInBounds_toArray, List.set_cons_zero, List.set_cons_succ]
          refine wpAnyH_take (i := 2) (oi := { dst := some 37, op := Op.binOp BinOp.neq _ (Operand.tmp 36) (Operand.const (Value.int IntKind.i64 0)) _, type := _, pos := _, after := _, guard := none }) (v := .bool true) rfl (by kernel_rfl) (by kernel_rfl) (by kernel_rfl) (fun _ _ _ h => h) (Or.inl ⟨by rfl, fun wx hx => by go_simp⟩) HS ?_
          simp only [Act.put, List.setIfInBounds_toArray, List.set_cons_zero, List.set_cons_succ]
          refine wpAnyH_take (i := 3) (oi := { dst := some 38, op := Op.move (Operand.tmp 37), type := _, pos := _, after := _, guard := none }) (v := .bool true) rfl (by kernel_rfl) (by kernel_rfl) (by kernel_rfl) (fun _ _ _ h => h) (Or.inl ⟨by rfl, fun _ _ => rfl⟩) HS ?_
          simp only [Act.put, List.setIfInBounds_toArray, List.set_cons_zero, List.set_cons_succ]
          refine wpAnyH_take (i := 4) (oi := { dst := some 39, op := Op.load _ (Operand.tmp 7), type := _, pos := _, after := _, guard := some (3, false) }) (v := undef) rfl (by kernel_rfl) (by kernel_rfl) (by kernel_rfl) (fun _ _ _ h => h) (Or.inr ⟨by rfl, rfl⟩) HS ?_
          simp only [Act.put, List.setIfInBounds_toArray, List.set_cons_zero, List.set_cons_succ]
          refine wpAnyH_take (i := 5) (oi := { dst := some 40, op := Op.call { callee := Callee.value (Operand.func _), args := #[Operand.tmp 39], argTypes := _ }, type := _, pos := _, after := _, guard := some (3, false) }) (v := undef) rfl (by kernel_rfl) (by kernel_rfl) (by kernel_rfl) (fun _ _ _ h => h) (Or.inr ⟨by rfl, rfl⟩) HS ?_
          simp only [Act.put, List.setIfInBounds_toArray, List.set_cons_zero, List.set_cons_succ]
          refine wpAnyH_take (i := 6) (oi := { dst := some 41, op := Op.load _ (Operand.tmp 5), type := _, pos := _, after := _, guard := some (3, false) }) (v := undef) rfl (by kernel_rfl) (by kernel_rfl) (by kernel_rfl) (fun _ _ _ h => h) (Or.inr ⟨by rfl, rfl⟩) HS ?_
          simp only [Act.put, List.setIfInBounds_toArray, List.set_cons_zero, List.set_cons_succ]
          refine wpAnyH_take (i := 7) (oi := { dst := some 42, op := Op.binOp BinOp.neq _ (Operand.tmp 40) (Operand.tmp 41) _, type := _, pos := _, after := _, guard := some (3, false) }) (v := undef) rfl (by kernel_rfl) (by kernel_rfl) (by kernel_rfl) (fun _ _ _ h => h) (Or.inr ⟨by rfl, rfl⟩) HS ?_
          simp only [Act.put, List.setIfInBounds_toArray, List.set_cons_zero, List.set_cons_succ]
          refine wpAnyH_take (i := 8) (oi := { dst := some 43, op := Op.pick (Operand.tmp 38) (Operand.const (Value.bool true)) (Operand.tmp 42), type := _, pos := _, after := _, guard := none }) (v := .bool true) rfl (by kernel_rfl) (by kernel_rfl) (by kernel_rfl) (fun _ _ _ h => h) (Or.inl ⟨by rfl, fun _ _ => rfl⟩) HS ?_
          simp only [Act.put, List.setIfInBounds_toArray, List.set_cons_zero, List.set_cons_succ]
          refine wpAnyH_take (i := 9) (oi := { dst := some 44, op := Op.move (Operand.tmp 43), type := _, pos := _, after := _, guard := none }) (v := .bool true) rfl (by kernel_rfl) (by kernel_rfl) (by kernel_rfl) (fun _ _ _ h => h) (Or.inl ⟨by rfl, fun _ _ => rfl⟩) HS ?_
          simp only [Act.put, List.setIfInBounds_toArray, List.set_cons_zero, List.set_cons_succ]
          refine wpAnyH_take (i := 10) (oi := { dst := some 45, op := Op.load _ (Operand.tmp 7), type := _, pos := _, after := _, guard := some (9, false) }) (v := undef) rfl (by kernel_rfl) (by kernel_rfl) (by kernel_rfl) (fun _ _ _ h => h) (Or.inr ⟨by rfl, rfl⟩) HS ?_
          simp only [Act.put, List.setIfInBounds_toArray, List.set_cons_zero, List.set_cons_succ]
          refine wpAnyH_take (i := 11) (oi := { dst := some 46, op := Op.call { callee := Callee.value (Operand.func _), args := #[Operand.tmp 45], argTypes := _ }, type := _, pos := _, after := _, guard := some (9, false) }) (v := undef) rfl (by kernel_rfl) (by kernel_rfl) (by kernel_rfl) (fun _ _ _ h => h) (Or.inr ⟨by rfl, rfl⟩) HS ?_
          simp only [Act.put, List.setIfInBounds_toArray, List.set_cons_zero, List.set_cons_succ]
          refine wpAnyH_take (i := 12) (oi := { dst := some 47, op := Op.unOp UnOp.not 4 (Operand.tmp 46), type := _, pos := _, after := _, guard := some (9, false) }) (v := undef) rfl (by kernel_rfl) (by kernel_rfl) (by kernel_rfl) (fun _ _ _ h => h) (Or.inr ⟨by rfl, rfl⟩) HS ?_
          simp only [Act.put, List.setIfInBounds_toArray, List.set_cons_zero, List.set_cons_succ]
          refine wpAnyH_take (i := 13) (oi := { dst := some 48, op := Op.pick (Operand.tmp 44) (Operand.const (Value.bool true)) (Operand.tmp 47), type := _, pos := _, after := _, guard := none }) (v := .bool true) rfl (by kernel_rfl) (by kernel_rfl) (by kernel_rfl) (fun _ _ _ h => h) (Or.inl ⟨by rfl, fun _ _ => rfl⟩) HS ?_
          simp only [Act.put, List.setIfInBounds_toArray, List.set_cons_zero, List.set_cons_succ]
          refine wpAnyH_done (by kernel_rfl) ?_ _
          refine NoPanic.normal ?_
          have HZ9 := hide ((unhide HZ).ext HS)
          have HK9 := hide (((Below.block HS D (Array.getElem?_eq_some_iff.1 (unhide HK)).1)).trans (unhide HK))
          have HX9 := hide ((unhide HXW).trans HS)
          go_wp2_with (first
            | refine wpList_buildTo rfl 26 _ rfl (some 49) rfl #[.int .i64 (zC).stage, .slice none 0 0, .int .i64 (zC).regs, .int .i64 (zC).attr, .int .i64 (zC).unif, .int .i64 (zC).vary] (by kernel_rfl) ?_
            | refine wpList_store_row rfl 26 (.tmp 2) (.tmp 49) rfl w.heap.size #[.int .i64 (zC).stage, .slice none 0 0, .int .i64 (zC).regs, .int .i64 (zC).attr, .int .i64 (zC).unif, .int .i64 (zC).vary] rfl rfl 26 _ (unhide HZ9) size6 rfl (by simp [Value.oneCell']) ?_)
          have HK8 : Hid ((World.setRow _ w.heap.size #[.int .i64 (zC).stage, .slice none 0 0, .int .i64 (zC).regs, .int .i64 (zC).attr, .int .i64 (zC).unif, .int .i64 (zC).vary]).heap[D]? = some (.deferred (some []))) := (setRow_other _ w.heap.size D #[.int .i64 (zC).stage, .slice none 0 0, .int .i64 (zC).regs, .int .i64 (zC).attr, .int .i64 (zC).unif, .int .i64 (zC).vary] (by omega)).trans (unhide HK9)
          refine ⟨by simp, .inl ⟨_, _, rfl, run_takeDeferred (unhide HK8), ?_⟩⟩
          refine ⟨.tuple #[.agg #[.int .i64 (zC).stage, .slice none 0 0, .int .i64 (zC).regs, .int .i64 (zC).attr, .int .i64 (zC).unif, .int .i64 (zC).vary], .int .i64 261], results_cellTmp Try.results7 _ _ w.heap.size 26 #[.int .i64 (zC).stage, .slice none 0 0, .int .i64 (zC).regs, .int .i64 (zC).attr, .int .i64 (zC).unif, .int .i64 (zC).vary] _ rfl (.int .i64 261) rfl ?_ Try.underlying26 rfl size6, xs.length, (unhide HGO).1, (unhide HGO).2, ?_, .inr ⟨?_, rfl⟩⟩
          · exact blk_keptC ((unhide HZ9).rowC) (grown_put _) (fun r e => by cases e; exact ⟨_, unhide HK8, rfl⟩)
          · exact (show Below w.heap.size w _ from extRow (unhide HX9) (Nat.le_refl _)).trans (belowK_b (w := w) (Nat.le_refl _) _ D _ _ (by omega) (unhide HK8) rfl rfl)
          · have hN := unhide HNOT
            first
            | exact hN
            | (intro a1 a2 a3
               cases hq : mayP (codR bs xs.length) with
               | false => rfl
               | true => exact (hN ⟨a1, a2, a3, hq⟩).elim)
        case pos =>
        subst her
        cases sm
        case false =>
          have HNOT : Hid (¬ ((insS bs (rdS bs 0 0 7).1 (rdS bs 0 0 7).2 xs.length).2 = 0 ∧ V 0 = 1128353872 ∧ V 6 = (xs.length : Int) ∧ mayP (codR bs xs.length) = true)) := fun h => by
            have := (unhide HSM).2 ⟨h.2.1, h.2.2.1⟩
            cases this
          refine wp_region_noPanic ?_
          refine wp_region_held_drew (S := fun wx => Ext W wx) (by kernel_rfl) ((Ext.refl _).drew) (fun HS => ?_)
          refine wpAnyH_take (i := 0) (oi := { dst := some 35, op := Op.move (Operand.tmp 4), type := _, pos := _, after := _, guard := none }) (v := .pointer (some ⟨rb, 0, none⟩)) rfl (by kernel_rfl) (by kernel_rfl) (by kernel_rfl) (fun _ _ _ h => h) (Or.inl ⟨by rfl, fun _ _ => rfl⟩) HS ?_
          simp only [Act.put, List.setIfInBounds_toArray, List.set_cons_zero, List.set_cons_succ]
          refine wpAnyH_ready (rs := [1]) (by kernel_rfl) (by simp) (AllReadyH.cons (o := { dst := some 36, op := Op.call { callee := Callee.value (Operand.func _), args := #[Operand.tmp 35], argTypes := _ }, type := _, pos := _, after := _, guard := none }) rfl (fun KK hK => ?_) AllReadyH.nil)
          go_simp
          refine (unhide HER _ HS).mono ?_
          rintro e ws ⟨rfl, hxs⟩
          have HS2 := Ext.trans HS hxs
          clear hxs HS
          have HS := HS2
          clear HS2
          refine hK.out _ _ HS (fun _ => ?_)
          clear hK KK
          try simp only [Act.put, List.setIfInBounds_toArray, List.set_cons_zero, List.set_cons_succ]
          refine wpAnyH_take (i := 2) (oi := { dst := some 37, op := Op.binOp BinOp.neq _ (Operand.tmp 36) (Operand.const (Value.int IntKind.i64 0)) _, type := _, pos := _, after := _, guard := none }) (v := .bool false) rfl (by kernel_rfl) (by kernel_rfl) (by kernel_rfl) (fun _ _ _ h => h) (Or.inl ⟨by rfl, fun wx hx => by go_simp⟩) HS ?_
          simp only [Act.put, List.setIfInBounds_toArray, List.set_cons_zero, List.set_cons_succ]
          refine wpAnyH_take (i := 3) (oi := { dst := some 38, op := Op.move (Operand.tmp 37), type := _, pos := _, after := _, guard := none }) (v := .bool false) rfl (by kernel_rfl) (by kernel_rfl) (by kernel_rfl) (fun _ _ _ h => h) (Or.inl ⟨by rfl, fun _ _ => rfl⟩) HS ?_
          simp only [Act.put, List.setIfInBounds_toArray, List.set_cons_zero, List.set_cons_succ]
          refine wpAnyH_take (i := 4) (oi := { dst := some 39, op := Op.load _ (Operand.tmp 7), type := _, pos := _, after := _, guard := some (3, false) }) (v := .agg #[.int .i64 (V 1), .slice ao9 xs.length cap9, .int .i64 (V 2), .int .i64 (V 3), .int .i64 (V 4), .int .i64 (V 5)]) rfl (by kernel_rfl) (by kernel_rfl) (by kernel_rfl) (fun _ _ _ h => h) (yieldsIf_load_mid (by rfl) 26 (.tmp 7) rfl B7 0 rfl [.int .i64 (V 1), .slice ao9 xs.length cap9, .int .i64 (V 2), .int .i64 (V 3), .int .i64 (V 4), .int .i64 (V 5)] _ (fun wx hx => ((unhide HB7).ext hx).rng) Try.underlying26 rfl size6) HS ?_
          simp only [Act.put, List.setIfInBounds_toArray, List.set_cons_zero, List.set_cons_succ]
          refine wpAnyH_take (i := 6) (oi := { dst := some 41, op := Op.load _ (Operand.tmp 5), type := _, pos := _, after := _, guard := some (3, false) }) (v := .agg (hdV V)) rfl (by kernel_rfl) (by kernel_rfl) (by kernel_rfl) (fun _ _ _ h => h) (yieldsIf_load_mid (by rfl) 52 (.tmp 5) rfl Bh 0 rfl (hdV V).toList _ (fun wx hx => ((unhide HBh).ext hx).rng) Try.underlying52 rfl size7) HS ?_
          simp only [Act.put, List.setIfInBounds_toArray, List.set_cons_zero, List.set_cons_succ]
          refine wpAnyH_ready (rs := [5]) (by kernel_rfl) (by simp) (AllReadyH.cons (o := { dst := some 40, op := Op.call { callee := Callee.value (Operand.func _), args := #[Operand.tmp 39], argTypes := _ }, type := _, pos := _, after := _, guard := some (3, false) }) rfl (fun KK hK => ?_) AllReadyH.nil)
          go_simp
          refine (headOf_any ⟨V 1, V 2, V 3, V 4, V 5, xs⟩ ao9 xs.length cap9 _).mono ?_
          rintro e ws ⟨rfl, hxs⟩
          have HS2 := Ext.trans HS hxs
          clear hxs HS
          have HS := HS2
          clear HS2
          refine hK.out _ _ HS (fun _ => ?_)
          clear hK KK
          try simp only [Act.put, List.setIfInBounds_toArray, List.set_cons_zero, List.set_cons_succ]
          refine wpAnyH_take (i := 7) (oi := { dst := some 42, op := Op.binOp BinOp.neq _ (Operand.tmp 40) (Operand.tmp 41) _, type := _, pos := _, after := _, guard := some (3, false) }) (v := .bool true) rfl (by kernel_rfl) (by kernel_rfl) (by kernel_rfl) (fun _ _ _ h => h) (Or.inl ⟨by rfl, fun wx hx => exec_ne _ _ (.tmp 40) (.tmp 41) _ _ _ _ false rfl rfl rfl grd7 (unhide HEQ wx)⟩) HS ?_
          simp only [Act.put, List.setIfInBounds_toArray, List.set_cons_zero, List.set_cons_succ]
          refine wpAnyH_take (i := 8) (oi := { dst := some 43, op := Op.pick (Operand.tmp 38) (Operand.const (Value.bool true)) (Operand.tmp 42), type := _, pos := _, after := _, guard := none }) (v := .bool true) rfl (by kernel_rfl) (by kernel_rfl) (by kernel_rfl) (fun _ _ _ h => h) (Or.inl ⟨by rfl, fun _ _ => rfl⟩) HS ?_
          simp only [Act.put, List.setIfInBounds_toArray, List.set_cons_zero, List.set_cons_succ]
          refine wpAnyH_take (i := 9) (oi := { dst := some 44, op := Op.move (Operand.tmp 43), type := _, pos := _, after := _, guard := none }) (v := .bool true) rfl (by kernel_rfl) (by kernel_rfl) (by kernel_rfl) (fun _ _ _ h => h) (Or.inl ⟨by rfl, fun _ _ => rfl⟩) HS ?_
          simp only [Act.put, List.setIfInBounds_toArray, List.set_cons_zero, List.set_cons_succ]
          refine wpAnyH_take (i := 10) (oi := { dst := some 45, op := Op.load _ (Operand.tmp 7), type := _, pos := _, after := _, guard := some (9, false) }) (v := undef) rfl (by kernel_rfl) (by kernel_rfl) (by kernel_rfl) (fun _ _ _ h => h) (Or.inr ⟨by rfl, rfl⟩) HS ?_
          simp only [Act.put, List.setIfInBounds_toArray, List.set_cons_zero, List.set_cons_succ]
          refine wpAnyH_take (i := 11) (oi := { dst := some 46, op := Op.call { callee := Callee.value (Operand.func _), args := #[Operand.tmp 45], argTypes := _ }, type := _, pos := _, after := _, guard := some (9, false) }) (v := undef) rfl (by kernel_rfl) (by kernel_rfl) (by kernel_rfl) (fun _ _ _ h => h) (Or.inr ⟨by rfl, rfl⟩) HS ?_
          simp only [Act.put, List.setIfInBounds_toArray, List.set_cons_zero, List.set_cons_succ]
          refine wpAnyH_take (i := 12) (oi := { dst := some 47, op := Op.unOp UnOp.not 4 (Operand.tmp 46), type := _, pos := _, after := _, guard := some (9, false) }) (v := undef) rfl (by kernel_rfl) (by kernel_rfl) (by kernel_rfl) (fun _ _ _ h => h) (Or.inr ⟨by rfl, rfl⟩) HS ?_
          simp only [Act.put, List.setIfInBounds_toArray, List.set_cons_zero, List.set_cons_succ]
          refine wpAnyH_take (i := 13) (oi := { dst := some 48, op := Op.pick (Operand.tmp 44) (Operand.const (Value.bool true)) (Operand.tmp 47), type := _, pos := _, after := _, guard := none }) (v := .bool true) rfl (by kernel_rfl) (by kernel_rfl) (by kernel_rfl) (fun _ _ _ h => h) (Or.inl ⟨by rfl, fun _ _ => rfl⟩) HS ?_
          simp only [Act.put, List.setIfInBounds_toArray, List.set_cons_zero, List.set_cons_succ]
          refine wpAnyH_done (by kernel_rfl) ?_ _
          refine NoPanic.normal ?_
          have HZ9 := hide ((unhide HZ).ext HS)
          have HK9 := hide (((Below.block HS D (Array.getElem?_eq_some_iff.1 (unhide HK)).1)).trans (unhide HK))
          have HX9 := hide ((unhide HXW).trans HS)
          go_wp2_with (first
            | refine wpList_buildTo rfl 26 _ rfl (some 49) rfl #[.int .i64 (zC).stage, .slice none 0 0, .int .i64 (zC).regs, .int .i64 (zC).attr, .int .i64 (zC).unif, .int .i64 (zC).vary] (by kernel_rfl) ?_
            | refine wpList_store_row rfl 26 (.tmp 2) (.tmp 49) rfl w.heap.size #[.int .i64 (zC).stage, .slice none 0 0, .int .i64 (zC).regs, .int .i64 (zC).attr, .int .i64 (zC).unif, .int .i64 (zC).vary] rfl rfl 26 _ (unhide HZ9) size6 rfl (by simp [Value.oneCell']) ?_)
          have HK8 : Hid ((World.setRow _ w.heap.size #[.int .i64 (zC).stage, .slice none 0 0, .int .i64 (zC).regs, .int .i64 (zC).attr, .int .i64 (zC).unif, .int .i64 (zC).vary]).heap[D]? = some (.deferred (some []))) := (setRow_other _ w.heap.size D #[.int .i64 (zC).stage, .slice none 0 0, .int .i64 (zC).regs, .int .i64 (zC).attr, .int .i64 (zC).unif, .int .i64 (zC).vary] (by omega)).trans (unhide HK9)
          refine ⟨by simp, .inl ⟨_, _, rfl, run_takeDeferred (unhide HK8), ?_⟩⟩
          refine ⟨.tuple #[.agg #[.int .i64 (zC).stage, .slice none 0 0, .int .i64 (zC).regs, .int .i64 (zC).attr, .int .i64 (zC).unif, .int .i64 (zC).vary], .int .i64 261], results_cellTmp Try.results7 _ _ w.heap.size 26 #[.int .i64 (zC).stage, .slice none 0 0, .int .i64 (zC).regs, .int .i64 (zC).attr, .int .i64 (zC).unif, .int .i64 (zC).vary] _ rfl (.int .i64 261) rfl ?_ Try.underlying26 rfl size6, xs.length, (unhide HGO).1, (unhide HGO).2, ?_, .inr ⟨?_, rfl⟩⟩
          · exact blk_keptC ((unhide HZ9).rowC) (grown_put _) (fun r e => by cases e; exact ⟨_, unhide HK8, rfl⟩)
          · exact (show Below w.heap.size w _ from extRow (unhide HX9) (Nat.le_refl _)).trans (belowK_b (w := w) (Nat.le_refl _) _ D _ _ (by omega) (unhide HK8) rfl rfl)
          · have hN := unhide HNOT
            first
            | exact hN
            | (intro a1 a2 a3
               cases hq : mayP (codR bs xs.length) with
               | false => rfl
               | true => exact (hN ⟨a1, a2, a3, hq⟩).elim)
        case true =>
        cases mb
        case false =>
          have HNOT : Hid (¬ ((insS bs (rdS bs 0 0 7).1 (rdS bs 0 0 7).2 xs.length).2 = 0 ∧ V 0 = 1128353872 ∧ V 6 = (xs.length : Int) ∧ mayP (codR bs xs.length) = true)) := fun h => by
            have := (unhide EMB).symm.trans h.2.2.2
            cases this
          refine wp_region_noPanic ?_
          refine wp_region_held_drew (S := fun wx => Ext W wx) (by kernel_rfl) ((Ext.refl _).drew) (fun HS => ?_)
          refine wpAnyH_take (i := 0) (oi := { dst := some 35, op := Op.move (Operand.tmp 4), type := _, pos := _, after := _, guard := none }) (v := .pointer (some ⟨rb, 0, none⟩)) rfl (by kernel_rfl) (by kernel_rfl) (by kernel_rfl) (fun _ _ _ h => h) (Or.inl ⟨by rfl, fun _ _ => rfl⟩) HS ?_
          simp only [Act.put, List.setIfInBounds_toArray, List.set_cons_zero, List.set_cons_succ]
          refine wpAnyH_ready (rs := [1]) (by kernel_rfl) (by simp) (AllReadyH.cons (o := { dst := some 36, op := Op.call { callee := Callee.value (Operand.func _), args := #[Operand.tmp 35], argTypes := _ }, type := _, pos := _, after := _, guard := none }) rfl (fun KK hK => ?_) AllReadyH.nil)
          go_simp
          refine (unhide HER _ HS).mono ?_
          rintro e ws ⟨rfl, hxs⟩
          have HS2 := Ext.trans HS hxs
          clear hxs HS
          have HS := HS2
          clear HS2
          refine hK.out _ _ HS (fun _ => ?_)
          clear hK KK
          try simp only [Act.put, List.setIfInBounds_toArray, List.set_cons_zero, List.set_cons_succ]
          refine wpAnyH_take (i := 2) (oi := { dst := some 37, op := Op.binOp BinOp.neq _ (Operand.tmp 36) (Operand.const (Value.int IntKind.i64 0)) _, type := _, pos := _, after := _, guard := none }) (v := .bool false) rfl (by kernel_rfl) (by kernel_rfl) (by kernel_rfl) (fun _ _ _ h => h) (Or.inl ⟨by rfl, fun wx hx => by go_simp⟩) HS ?_
          simp only [Act.put, List.setIfInBounds_toArray, List.set_cons_zero, List.set_cons_succ]
          refine wpAnyH_take (i := 3) (oi := { dst := some 38, op := Op.move (Operand.tmp 37), type := _, pos := _, after := _, guard := none }) (v := .bool false) rfl (by kernel_rfl) (by kernel_rfl) (by kernel_rfl) (fun _ _ _ h => h) (Or.inl ⟨by rfl, fun _ _ => rfl⟩) HS ?_
          simp only [Act.put, List.setIfInBounds_toArray, List.set_cons_zero, List.set_cons_succ]
          refine wpAnyH_take (i := 4) (oi := { dst := some 39, op := Op.load _ (Operand.tmp 7), type := _, pos := _, after := _, guard := some (3, false) }) (v := .agg #[.int .i64 (V 1), .slice ao9 xs.length cap9, .int .i64 (V 2), .int .i64 (V 3), .int .i64 (V 4), .int .i64 (V 5)]) rfl (by kernel_rfl) (by kernel_rfl) (by kernel_rfl) (fun _ _ _ h => h) (yieldsIf_load_mid (by rfl) 26 (.tmp 7) rfl B7 0 rfl [.int .i64 (V 1), .slice ao9 xs.length cap9, .int .i64 (V 2), .int .i64 (V 3), .int .i64 (V 4), .int .i64 (V 5)] _ (fun wx hx => ((unhide HB7).ext hx).rng) Try.underlying26 rfl size6) HS ?_
          simp only [Act.put, List.setIfInBounds_toArray, List.set_cons_zero, List.set_cons_succ]
          refine wpAnyH_take (i := 6) (oi := { dst := some 41, op := Op.load _ (Operand.tmp 5), type := _, pos := _, after := _, guard := some (3, false) }) (v := .agg (hdV V)) rfl (by kernel_rfl) (by kernel_rfl) (by kernel_rfl) (fun _ _ _ h => h) (yieldsIf_load_mid (by rfl) 52 (.tmp 5) rfl Bh 0 rfl (hdV V).toList _ (fun wx hx => ((unhide HBh).ext hx).rng) Try.underlying52 rfl size7) HS ?_
          simp only [Act.put, List.setIfInBounds_toArray, List.set_cons_zero, List.set_cons_succ]
          refine wpAnyH_ready (rs := [5]) (by kernel_rfl) (by simp) (AllReadyH.cons (o := { dst := some 40, op := Op.call { callee := Callee.value (Operand.func _), args := #[Operand.tmp 39], argTypes := _ }, type := _, pos := _, after := _, guard := some (3, false) }) rfl (fun KK hK => ?_) AllReadyH.nil)
          go_simp
          refine (headOf_any ⟨V 1, V 2, V 3, V 4, V 5, xs⟩ ao9 xs.length cap9 _).mono ?_
          rintro e ws ⟨rfl, hxs⟩
          have HS2 := Ext.trans HS hxs
          clear hxs HS
          have HS := HS2
          clear HS2
          refine hK.out _ _ HS (fun _ => ?_)
          clear hK KK
          try simp only [Act.put, List.setIfInBounds_toArray, List.set_cons_zero, List.set_cons_succ]
          refine wpAnyH_take (i := 7) (oi := { dst := some 42, op := Op.binOp BinOp.neq _ (Operand.tmp 40) (Operand.tmp 41) _, type := _, pos := _, after := _, guard := some (3, false) }) (v := .bool false) rfl (by kernel_rfl) (by kernel_rfl) (by kernel_rfl) (fun _ _ _ h => h) (Or.inl ⟨by rfl, fun wx hx => exec_ne _ _ (.tmp 40) (.tmp 41) _ _ _ _ true rfl rfl rfl grd7 (unhide HEQ wx)⟩) HS ?_
          simp only [Act.put, List.setIfInBounds_toArray, List.set_cons_zero, List.set_cons_succ]
          refine wpAnyH_take (i := 8) (oi := { dst := some 43, op := Op.pick (Operand.tmp 38) (Operand.const (Value.bool true)) (Operand.tmp 42), type := _, pos := _, after := _, guard := none }) (v := .bool false) rfl (by kernel_rfl) (by kernel_rfl) (by kernel_rfl) (fun _ _ _ h => h) (Or.inl ⟨by rfl, fun _ _ => rfl⟩) HS ?_
          simp only [Act.put, List.setIfInBounds_toArray, List.set_cons_zero, List.set_cons_succ]
          refine wpAnyH_take (i := 9) (oi := { dst := some 44, op := Op.move (Operand.tmp 43), type := _, pos := _, after := _, guard := none }) (v := .bool false) rfl (by kernel_rfl) (by kernel_rfl) (by kernel_rfl) (fun _ _ _ h => h) (Or.inl ⟨by rfl, fun _ _ => rfl⟩) HS ?_
          simp only [Act.put, List.setIfInBounds_toArray, List.set_cons_zero, List.set_cons_succ]
          refine wpAnyH_take (i := 10) (oi := { dst := some 45, op := Op.load _ (Operand.tmp 7), type := _, pos := _, after := _, guard := some (9, false) }) (v := .agg #[.int .i64 (V 1), .slice ao9 xs.length cap9, .int .i64 (V 2), .int .i64 (V 3), .int .i64 (V 4), .int .i64 (V 5)]) rfl (by kernel_rfl) (by kernel_rfl) (by kernel_rfl) (fun _ _ _ h => h) (yieldsIf_load_mid (by rfl) 26 (.tmp 7) rfl B7 0 rfl [.int .i64 (V 1), .slice ao9 xs.length cap9, .int .i64 (V 2), .int .i64 (V 3), .int .i64 (V 4), .int .i64 (V 5)] _ (fun wx hx => ((unhide HB7).ext hx).rng) Try.underlying26 rfl size6) HS ?_
          simp only [Act.put, List.setIfInBounds_toArray, List.set_cons_zero, List.set_cons_succ]
          refine wpAnyH_ready (rs := [11]) (by kernel_rfl) (by simp) (AllReadyH.cons (o := { dst := some 46, op := Op.call { callee := Callee.value (Operand.func _), args := #[Operand.tmp 45], argTypes := _ }, type := _, pos := _, after := _, guard := some (9, false) }) rfl (fun KK hK => ?_) AllReadyH.nil)
          go_simp
          refine (unhide HMB _ HS).mono ?_
          rintro e ws ⟨rfl, hxs⟩
          have HS2 := Ext.trans HS hxs
          clear hxs HS
          have HS := HS2
          clear HS2
          refine hK.out _ _ HS (fun _ => ?_)
          clear hK KK
          try simp only [Act.put, List.setIfInBounds_toArray, List.set_cons_zero, List.set_cons_succ]
          refine wpAnyH_take (i := 12) (oi := { dst := some 47, op := Op.unOp UnOp.not 4 (Operand.tmp 46), type := _, pos := _, after := _, guard := some (9, false) }) (v := .bool true) rfl (by kernel_rfl) (by kernel_rfl) (by kernel_rfl) (fun _ _ _ h => h) (Or.inl ⟨by rfl, fun _ _ => rfl⟩) HS ?_
          simp only [Act.put, List.setIfInBounds_toArray, List.set_cons_zero, List.set_cons_succ]
          refine wpAnyH_take (i := 13) (oi := { dst := some 48, op := Op.pick (Operand.tmp 44) (Operand.const (Value.bool true)) (Operand.tmp 47), type := _, pos := _, after := _, guard := none }) (v := .bool true) rfl (by kernel_rfl) (by kernel_rfl) (by kernel_rfl) (fun _ _ _ h => h) (Or.inl ⟨by rfl, fun _ _ => rfl⟩) HS ?_
          simp only [Act.put, List.setIfInBounds_toArray, List.set_cons_zero, List.set_cons_succ]
          refine wpAnyH_done (by kernel_rfl) ?_ _
          refine NoPanic.normal ?_
          have HZ9 := hide ((unhide HZ).ext HS)
          have HK9 := hide (((Below.block HS D (Array.getElem?_eq_some_iff.1 (unhide HK)).1)).trans (unhide HK))
          have HX9 := hide ((unhide HXW).trans HS)
          go_wp2_with (first
            | refine wpList_buildTo rfl 26 _ rfl (some 49) rfl #[.int .i64 (zC).stage, .slice none 0 0, .int .i64 (zC).regs, .int .i64 (zC).attr, .int .i64 (zC).unif, .int .i64 (zC).vary] (by kernel_rfl) ?_
            | refine wpList_store_row rfl 26 (.tmp 2) (.tmp 49) rfl w.heap.size #[.int .i64 (zC).stage, .slice none 0 0, .int .i64 (zC).regs, .int .i64 (zC).attr, .int .i64 (zC).unif, .int .i64 (zC).vary] rfl rfl 26 _ (unhide HZ9) size6 rfl (by simp [Value.oneCell']) ?_)
          have HK8 : Hid ((World.setRow _ w.heap.size #[.int .i64 (zC).stage, .slice none 0 0, .int .i64 (zC).regs, .int .i64 (zC).attr, .int .i64 (zC).unif, .int .i64 (zC).vary]).heap[D]? = some (.deferred (some []))) := (setRow_other _ w.heap.size D #[.int .i64 (zC).stage, .slice none 0 0, .int .i64 (zC).regs, .int .i64 (zC).attr, .int .i64 (zC).unif, .int .i64 (zC).vary] (by omega)).trans (unhide HK9)
          refine ⟨by simp, .inl ⟨_, _, rfl, run_takeDeferred (unhide HK8), ?_⟩⟩
          refine ⟨.tuple #[.agg #[.int .i64 (zC).stage, .slice none 0 0, .int .i64 (zC).regs, .int .i64 (zC).attr, .int .i64 (zC).unif, .int .i64 (zC).vary], .int .i64 261], results_cellTmp Try.results7 _ _ w.heap.size 26 #[.int .i64 (zC).stage, .slice none 0 0, .int .i64 (zC).regs, .int .i64 (zC).attr, .int .i64 (zC).unif, .int .i64 (zC).vary] _ rfl (.int .i64 261) rfl ?_ Try.underlying26 rfl size6, xs.length, (unhide HGO).1, (unhide HGO).2, ?_, .inr ⟨?_, rfl⟩⟩
          · exact blk_keptC ((unhide HZ9).rowC) (grown_put _) (fun r e => by cases e; exact ⟨_, unhide HK8, rfl⟩)
          · exact (show Below w.heap.size w _ from extRow (unhide HX9) (Nat.le_refl _)).trans (belowK_b (w := w) (Nat.le_refl _) _ D _ _ (by omega) (unhide HK8) rfl rfl)
          · have hN := unhide HNOT
            first
            | exact hN
            | (intro a1 a2 a3
               cases hq : mayP (codR bs xs.length) with
               | false => rfl
               | true => exact (hN ⟨a1, a2, a3, hq⟩).elim)
        case true =>
          have HYES : Hid ((insS bs (rdS bs 0 0 7).1 (rdS bs 0 0 7).2 xs.length).2 = 0 ∧ V 0 = 1128353872 ∧ V 6 = (xs.length : Int) ∧ mayP (codR bs xs.length) = true) := ⟨unhide EER, ((unhide HSM).1 rfl).1, ((unhide HSM).1 rfl).2, unhide EMB⟩
          refine wp_region_noPanic ?_
          refine wp_region_held_drew (S := fun wx => Ext W wx) (by kernel_rfl) ((Ext.refl _).drew) (fun HS => ?_)
          refine wpAnyH_take (i := 0) (oi := { dst := some 35, op := Op.move (Operand.tmp 4), type := _, pos := _, after := _, guard := none }) (v := .pointer (some ⟨rb, 0, none⟩)) rfl (by kernel_rfl) (by kernel_rfl) (by kernel_rfl) (fun _ _ _ h => h) (Or.inl ⟨by rfl, fun _ _ => rfl⟩) HS ?_
          simp only [Act.put, List.setIfInBounds_toArray, List.set_cons_zero, List.set_cons_succ]
          refine wpAnyH_ready (rs := [1]) (by kernel_rfl) (by simp) (AllReadyH.cons (o := { dst := some 36, op := Op.call { callee := Callee.value (Operand.func _), args := #[Operand.tmp 35], argTypes := _ }, type := _, pos := _, after := _, guard := none }) rfl (fun KK hK => ?_) AllReadyH.nil)
          go_simp
          refine (unhide HER _ HS).mono ?_
          rintro e ws ⟨rfl, hxs⟩
          have HS2 := Ext.trans HS hxs
          clear hxs HS
          have HS := HS2
          clear HS2
          refine hK.out _ _ HS (fun _ => ?_)
          clear hK KK
          try simp only [Act.put, List.setIfInBounds_toArray, List.set_cons_zero, List.set_cons_succ]
          refine wpAnyH_take (i := 2) (oi := { dst := some 37, op := Op.binOp BinOp.neq _ (Operand.tmp 36) (Operand.const (Value.int IntKind.i64 0)) _, type := _, pos := _, after := _, guard := none }) (v := .bool false) rfl (by kernel_rfl) (by kernel_rfl) (by kernel_rfl) (fun _ _ _ h => h) (Or.inl ⟨by rfl, fun wx hx => by go_simp⟩) HS ?_
          simp only [Act.put, List.setIfInBounds_toArray, List.set_cons_zero, List.set_cons_succ]
          refine wpAnyH_take (i := 3) (oi := { dst := some 38, op := Op.move (Operand.tmp 37), type := _, pos := _, after := _, guard := none }) (v := .bool false) rfl (by kernel_rfl) (by kernel_rfl) (by kernel_rfl) (fun _ _ _ h => h) (Or.inl ⟨by rfl, fun _ _ => rfl⟩) HS ?_
          simp only [Act.put, List.setIfInBounds_toArray, List.set_cons_zero, List.set_cons_succ]
          refine wpAnyH_take (i := 4) (oi := { dst := some 39, op := Op.load _ (Operand.tmp 7), type := _, pos := _, after := _, guard := some (3, false) }) (v := .agg #[.int .i64 (V 1), .slice ao9 xs.length cap9, .int .i64 (V 2), .int .i64 (V 3), .int .i64 (V 4), .int .i64 (V 5)]) rfl (by kernel_rfl) (by kernel_rfl) (by kernel_rfl) (fun _ _ _ h => h) (yieldsIf_load_mid (by rfl) 26 (.tmp 7) rfl B7 0 rfl [.int .i64 (V 1), .slice ao9 xs.length cap9, .int .i64 (V 2), .int .i64 (V 3), .int .i64 (V 4), .int .i64 (V 5)] _ (fun wx hx => ((unhide HB7).ext hx).rng) Try.underlying26 rfl size6) HS ?_
          simp only [Act.put, List.setIfInBounds_toArray, List.set_cons_zero, List.set_cons_succ]
          refine wpAnyH_take (i := 6) (oi := { dst := some 41, op := Op.load _ (Operand.tmp 5), type := _, pos := _, after := _, guard := some (3, false) }) (v := .agg (hdV V)) rfl (by kernel_rfl) (by kernel_rfl) (by kernel_rfl) (fun _ _ _ h => h) (yieldsIf_load_mid (by rfl) 52 (.tmp 5) rfl Bh 0 rfl (hdV V).toList _ (fun wx hx => ((unhide HBh).ext hx).rng) Try.underlying52 rfl size7) HS ?_
          simp only [Act.put, List.setIfInBounds_toArray, List.set_cons_zero, List.set_cons_succ]
          refine wpAnyH_ready (rs := [5]) (by kernel_rfl) (by simp) (AllReadyH.cons (o := { dst := some 40, op := Op.call { callee := Callee.value (Operand.func _), args := #[Operand.tmp 39], argTypes := _ }, type := _, pos := _, after := _, guard := some (3, false) }) rfl (fun KK hK => ?_) AllReadyH.nil)
          go_simp
          refine (headOf_any ⟨V 1, V 2, V 3, V 4, V 5, xs⟩ ao9 xs.length cap9 _).mono ?_
          rintro e ws ⟨rfl, hxs⟩
          have HS2 := Ext.trans HS hxs
          clear hxs HS
          have HS := HS2
          clear HS2
          refine hK.out _ _ HS (fun _ => ?_)
          clear hK KK
          try simp only [Act.put, List.setIfInBounds_toArray, List.set_cons_zero, List.set_cons_succ]
          refine wpAnyH_take (i := 7) (oi := { dst := some 42, op := Op.binOp BinOp.neq _ (Operand.tmp 40) (Operand.tmp 41) _, type := _, pos := _, after := _, guard := some (3, false) }) (v := .bool false) rfl (by kernel_rfl) (by kernel_rfl) (by kernel_rfl) (fun _ _ _ h => h) (Or.inl ⟨by rfl, fun wx hx => exec_ne _ _ (.tmp 40) (.tmp 41) _ _ _ _ true rfl rfl rfl grd7 (unhide HEQ wx)⟩) HS ?_
          simp only [Act.put, List.setIfInBounds_toArray, List.set_cons_zero, List.set_cons_succ]
          refine wpAnyH_take (i := 8) (oi := { dst := some 43, op := Op.pick (Operand.tmp 38) (Operand.const (Value.bool true)) (Operand.tmp 42), type := _, pos := _, after := _, guard := none }) (v := .bool false) rfl (by kernel_rfl) (by kernel_rfl) (by kernel_rfl) (fun _ _ _ h => h) (Or.inl ⟨by rfl, fun _ _ => rfl⟩) HS ?_
          simp only [Act.put, List.setIfInBounds_toArray, List.set_cons_zero, List.set_cons_succ]
          refine wpAnyH_take (i := 9) (oi := { dst := some 44, op := Op.move (Operand.tmp 43), type := _, pos := _, after := _, guard := none }) (v := .bool false) rfl (by kernel_rfl) (by kernel_rfl) (by kernel_rfl) (fun _ _ _ h => h) (Or.inl ⟨by rfl, fun _ _ => rfl⟩) HS ?_
          simp only [Act.put, List.setIfInBounds_toArray, List.set_cons_zero, List.set_cons_succ]
          refine wpAnyH_take (i := 10) (oi := { dst := some 45, op := Op.load _ (Operand.tmp 7), type := _, pos := _, after := _, guard := some (9, false) }) (v := .agg #[.int .i64 (V 1), .slice ao9 xs.length cap9, .int .i64 (V 2), .int .i64 (V 3), .int .i64 (V 4), .int .i64 (V 5)]) rfl (by kernel_rfl) (by kernel_rfl) (by kernel_rfl) (fun _ _ _ h => h) (yieldsIf_load_mid (by rfl) 26 (.tmp 7) rfl B7 0 rfl [.int .i64 (V 1), .slice ao9 xs.length cap9, .int .i64 (V 2), .int .i64 (V 3), .int .i64 (V 4), .int .i64 (V 5)] _ (fun wx hx => ((unhide HB7).ext hx).rng) Try.underlying26 rfl size6) HS ?_
          simp only [Act.put, List.setIfInBounds_toArray, List.set_cons_zero, List.set_cons_succ]
          refine wpAnyH_ready (rs := [11]) (by kernel_rfl) (by simp) (AllReadyH.cons (o := { dst := some 46, op := Op.call { callee := Callee.value (Operand.func _), args := #[Operand.tmp 45], argTypes := _ }, type := _, pos := _, after := _, guard := some (9, false) }) rfl (fun KK hK => ?_) AllReadyH.nil)
          go_simp
          refine (unhide HMB _ HS).mono ?_
          rintro e ws ⟨rfl, hxs⟩
          have HS2 := Ext.trans HS hxs
          clear hxs HS
          have HS := HS2
          clear HS2
          refine hK.out _ _ HS (fun _ => ?_)
          clear hK KK
          try simp only [Act.put, List.setIfInBounds_toArray, List.set_cons_zero, List.set_cons_succ]
          refine wpAnyH_take (i := 12) (oi := { dst := some 47, op := Op.unOp UnOp.not 4 (Operand.tmp 46), type := _, pos := _, after := _, guard := some (9, false) }) (v := .bool false) rfl (by kernel_rfl) (by kernel_rfl) (by kernel_rfl) (fun _ _ _ h => h) (Or.inl ⟨by rfl, fun _ _ => rfl⟩) HS ?_
          simp only [Act.put, List.setIfInBounds_toArray, List.set_cons_zero, List.set_cons_succ]
          refine wpAnyH_take (i := 13) (oi := { dst := some 48, op := Op.pick (Operand.tmp 44) (Operand.const (Value.bool true)) (Operand.tmp 47), type := _, pos := _, after := _, guard := none }) (v := .bool false) rfl (by kernel_rfl) (by kernel_rfl) (by kernel_rfl) (fun _ _ _ h => h) (Or.inl ⟨by rfl, fun _ _ => rfl⟩) HS ?_
          simp only [Act.put, List.setIfInBounds_toArray, List.set_cons_zero, List.set_cons_succ]
          refine wpAnyH_done (by kernel_rfl) ?_ _
          refine NoPanic.normal ?_
          have HZ9 := hide ((unhide HZ).ext HS)
          have HB9 := hide ((unhide HB7).ext HS)
          have HIO9 := hide (((unhide HIO).ext HS).low (b2 := w.heap.size) (by omega))
          have HK9 := hide (((Below.block HS D (Array.getElem?_eq_some_iff.1 (unhide HK)).1)).trans (unhide HK))
          have HX9 := hide ((unhide HXW).trans HS)
          go_wp2_with (first
            | refine wpList_load_row rfl 26 (.tmp 7) rfl B7 rfl 26 #[.int .i64 (V 1), .slice ao9 xs.length cap9, .int .i64 (V 2), .int .i64 (V 3), .int .i64 (V 4), .int .i64 (V 5)] (0, 0) _ (unhide HB9) Try.underlying26 rfl size6 ?_
            | refine wpList_store_row rfl 26 (.tmp 2) (.tmp 50) rfl w.heap.size #[.int .i64 (V 1), .slice ao9 xs.length cap9, .int .i64 (V 2), .int .i64 (V 3), .int .i64 (V 4), .int .i64 (V 5)] rfl rfl 26 _ (unhide HZ9) size6 rfl (by simp [Value.oneCell']) ?_)
          have HK8 : Hid ((World.setRow _ w.heap.size #[.int .i64 (V 1), .slice ao9 xs.length cap9, .int .i64 (V 2), .int .i64 (V 3), .int .i64 (V 4), .int .i64 (V 5)]).heap[D]? = some (.deferred (some []))) := (setRow_other _ w.heap.size D #[.int .i64 (V 1), .slice ao9 xs.length cap9, .int .i64 (V 2), .int .i64 (V 3), .int .i64 (V 4), .int .i64 (V 5)] (by omega)).trans (unhide HK9)
          refine ⟨by simp, .inl ⟨_, _, rfl, run_takeDeferred (unhide HK8), ?_⟩⟩
          refine ⟨.tuple #[.agg #[.int .i64 (V 1), .slice ao9 xs.length cap9, .int .i64 (V 2), .int .i64 (V 3), .int .i64 (V 4), .int .i64 (V 5)], .int .i64 0], results_cellTmp Try.results7 _ _ w.heap.size 26 #[.int .i64 (V 1), .slice ao9 xs.length cap9, .int .i64 (V 2), .int .i64 (V 3), .int .i64 (V 4), .int .i64 (V 5)] _ rfl (.int .i64 0) rfl ?_ Try.underlying26 rfl size6, xs.length, (unhide HGO).1, (unhide HGO).2, ?_, .inl ⟨(unhide HYES).1, (unhide HYES).2.1, (unhide HYES).2.2.1, (unhide HYES).2.2.2, ao9, cap9, ?_, ?_⟩⟩
          · exact blk_keptC ((unhide HZ9).rowC) (grown_put _) (fun r e => by cases e; exact ⟨_, unhide HK8, rfl⟩)
          · exact (show Below w.heap.size w _ from extRow (unhide HX9) (Nat.le_refl _)).trans (belowK_b (w := w) (Nat.le_refl _) _ D _ _ (by omega) (unhide HK8) rfl rfl)
          · rw [unhide ECR xs.length]
          · rw [unhide ECR xs.length, ← unhide HXS]
            exact ((unhide HIO9).kept9 (grownBy_row _ _ _) ((unhide HIO9).neB (unhide HZ9) (by decide))).keptC (grown_put _) (fun r e => by cases e; exact ⟨_, unhide HK8, rfl⟩)
end Go.Proofs.Ytfoffnbkfnbglaa
