/-
  Pixels: the walks of find and of Size.
-/
import Derived.Test.YtpjapdifmfpcnaaPB
import Derived.Laws.CopyOwn
namespace Go.Proofs.Ytpjapdifmfpcnaa
set_option maxRecDepth 100000
open Go.RowKit

theorem size60 : (Try.prog.info? 75).map (·.size) = some 19 := by kernel_rfl
theorem Blk.at {w : World} {b : Nat} {cs : Array Value} {t : TypeId} (h : w.heap.size = b) : Blk (w.alloc (.cells cs t)) b cs t := h ▸ Blk.new w cs t
theorem Blk.row {w : World} {b : Nat} {cs cs' : Array Value} {t : TypeId} (h : Blk w b cs t) : Blk (w.setRow b cs') b cs' t := setRow_heap w b cs cs' t (0, 0) h
theorem Blk.rowOther {w : World} {b r : Nat} {cs cs' : Array Value} {t : TypeId} (h : Blk w b cs t) (hne : b ≠ r) : Blk (w.setRow r cs') b cs t := (setRow_other w r b cs' hne).trans h
theorem ext_row {w w1 : World} {b : Nat} {cs : Array Value} (h : Ext w w1) (hb : w.heap.size ≤ b) : Ext w (w1.setRow b cs) := below_setRow h hb cs

section
variable {P : Program} {w : World} {ops : Array Oper} {rest : List Oper} {o : Oper} {a : Act} {Q : Exit → Act → World → Prop}
/-- A whole value laid into the block that was made last. -/
theorem wpList_store_last (hgd : o.guard = none) (ty : TypeId) (x y : Operand) (ho : o.op = .store ty x y) (old : Array Value) (hx : a.eval x = .pointer (some ⟨w.heap.size, 0, none⟩)) (cells : Array Value) (hy : a.eval y = .agg cells)
    (n : Nat) (hi : (P.info? ty).map (·.size) = some n) (hn : cells.size = n) (hold : old.size = n) (h1 : cells.all (·.oneCell') = true) (h : wpList P ops Q rest (a.put o.dst undef) (w.alloc (.cells cells ty))) :
    wpList P ops Q (o :: rest) a (w.alloc (.cells old ty)) := by
  refine wpList_store_row hgd ty x y ho w.heap.size cells hx hy ty old (heap_alloc_last w _) (by rw [hi, hn]) (by omega) h1 ?_
  rw [World.setRow_alloc_new]
  exact h
theorem results_cell_tmp {fn : Func} {p q : Tmp} {ty : TypeId} (h : fn.results = #[.cell p ty, .tmp q]) (tmps : Array Value) (w : World) (g : Nat) (t : TypeId) (cs : Array Value) (d : TypeDesc)
    (hp : tmps.getD p undef = .pointer (some ⟨g, 0, none⟩)) (v : Value) (hv : tmps.getD q undef = v) (hg : Blk w g cs t)
    (hu : P.underlying ty = some d) (hd : (match d with | .struct _ | .array _ _ => true | _ => false) = true) (hi : (P.info? ty).map (·.size) = some cs.size) :
    (results fn tmps).run P w = .ok (.tuple #[.agg cs, v]) w := by
  have hp' : tmps[p]?.getD undef = .pointer (some ⟨g, 0, none⟩) := by simpa using hp
  have hv' : tmps[q]?.getD undef = v := by simpa using hv
  simp [results, h, hp', hv', asAddr, run_loadVar_row w g t ty cs (0, 0) d hg hu hd hi]
end

set_option maxHeartbeats 1000000 in
theorem find_any (f : Nat) (w : World) (h1 : 1 ≤ f) (h7 : f ≤ 7) :
    Calls Try.prog 48 #[.int .i64 (f : Int)] w fun e w' => e = .returned (.tuple #[.agg (layF f), .int .i64 0]) ∧ Ext w w' := by
  go_enter Try.func48, Try.ntmps48
  go_wp2_with fail
  refine (formats_any _).mono ?_
  rintro e w1 ⟨rfl, rfl⟩
  go_wp2
  go_loopw [8] (fun i wr => ∃ k : Nat, k < f ∧ i = .int .i64 k ∧ Blk wr w.heap.size (layF 0) 75 ∧ Blk wr (w.heap.size + 1) fmts 75 ∧ Ext w wr) (fun i _ => 7 - (intOf i).toNat)
  case atStart => exact ⟨0, by omega, rfl, (Blk.at rfl).alloc _, Blk.at (by simp), ((Ext.refl w).alloc _).alloc _⟩
  case round =>
    obtain ⟨k, hk, rfl, hb0, hb1, hx⟩ := hrel
    have D := hide (And.intro hb0 (And.intro hb1 hx))
    clear hb0 hb1 hx
    have hk7 : (k : Int) < 7 := by omega
    have c0 : (wr.alloc (.cells (layF (k + 1)) 75)).cell? ⟨wr.heap.size, 0, none⟩ = some (.int .i64 ((k : Int) + 1)) := (Blk.at rfl).cell rfl
    by_cases hf : k + 1 = f
    · have hd : ((k : Int) + 1 == (f : Int)) = true := by simp; omega
      have HF := hide hf
      clear hf
      go_wp2_with (first
        | (refine wpList_load_mid rfl 75 (.tmp 10) rfl (w.heap.size + 1) (k * 19) rfl (layF (k + 1)).toList _ (range_fmts (unhide D).2.1 (by omega)) Try.underlying75 rfl size60 ?_; rw [Array.toArray_toList])
        | refine wpList_store_last rfl 75 (.tmp 5) (.tmp 11) rfl _ rfl (layF (k + 1)) rfl 19 size60 (layF_size _) rfl (layF_one _) ?_
        | refine wpList_load_row rfl 75 (.tmp 5) rfl wr.heap.size rfl 75 (layF (k + 1)) (0, 0) _ (heap_alloc_last wr _) Try.underlying75 rfl size60 ?_
        | refine wpList_store_row rfl 75 (.tmp 2) (.tmp 16) rfl w.heap.size (layF (k + 1)) rfl rfl 75 (layF 0) ((unhide D).1.alloc _) size60 rfl (layF_one _) ?_)
      have hf := unhide HF
      subst hf
      refine bodyPost_ret (v := .tuple #[.agg (layF (k + 1)), .int .i64 0]) (results_cell_tmp Try.results48 _ _ w.heap.size 75 _ _ rfl _ rfl (((unhide D).1.alloc _).row) Try.underlying75 rfl size60) rfl ⟨rfl, ?_⟩
      exact ext_row ((unhide D).2.2.alloc _) (Nat.le_refl _)
    · have hd : ((k : Int) + 1 == (f : Int)) = false := by simp; omega
      have HF := hide hf
      clear hf
      go_wp2_with (first
        | (refine wpList_load_mid rfl 75 (.tmp 10) rfl (w.heap.size + 1) (k * 19) rfl (layF (k + 1)).toList _ (range_fmts (unhide D).2.1 (by omega)) Try.underlying75 rfl size60 ?_; rw [Array.toArray_toList])
        | refine wpList_store_last rfl 75 (.tmp 5) (.tmp 11) rfl _ rfl (layF (k + 1)) rfl 19 size60 (layF_size _) rfl (layF_one _) ?_)
      go_roundw
      case rel => exact ⟨k + 1, by have := unhide HF; omega, by go_num, (unhide D).1.alloc _, (unhide D).2.1.alloc _, (unhide D).2.2.alloc _⟩
      case measure => simp [intOf]; omega

set_option maxHeartbeats 1000000 in
theorem find_bad (f : Int) (w : World) (h : f < 1 ∨ 7 < f) :
    Calls Try.prog 48 #[.int .i64 f] w fun e w' => e = .returned (.tuple #[.agg (layF 0), .int .i64 2]) ∧ Ext w w' := by
  go_enter Try.func48, Try.ntmps48
  go_wp2_with fail
  refine (formats_any _).mono ?_
  rintro e w1 ⟨rfl, rfl⟩
  go_wp2
  go_loopw [8] (fun i wr => ∃ k : Nat, k ≤ 7 ∧ i = .int .i64 k ∧ Blk wr w.heap.size (layF 0) 75 ∧ Blk wr (w.heap.size + 1) fmts 75 ∧ Ext w wr) (fun i _ => 7 - (intOf i).toNat)
  case atStart => exact ⟨0, by omega, rfl, (Blk.at rfl).alloc _, Blk.at (by simp), ((Ext.refl w).alloc _).alloc _⟩
  case round =>
    obtain ⟨k, hk, rfl, hb0, hb1, hx⟩ := hrel
    have D := hide (And.intro hb0 (And.intro hb1 hx))
    clear hb0 hb1 hx
    have c0 : (wr.alloc (.cells (layF (k + 1)) 75)).cell? ⟨wr.heap.size, 0, none⟩ = some (.int .i64 ((k : Int) + 1)) := (Blk.at rfl).cell rfl
    by_cases hk7 : (k : Int) < 7
    · have hd : ((k : Int) + 1 == f) = false := by simp; omega
      go_wp2_with (first
        | (refine wpList_load_mid rfl 75 (.tmp 10) rfl (w.heap.size + 1) (k * 19) rfl (layF (k + 1)).toList _ (range_fmts (unhide D).2.1 (by omega)) Try.underlying75 rfl size60 ?_; rw [Array.toArray_toList])
        | refine wpList_store_last rfl 75 (.tmp 5) (.tmp 11) rfl _ rfl (layF (k + 1)) rfl 19 size60 (layF_size _) rfl (layF_one _) ?_)
      go_roundw
      case rel => exact ⟨k + 1, by omega, by go_num, (unhide D).1.alloc _, (unhide D).2.1.alloc _, (unhide D).2.2.alloc _⟩
      case measure => simp [intOf]; omega
    · go_wp2_with (first
        | refine wpList_buildTo rfl 75 _ rfl (some 18) rfl (layF 0) (by kernel_rfl) ?_
        | refine wpList_store_row rfl 75 (.tmp 2) (.tmp 18) rfl w.heap.size (layF 0) rfl rfl 75 (layF 0) (unhide D).1 size60 rfl (layF_one _) ?_)
      refine bodyPost_ret (v := .tuple #[.agg (layF 0), .int .i64 2]) (results_cell_tmp Try.results48 _ _ w.heap.size 75 _ _ rfl _ rfl (unhide D).1.row Try.underlying75 rfl size60) rfl ⟨rfl, ?_⟩
      exact ext_row (unhide D).2.2 (Nat.le_refl _)

theorem siz_eq (f : Nat) : (siz f : Int) = sizI f := by
  match f with
  | 0 => rfl
  | 1 => rfl
  | 2 => rfl
  | 3 => rfl
  | 4 => rfl
  | 5 => rfl
  | 6 => rfl
  | 7 => rfl
  | n + 8 =>
    have : siz (n + 8) = 0 := rfl
    rw [this]
    unfold sizI
    rw [if_neg (by omega), if_neg (by omega), if_neg (by omega)]
    rfl
theorem siz_off {f : Int} (h : f < 1 ∨ 7 < f) : sizI f = 0 := by
  unfold sizI
  rw [if_neg (by omega), if_neg (by omega), if_neg (by omega)]

theorem size_any (f : Int) (w : World) :
    Calls Try.prog 25 #[.int .i64 f] w fun e w' => e = .returned (.int .i64 (sizI f)) ∧ Ext w w' := by
  by_cases h : f < 1 ∨ 7 < f
  · have hs := siz_off h
    rw [hs]
    go_enter Try.func25, Try.ntmps25
    go_wp2_with fail
    refine (find_bad f _ h).mono ?_
    rintro e w1 ⟨rfl, hx⟩
    have X := hide hx
    clear hx
    have c1 : (w1.alloc (.cells (layF 0) 75)).cell? ⟨w1.heap.size, 1, none⟩ = some (.int .i64 0) := (Blk.at rfl).cell rfl
    go_wp2_with (refine wpList_store_last rfl 75 (.tmp 3) (.tmp 8) rfl _ rfl (layF 0) rfl 19 size60 (layF_size _) rfl (layF_one _) ?_)
    go_ret
    exact ⟨rfl, (unhide X).alloc _⟩
  · obtain ⟨n, rfl⟩ := Int.eq_ofNat_of_zero_le (show 0 ≤ f by omega)
    have HS := hide (siz_eq n)
    go_enter Try.func25, Try.ntmps25
    go_wp2_with fail
    refine (find_any n _ (by omega) (by omega)).mono ?_
    rintro e w1 ⟨rfl, hx⟩
    have X := hide hx
    clear hx
    have c1 : (w1.alloc (.cells (layF n) 75)).cell? ⟨w1.heap.size, 1, none⟩ = some (.int .i64 (siz n : Int)) := (Blk.at rfl).cell rfl
    go_wp2_with (refine wpList_store_last rfl 75 (.tmp 3) (.tmp 8) rfl _ rfl (layF n) rfl 19 size60 (layF_size _) rfl (layF_one _) ?_)
    go_ret
    exact ⟨by rw [← unhide HS]; rfl, (unhide X).alloc _⟩
end Go.Proofs.Ytpjapdifmfpcnaa
