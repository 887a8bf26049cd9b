/-
  The document's signs: one, two.
-/
import Derived.Test.YtdcamcpffiilbaaDoorXY
import Derived.Lib.SlBytesConst
namespace Go.Proofs.YtdcamcpffiilbaaDoor
open Go.RowKit
set_option linter.unusedSimpArgs false
set_option linter.unusedVariables false
def oneA : Array Value := #[.int .u8 40, .int .u8 41, .int .u8 91, .int .u8 93, .int .u8 123, .int .u8 125, .int .u8 46, .int .u8 44, .int .u8 59, .int .u8 58, .int .u8 63, .int .u8 43, .int .u8 45, .int .u8 42, .int .u8 47, .int .u8 60, .int .u8 62, .int .u8 61, .int .u8 33, .int .u8 35]
theorem oneA_at (k : Nat) (hk : k < 20) : oneA[k]? = some (.int .u8 ((ones.getD k 0).toNat : Int)) := by
  have : ∀ k : Fin 20, oneA[k.1]? = some (.int .u8 ((ones.getD k.1 0).toNat : Int)) := by
    intro k
    rcases k with ⟨k, hk⟩
    rcases k with _ | _ | _ | _ | _ | _ | _ | _ | _ | _ | _ | _ | _ | _ | _ | _ | _ | _ | _ | _ | k
    all_goals first | rfl | omega
  exact this ⟨k, hk⟩
theorem cell_new (w : World) (C : Array Value) (e : TypeId) (m : Nat × Nat) (k : Nat) : (w.alloc (.cells C e m)).cell? ⟨w.heap.size, k, none⟩ = C[k]? := by
  have h : (w.alloc (.cells C e m)).heap[w.heap.size]? = some (.cells C e m) := by
    show (w.heap.push (.cells C e m))[w.heap.size]? = _
    simp
  unfold World.cell?
  simp only [h]
  exact if_neg (by simp)
theorem ones_step (c : UInt8) (k : Nat) (hk : k < 20) (h : ∀ b ∈ ones.take k, b ≠ c) (hne : ones.getD k 0 ≠ c) : ∀ b ∈ ones.take (k + 1), b ≠ c := by
  have hl : ones.length = 20 := rfl
  intro b hb
  rw [List.take_add_one] at hb
  rw [List.getD_eq_getElem?_getD, List.getElem?_eq_getElem (by omega)] at hne
  rw [List.getElem?_eq_getElem (by omega)] at hb
  simp only [Option.toList_some, List.mem_append, List.mem_singleton] at hb
  rcases hb with hb | rfl
  · exact h b hb
  · simpa using hne
set_option maxHeartbeats 1000000 in
set_option maxRecDepth 100000 in
theorem refOne_any (c : UInt8) (w : World) : Calls Tryd.prog 61 #[.int .u8 (c.toNat : Int)] w fun e w' => e = .returned (.bool (isOne c)) ∧ Ext w w' := by
  have kc := fun (w : World) (C : Array Value) (n c : Nat) => Lib.run_convert_bytes_const (P := Tryd.prog) w 87 5 C n c Tryd.underlying87 Tryd.underlying5
  obtain ⟨W, hW⟩ : ∃ W, W = w.alloc (.cells #[.int .u8 40, .int .u8 41, .int .u8 91, .int .u8 93, .int .u8 123, .int .u8 125, .int .u8 46, .int .u8 44, .int .u8 59, .int .u8 58, .int .u8 63, .int .u8 43, .int .u8 45, .int .u8 42, .int .u8 47, .int .u8 60, .int .u8 62, .int .u8 61, .int .u8 33, .int .u8 35] 5 (20, 21)) := ⟨_, rfl⟩
  have HX := hide (show Ext w W from hW ▸ (Ext.refl w).alloc _)
  have HC := hide (show ∀ k, k < 20 → W.cell? ⟨w.heap.size, k, none⟩ = some (.int .u8 ((ones.getD k 0).toNat : Int)) from fun k hk => by
    rw [hW]
    exact (cell_new w oneA 5 (20, 21) k).trans (oneA_at k hk))
  have HW := hide hW
  clear hW
  generalize hb : isOne c = b
  have HB := hide hb
  clear hb
  go_enter Tryd.func61, Tryd.ntmps61
  go_wp2
  clear kc
  rw [← unhide HW]
  clear HW
  go_loopw [8] (fun kv wr => ∃ k : Nat, k ≤ 20 ∧ kv = .int .i64 (k : Int) ∧ wr = W ∧ Hid (∀ b ∈ ones.take k, b ≠ c)) (fun kv _ => 20 - (intOf kv).toNat)
  case atStart => exact ⟨0, by omega, rfl, rfl, hide (by simp)⟩
  case round =>
    obtain ⟨k, hk, rfl, rfl, hno⟩ := hrel
    by_cases hlt : k < 20
    · have hc := unhide HC k hlt
      by_cases he : ones.getD k 0 = c
      · have hb : b = true := by
          rw [← unhide HB]
          have hl : ones.length = 20 := rfl
          rw [List.getD_eq_getElem?_getD, List.getElem?_eq_getElem (by omega)] at he
          have : c ∈ ones := by
            rw [← he]
            exact List.getElem_mem _
          simpa [isOne] using this
        rw [he] at hc
        have HBB := hide hb
        clear hb he
        go_wp2
        go_ret
        exact ⟨by rw [unhide HBB]; rfl, unhide HX⟩
      · have hne : (((ones.getD k 0).toNat : Int) == (c.toNat : Int)) = false := by
          rw [u8beq]
          simpa using he
        have hno2 := hide (ones_step c k hlt (unhide hno) he)
        clear he
        generalize (ones.getD k 0) = d at *
        go_wp2
        refine ⟨⟨k + 1, by omega, rfl, trivial, hno2⟩, ?_⟩
        simp [intOf]
        omega
    · have hk20 : k = 20 := by omega
      subst hk20
      have hb : b = false := by
        rw [← unhide HB]
        have h2 := unhide hno
        have : ¬ c ∈ ones := fun h3 => h2 c h3 rfl
        simpa [isOne] using this
      have HBB := hide hb
      clear hb
      go_wp2
      go_ret
      exact ⟨by rw [unhide HBB]; rfl, unhide HX⟩
def twoA : Array Value := #[.string ⟨#[61, 61]⟩, .string ⟨#[33, 61]⟩, .string ⟨#[60, 61]⟩, .string ⟨#[62, 61]⟩, .string ⟨#[38, 38]⟩, .string ⟨#[124, 124]⟩, .string ⟨#[43, 43]⟩, .string ⟨#[45, 45]⟩, .string ⟨#[43, 61]⟩, .string ⟨#[45, 61]⟩, .string ⟨#[42, 61]⟩, .string ⟨#[47, 61]⟩, .string ⟨#[61, 61]⟩]
def twx (k : Nat) : UInt8 := ([61, 33, 60, 62, 38, 124, 43, 45, 43, 45, 42, 47, 61] : Byts8).getD k 0
def twy (k : Nat) : UInt8 := ([61, 61, 61, 61, 38, 124, 43, 45, 61, 61, 61, 61, 61] : Byts8).getD k 0
set_option maxHeartbeats 1000000 in
set_option maxRecDepth 100000 in
theorem refTwo_any (w : World) : Calls Tryd.prog 60 #[] w fun e w' => e = .returned (.agg twoA) ∧ Ext w w' := by
  go_enter Tryd.func60, Tryd.ntmps60
  go_wp2
  exact bodyPost_ret (v := .agg twoA) (by simp [results, Tryd.results60, go_sem, twoA]) rfl ⟨rfl, (Ext.refl _).alloc _⟩
theorem two_at (k : Nat) (hk : k < 13) (w : World) : (Instr.index 89 (.agg twoA) (.int .i64 (k : Int))).run Tryd.prog w = .ok (.string ⟨#[twx k, twy k]⟩) w := by
  rcases k with _ | _ | _ | _ | _ | _ | _ | _ | _ | _ | _ | _ | _ | k
  case succ.succ.succ.succ.succ.succ.succ.succ.succ.succ.succ.succ.succ => omega
  all_goals kernel_rfl
end Go.Proofs.YtdcamcpffiilbaaDoor
