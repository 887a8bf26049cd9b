/-
  Bytes of the call's own, and texts: append of a text, a text of bytes.
-/
import Derived.Test.YtgoldmohmjjngaaXW
import Derived.Laws.BytesArg
import Derived.Lib.Bytes
import Derived.Lib.AppendStr
import Derived.Lib.LazyBuf
namespace Go.Proofs.Ytgoldmohmjjngaa
open Go.RowKit

def num8 (l : Byts8) : List Int := l.map fun b => (b.toNat : Int)
theorem num8_len (l : Byts8) : (num8 l).length = l.length := by simp [num8]
/-- The slice value v is the call's own and holds the bytes l. -/
def BO (w : World) (base : Nat) (v : Value) (l : Byts8) : Prop := Own .u8 w base 5 v (num8 l)
theorem BO.nil (w : World) (base : Nat) : BO w base (.slice none 0 0) [] := Own.nil _ _ _ _
theorem BO.shape {w : World} {base : Nat} {v : Value} {l : Byts8} (h : BO w base v l) : ∃ ao cap, v = .slice ao l.length cap := by
  obtain ⟨ao, cap, e⟩ := Own.shape h
  rw [num8_len] at e
  exact ⟨ao, cap, e⟩
theorem infoB : (Try.prog.info? 5).map (fun i => (i.zero, i.size, i.bytes)) = some (some (.int .u8 0), 1, 1) := by kernel_rfl

/-- 'append(bytes, text...)'. -/
theorem wpList_append_text {w : World} {ops : Array Oper} {rest : List Oper} {o : Oper} {a : Act} {Q : Exit → Act → World → Prop} (hgd : o.guard = none) (s x : Operand)
    (ho : o.op = .call { callee := .builtin .append, args := #[s, x], argTypes := #[39, 9] }) (base : Nat) (v : Value) (l : Byts8) (t : ByteArray) (hs : a.eval s = v) (hx : a.eval x = .string t)
    (hown : BO w base v l) (hL : l.length + t.size ≤ 140737488355328) (hbase : base ≤ w.heap.size)
    (h : ∀ ao cap w', BO w' base (.slice ao (l ++ t.data.toList).length cap) (l ++ t.data.toList) → w.grownBy w' v.ownBlock → wpList Try.prog ops Q rest (a.put o.dst (.slice ao (l ++ t.data.toList).length cap)) w') :
    wpList Try.prog ops Q (o :: rest) a w := by
  obtain ⟨i0, hi, hz0, hz1, hz2⟩ := info_parts3 infoB
  refine Lib.wpList_append_own_string w hgd s x 39 9 ho base 5 i0 Try.underlying39 Try.underlying9 hi hz0 hz1 hz2 v l.length ((num8 l).map (Value.int .u8)) hs (by rw [← num8_len l]; exact hown) t hx (by unfold maxLen; omega) hL hbase ?_
  intro v' w' h1 h2 _
  have h3 : BO w' base v' (l ++ t.data.toList) := by
    unfold BO Own
    have e1 : (num8 (l ++ t.data.toList)).length = l.length + t.size := by rw [num8_len, List.length_append, list_size]
    have e2 : (num8 (l ++ t.data.toList)).map (Value.int .u8) = (num8 l).map (Value.int .u8) ++ Lib.strCells t := by
      unfold num8 Lib.strCells
      rw [List.map_append, List.map_append, List.map_map, List.map_map]
      rfl
    rw [e1, e2]
    exact h1
  obtain ⟨ao, cap, rfl⟩ := h3.shape
  exact h ao cap w' h3 h2

theorem strNums (l : Byts8) : strOfNums (num8 l) = ⟨l.toArray⟩ := by
  unfold strOfNums num8
  rw [List.map_map]
  congr 1
  congr 1
  conv => rhs; rw [← List.map_id l]
  refine List.map_congr_left fun x _ => ?_
  simp
/-- A text of bytes. -/
theorem text_of (ao : Option Addr) (n cap : Nat) (l : Byts8) (w : World) (hr : Row .u8 w (.slice ao n cap) (num8 l)) (hl : n = l.length) : (convert 39 9 (.slice ao n cap)).run Try.prog w = .ok (.string ⟨l.toArray⟩) w := by
  rw [← strNums l]
  subst hl
  rcases hr with ⟨h0, ao', cap', hv, _⟩ | ⟨hne, b, off, cap', hv, _, _, hc⟩
  · have h1 : l = [] := by
      have := congrArg List.length h0
      rw [num8_len] at this
      exact List.length_eq_zero_iff.1 this
    subst h1
    rw [List.length_nil, run_convert_bytes_string w 39 9 5 _ 0 cap Try.underlying39 Try.underlying5 Try.underlying9]
    cases ao <;> simp [Conv.bytesToString, loadCells]
    all_goals rfl
  · rw [num8_len] at hv hc
    cases hv
    exact run_convert_bytes_arg (P := Try.prog) w 39 5 Try.underlying39 Try.underlying5 b off l.length cap (num8 l) (num8_len l) hc 9 Try.underlying9
end Go.Proofs.Ytgoldmohmjjngaa
