/-
  The walks of octet's numbers: number, U8 to I32, Raw, Skip. What the dump lacks is left out.
-/
import Derived.Test.YtmigakbccmkjoaaW2
import Derived.Test.YtmigakbccmkjoaaNum
namespace Go.Proofs.Ytmigakbccmkjoaa
open Go.RowKit

set_option maxHeartbeats 400000 in
theorem number_any {w : World} {rb : Nat} {sv : Value} {bs : List Int} {p : Nat} {err : Int} (h : Rd w rb sv bs p err) (n : Int) (hn : n ≤ 4) :
    Calls Try.prog 58 #[.pointer (some ⟨rb, 0, none⟩), .int .i64 n] w fun e w' =>
      e = .returned (.int .u32 (numOf (took bs p err n).1)) ∧ Rd w' rb sv bs (took bs p err n).2.1 (took bs p err n).2.2 ∧ w.grownBy w' (some rb) := by
  go_enter Try.func58, Try.ntmps58
  go_wp2_with fail
  refine (take_any h n).mono ?_
  rintro e w1 ⟨v, rfl, hr, hrd, hg⟩
  have hby := took_byt (p := p) (err := err) (n := n) h.byt
  have hlen := took_len (bs := bs) (p := p) (err := err) (n := n)
  have H := hide (And.intro hrd hg)
  clear hrd hg h
  generalize hcs : (took bs p err n) = t at *
  have HC := hide hcs
  clear hcs
  obtain ⟨cs, q, er⟩ := t
  simp only at hr hby hlen
  rcases hr with ⟨rfl, ao, cap, rfl, h0, hm⟩ | ⟨hne, b, off, cap, rfl, hl, hm, hc⟩
  · go_wp2
    refine wp_loop_rounds 1 ?_
    rw [rounds_succ]
    go_wp2
    go_ret
    rw [unhide HC]
    exact ⟨rfl, unhide H⟩
  · go_wp2
    go_loop [5, 12] (fun x i => ∃ k : Nat, k ≤ cs.length ∧ i = .int .i64 k ∧ x = .int .u32 (numOf (cs.take k))) (fun _ i => cs.length - (intOf i).toNat)
    case atStart => exact ⟨0, Nat.zero_le _, rfl, rfl⟩
    case round =>
      obtain ⟨k, hk, rfl, rfl⟩ := hrel
      by_cases hlt : k < cs.length
      · have hck := hc k hlt
        have hbk := hby.get k
        go_wp2
        go_round
        case rel => exact ⟨k + 1, by omega, by go_num, congrArg _ (num_step cs k hlt (by omega) hby)⟩
        case measure => simp [intOf]; omega
      · go_wp2
        go_ret
        have : k = cs.length := by omega
        subst this
        rw [unhide HC, List.take_length]
        exact ⟨rfl, unhide H⟩

set_option maxHeartbeats 400000 in
theorem u8_any {w : World} {rb : Nat} {sv : Value} {bs : List Int} {p : Nat} {err : Int} (h : Rd w rb sv bs p err) :
    Calls Try.prog 37 #[.pointer (some ⟨rb, 0, none⟩)] w fun e w' =>
      e = .returned (.int .u8 (numOf (took bs p err 1).1)) ∧ Rd w' rb sv bs (took bs p err 1).2.1 (took bs p err 1).2.2 ∧ w.grownBy w' (some rb) := by
  have hb : 0 ≤ numOf (took bs p err 1).1 ∧ numOf (took bs p err 1).1 < 256 := numOf_le _ (took_byt h.byt) 1 (by have := took_len (bs := bs) (p := p) (err := err) (n := 1); omega)
  have HN := hide (number_any h 1 (by omega))
  generalize numOf (took bs p err 1).1 = x at *
  obtain ⟨hx0, hx1⟩ := hb
  clear h
  go_enter Try.func37, Try.ntmps37
  go_wp2_with (go_at_call 58; refine (unhide HN).mono ?_; rintro e w1 ⟨rfl, H⟩; have HH := hide H; clear H)
  go_ret
  exact ⟨rfl, unhide (by assumption)⟩

set_option maxHeartbeats 400000 in
theorem u16_any {w : World} {rb : Nat} {sv : Value} {bs : List Int} {p : Nat} {err : Int} (h : Rd w rb sv bs p err) :
    Calls Try.prog 41 #[.pointer (some ⟨rb, 0, none⟩)] w fun e w' =>
      e = .returned (.int .u16 (numOf (took bs p err 2).1)) ∧ Rd w' rb sv bs (took bs p err 2).2.1 (took bs p err 2).2.2 ∧ w.grownBy w' (some rb) := by
  have hb : 0 ≤ numOf (took bs p err 2).1 ∧ numOf (took bs p err 2).1 < 65536 := numOf_le _ (took_byt h.byt) 2 (by have := took_len (bs := bs) (p := p) (err := err) (n := 2); omega)
  have HN := hide (number_any h 2 (by omega))
  generalize numOf (took bs p err 2).1 = x at *
  obtain ⟨hx0, hx1⟩ := hb
  clear h
  go_enter Try.func41, Try.ntmps41
  go_wp2_with (go_at_call 58; refine (unhide HN).mono ?_; rintro e w1 ⟨rfl, H⟩; have HH := hide H; clear H)
  go_ret
  exact ⟨rfl, unhide (by assumption)⟩

set_option maxHeartbeats 400000 in
theorem u32_any {w : World} {rb : Nat} {sv : Value} {bs : List Int} {p : Nat} {err : Int} (h : Rd w rb sv bs p err) :
    Calls Try.prog 59 #[.pointer (some ⟨rb, 0, none⟩)] w fun e w' =>
      e = .returned (.int .u32 (numOf (took bs p err 4).1)) ∧ Rd w' rb sv bs (took bs p err 4).2.1 (took bs p err 4).2.2 ∧ w.grownBy w' (some rb) := by
  have hb : 0 ≤ numOf (took bs p err 4).1 ∧ numOf (took bs p err 4).1 < 4294967296 := numOf_le _ (took_byt h.byt) 4 (by have := took_len (bs := bs) (p := p) (err := err) (n := 4); omega)
  have HN := hide (number_any h 4 (by omega))
  generalize numOf (took bs p err 4).1 = x at *
  obtain ⟨hx0, hx1⟩ := hb
  clear h
  go_enter Try.func59, Try.ntmps59
  go_wp2_with (go_at_call 58; refine (unhide HN).mono ?_; rintro e w1 ⟨rfl, H⟩; have HH := hide H; clear H)
  go_ret
  exact ⟨rfl, unhide (by assumption)⟩


set_option maxHeartbeats 400000 in
theorem i8_any {w : World} {rb : Nat} {sv : Value} {bs : List Int} {p : Nat} {err : Int} (h : Rd w rb sv bs p err) :
    Calls Try.prog 35 #[.pointer (some ⟨rb, 0, none⟩)] w fun e w' =>
      e = .returned (.int .i8 (sgn 128 (numOf (took bs p err 1).1))) ∧ Rd w' rb sv bs (took bs p err 1).2.1 (took bs p err 1).2.2 ∧ w.grownBy w' (some rb) := by
  have hb : 0 ≤ numOf (took bs p err 1).1 ∧ numOf (took bs p err 1).1 < 256 := numOf_le _ (took_byt h.byt) 1 (by have := took_len (bs := bs) (p := p) (err := err) (n := 1); omega)
  have HN := hide (u8_any h)
  generalize numOf (took bs p err 1).1 = x at *
  obtain ⟨hx0, hx1⟩ := hb
  clear h
  go_enter Try.func35, Try.ntmps35
  go_wp2_with (go_at_call 37; refine (unhide HN).mono ?_; rintro e w1 ⟨rfl, H⟩; have HH := hide H; clear H)
  go_ret
  exact ⟨ret_int (sgn8 hx0 hx1), unhide (by assumption)⟩

set_option maxHeartbeats 400000 in
theorem i16_any {w : World} {rb : Nat} {sv : Value} {bs : List Int} {p : Nat} {err : Int} (h : Rd w rb sv bs p err) :
    Calls Try.prog 39 #[.pointer (some ⟨rb, 0, none⟩)] w fun e w' =>
      e = .returned (.int .i16 (sgn 32768 (numOf (took bs p err 2).1))) ∧ Rd w' rb sv bs (took bs p err 2).2.1 (took bs p err 2).2.2 ∧ w.grownBy w' (some rb) := by
  have hb : 0 ≤ numOf (took bs p err 2).1 ∧ numOf (took bs p err 2).1 < 65536 := numOf_le _ (took_byt h.byt) 2 (by have := took_len (bs := bs) (p := p) (err := err) (n := 2); omega)
  have HN := hide (u16_any h)
  generalize numOf (took bs p err 2).1 = x at *
  obtain ⟨hx0, hx1⟩ := hb
  clear h
  go_enter Try.func39, Try.ntmps39
  go_wp2_with (go_at_call 41; refine (unhide HN).mono ?_; rintro e w1 ⟨rfl, H⟩; have HH := hide H; clear H)
  go_ret
  exact ⟨ret_int (sgn16 hx0 hx1), unhide (by assumption)⟩

set_option maxHeartbeats 400000 in
theorem i32_any {w : World} {rb : Nat} {sv : Value} {bs : List Int} {p : Nat} {err : Int} (h : Rd w rb sv bs p err) :
    Calls Try.prog 43 #[.pointer (some ⟨rb, 0, none⟩)] w fun e w' =>
      e = .returned (.int .i32 (sgn 2147483648 (numOf (took bs p err 4).1))) ∧ Rd w' rb sv bs (took bs p err 4).2.1 (took bs p err 4).2.2 ∧ w.grownBy w' (some rb) := by
  have hb : 0 ≤ numOf (took bs p err 4).1 ∧ numOf (took bs p err 4).1 < 4294967296 := numOf_le _ (took_byt h.byt) 4 (by have := took_len (bs := bs) (p := p) (err := err) (n := 4); omega)
  have HN := hide (u32_any h)
  generalize numOf (took bs p err 4).1 = x at *
  obtain ⟨hx0, hx1⟩ := hb
  clear h
  go_enter Try.func43, Try.ntmps43
  go_wp2_with (go_at_call 59; refine (unhide HN).mono ?_; rintro e w1 ⟨rfl, H⟩; have HH := hide H; clear H)
  go_ret
  exact ⟨ret_int (sgn32 hx0 hx1), unhide (by assumption)⟩

theorem grown_then {w w1 w2 : World} {rb : Nat} (hg : w.grownBy w1 (some rb)) (hb : Below w1.heap.size w1 w2) : w.grownBy w2 (some rb) :=
  ⟨hb.os.trans hg.os, hb.tape.trans hg.tape, hb.output.trans hg.output, Nat.le_trans hg.size hb.size, fun k hk hne => (hb.block k (Nat.lt_of_lt_of_le hk hg.size)).trans (hg.block k hk hne)⟩

end Go.Proofs.Ytmigakbccmkjoaa
