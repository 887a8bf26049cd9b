/-
  Several parts, parts in parentheses.
-/
import Derived.Test.YtjfhhhabcbkahaaGreatTI
import Derived.Test.YtjfhhhabcbkahaaGreatTK
namespace Go.Proofs.YtjfhhhabcbkahaaGreat
open Go.RowKit
set_option linter.unusedVariables false
set_option linter.unusedSimpArgs false

/-- 'append' in a row of operations, its run known. -/
theorem wpList_run {P : Program} {ops : Array Oper} {rest : List Oper} {o : Oper} {a : Act} {w w' : World} {Q : Exit → Act → World → Prop} (hgd : o.guard = none) (s x : Operand) (t : TypeId)
    (ho : o.op = .call { callee := .builtin .append, args := #[s, x], argTypes := #[t, t] }) {v vx v' : Value} (hs : a.eval s = v) (hx : a.eval x = vx) (hr : (Builtin.append_ #[t, t] o.type #[v, vx]).run P w = .ok v' w') (h : wpList P ops Q rest (a.put o.dst v') w') :
    wpList P ops Q (o :: rest) a w :=
  wpList_plain hgd fun _ hK => by
    unfold Oper.wp execOp
    simp only [ho, resolve, invoke, builtin, Sem.run_bind, Sem.run_pure, Result.andThen_ok, List.map_toArray, List.map_cons, List.map_nil, hs, hx, hr]
    exact hK _ _ h
def slLen : Value → Nat
  | .slice _ n _ => n
  | _ => 0
section
variable {w w' w'' : World} {pb : Nat} {L : List Tok} {tv lv : Value} {i j : Nat}
/-- A rule, as a function value is met: g is entered with the parser. -/
def Rules (pb : Nat) (L : List Tok) (tv lv : Value) (i : Nat) (g : FuncId) (rule : Nat → Rp) : Prop :=
  (∀ args w, (callFunc g args).run Tryz.prog w = .ok (.enter g args) w) ∧ (∀ j w', i ≤ j → j ≤ L.length → PE w' pb L tv lv j → Calls Tryz.prog g #[.pointer (some ⟨pb, 0, none⟩)] w' (RQ w' pb L tv lv w'.heap.size (rule j))) ∧ ∀ j, i ≤ j → j ≤ L.length → Adv L j (rule j)
theorem Rules.later {g : FuncId} {rule : Nat → Rp} (h : Rules pb L tv lv i g rule) (hj : i ≤ j) : Rules pb L tv lv j g rule := ⟨h.1, fun k w' h1 h2 => h.2.1 k w' (by omega) h2, fun k h1 h2 => h.2.2 k (by omega) h2⟩
set_option maxHeartbeats 2000000 in
set_option maxRecDepth 100000 in
theorem several_any (g : FuncId) (rule : Nat → Rp) (h : PE w pb L tv lv i) (hi : i ≤ L.length) (hL : L.length ≤ 100000000) (hr : Rules pb L tv lv i g rule) :
    Calls Tryz.prog 84 #[.pointer (some ⟨pb, 0, none⟩), .func (.func g) #[.pointer (some ⟨pb, 0, none⟩)] #[]] w (RLQ w pb L tv lv (sevP L rule i)) := by
  have HP := hide h
  have HR := hide hr
  have eg := hr.1
  have HC := hr.2.1 i w (Nat.le_refl _) hi h
  have ha := hr.2.2 i (Nat.le_refl _) hi
  have hpb := h.lt
  clear h hr
  obtain ⟨R, hR⟩ : ∃ R, sevP L rule i = R := ⟨_, rfl⟩
  rw [hR]
  unfold sevP at hR
  obtain ⟨R1, hR1⟩ : ∃ R1, rule i = R1 := ⟨_, rfl⟩
  rw [hR1] at HC ha hR
  obtain ⟨j, o⟩ := R1
  cases o with
  | none =>
    have hq : R = (j, none) := hR.symm
    have HC2 := hide HC
    have HQ := hide hq
    clear HC hq hR hR1
    go_enter Tryz.func84, Tryz.ntmps84
    go_wp2_with (go_at_fn g; refine (unhide HC2).mono ?_; rintro e w1 ⟨hs1, rfl⟩; have HS1 := hide hs1; clear hs1)
    exact ⟨rfl, RLQ.pan (unhide HS1) (unhide HQ)⟩
  | some x =>
    have hj : i ≤ j ∧ j ≤ L.length := ha.1
    have HC2 := hide HC
    have HQ : Hid (sevL L rule (L.length + 1) [x] j = R) := hR
    clear HC hR hR1 ha
    go_enter Tryz.func84, Tryz.ntmps84
    go_wp2_with (go_at_fn g; refine (unhide HC2).mono ?_; rintro e w1 ⟨hs1, b, rfl, hp1⟩; have HS1 := hide hs1; have HP1 := hide hp1; clear hs1 hp1)
    have hs1 := (unhide HS1).out.size
    have HW1 : Hid (PRs (w1.alloc (.cells #[.pointer (some ⟨b, 0, none⟩)] 53)) w.heap.size (w1.alloc (.cells #[.pointer (some ⟨b, 0, none⟩)] 53)).heap.size (fun _ => False) (.slice (some ⟨w1.heap.size, 0, none⟩) 1 1) [x]) :=
      PRs.one ((unhide HP1).ext ((Ext.refl w1).alloc _)) (Blk.new _ _ _) (Nat.le_refl _) (by omega) (by simp) (Nat.le_refl _) (fun _ e => e.elim)
    have HS2 := hide ((unhide HS1).ext ((Ext.refl w1).alloc (.cells #[.pointer (some ⟨b, 0, none⟩)] 53)))
    clear HS1 HP1 HC2 hs1
    go_loopw [5] (fun rv wr => ∃ (n j : Nat) (acc : List (List Nd)) (ao : Option Addr) (cap : Nat), rv = .slice ao acc.length cap ∧ PRs wr w.heap.size wr.heap.size (fun _ => False) (.slice ao acc.length cap) acc ∧ St w pb L tv lv j wr ∧ sevL L rule n acc j = R ∧ L.length < n + j ∧ i ≤ j ∧ j ≤ L.length ∧ acc.length ≤ j + 1) (fun rv _ => L.length + 2 - slLen rv)
    case atStart => exact ⟨L.length + 1, j, [x], _, _, rfl, unhide HW1, unhide HS2, unhide HQ, by omega, hj.1, hj.2, by simp⟩
    case round =>
      obtain ⟨n, k, acc, ao, cap, rfl, hrow, hst, hq, hn, hik, hkl, hac⟩ := hrel
      have HROW := hide hrow
      have HST := hide hst
      clear HW1 HS2 HQ hrow hst
      cases n with
      | zero => omega
      | succ n =>
        rw [sevL] at hq
        by_cases ht : (tk L k).text = [44]
        · rw [if_pos ht] at hq
          have hk1 := text_lt ht (by decide)
          have HSK := hide (skip_yes [44] (unhide HST).pe ht (by omega) (by omega))
          obtain ⟨R1, hR1⟩ : ∃ R1, rule (k + 1) = R1 := ⟨_, rfl⟩
          rw [hR1] at hq
          have ha := (unhide HR).2.2 (k + 1) (by omega) hk1
          have HRULE := hide ((unhide HR).2.1 (k + 1))
          rw [hR1] at ha HRULE
          obtain ⟨j2, o2⟩ := R1
          clear hR1 ht
          cases o2 with
          | none =>
            have HQ2 : Hid (R = (j2, none)) := hq.symm
            clear hq
            go_wp2_with fail
            refine (unhide HSK).mono ?_
            rintro e w2 ⟨rfl, hs2⟩
            have HS2 := hide ((unhide HST).trans hs2)
            have HC3 := hide (unhide HRULE w2 (by omega) hk1 hs2.pe)
            clear hs2 HSK HRULE
            go_wp2_with (go_at_fn g; refine (unhide HC3).mono ?_; rintro e w3 ⟨hs3, rfl⟩; have HS3 := hide ((unhide HS2).trans hs3); clear hs3)
            exact ⟨rfl, RLQ.pan (unhide HS3) (unhide HQ2)⟩
          | some y =>
            have HQ2 : Hid (sevL L rule n (acc ++ [y]) j2 = R) := hq
            have hj2 : k + 1 ≤ j2 ∧ j2 ≤ L.length := ha.1
            clear hq ha
            go_wp2_with fail
            refine (unhide HSK).mono ?_
            rintro e w2 ⟨rfl, hs2⟩
            have HS2 := hide ((unhide HST).trans hs2)
            have HROW2 : Hid (PRs w2 w.heap.size w2.heap.size (fun _ => False) (.slice ao acc.length cap) acc) := ((unhide HROW).out hs2.out (fun m e => .inl (by omega))).wide (Nat.le_refl _) hs2.out.size (Nat.le_refl _)
            have HC3 := hide (unhide HRULE w2 (by omega) hk1 hs2.pe)
            clear hs2 HSK HRULE HROW
            have hva := (unhide HROW2).lt
            have HROWG := hide (unhide HROW2).ge
            have hz2 := (unhide HS2).out.size
            go_wp2_with (first
              | (go_at_fn g; refine (unhide HC3).mono ?_; rintro e w3 ⟨hs3, b3, rfl, hp3⟩
                 have HS3 := hide ((unhide HS2).trans hs3)
                 have hrow3 := ((unhide HROW2).out hs3.out (fun m e => .inl (by omega))).wide (Nat.le_refl _) hs3.out.size (Nat.le_refl _)
                 have hz3 := hs3.out.size
                 obtain ⟨ao4, cap4, w4, hrun4, hr4, hg4, _⟩ := hrow3.app hp3 (by omega) hva (fun _ e => e.elim) (by omega) (by omega)
                 have HR4 := hide hr4
                 have HG4 := hide hg4
                 clear hs3 hp3 HROW2 HS2 HC3 hrow3 hr4 hg4)
              | (refine wpList_run (by rfl) (.tmp 11) (.tmp 14) 76 (by rfl) (by rfl) (by rfl) hrun4 ?_))
            have hge := (unhide HROWG)
            refine ⟨⟨n, j2, acc ++ [y], ao4, cap4, by simp, by rw [List.length_append]; exact unhide HR4, St.grown (unhide HP) (unhide HS3) (unhide HG4) (fun m e => ?_), unhide HQ2, by omega, by omega, hj2.2, by rw [List.length_append]; simp; omega⟩, ?_⟩
            · exact hge m e
            · simp [slLen]
              omega
        · rw [if_neg ht] at hq
          have HQ2 : Hid (R = (k, some acc)) := hq.symm
          have HSK := hide (skip_no [44] (unhide HST).pe ht (by omega) (by omega))
          clear hq ht
          go_wp2_with fail
          refine (unhide HSK).mono ?_
          rintro e w2 ⟨rfl, hx2⟩
          have HS2 := hide ((unhide HST).ext hx2)
          have HROW2 := hide (((unhide HROW).ext hx2).wide (Nat.le_refl _) hx2.size (Nat.le_refl _))
          clear hx2 HSK
          go_wp2
          go_ret
          exact RLQ.ok (unhide HS2) (unhide HROW2) (unhide HQ2)
end
end Go.Proofs.YtjfhhhabcbkahaaGreat
