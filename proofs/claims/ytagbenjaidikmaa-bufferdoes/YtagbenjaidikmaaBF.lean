/-
  Buffers: the walk of Data.
-/
import Derived.Test.YtagbenjaidikmaaBE
namespace Go.Proofs.Ytagbenjaidikmaa
open Go.RowKit

/-- How many bytes stand under a number. -/
def lenOf (id : Int) (K : List Ent) : Nat := ((look id K).map fun p => p.2.length).getD 0
section
variable {w : World} {base S G M : Nat} {all tk : Int} {K : List Ent}
theorem Sto.val (h : Sto w base S G M all tk K) (id : Int) : (∃ ao cap, valOf id K = .slice ao (lenOf id K) cap) ∧ lenOf id K ≤ 140737488355328 := by
  unfold valOf lenOf
  cases hl : look id K with
  | none => exact ⟨⟨none, 0, rfl⟩, by simp⟩
  | some p =>
    obtain ⟨v, bs⟩ := p
    have ho := h.own _ (look_mem hl)
    obtain ⟨ao, cap, e⟩ := ho.shape
    exact ⟨⟨ao, cap, e⟩, h.fit _ (look_mem hl)⟩
/-- 'm[id] = v', whatever stands there. -/
theorem put_run {id : Int} {n : Nat} (h : w.ownsMap Try.prog 3 heldE M n (dat K)) (hid : I64 id) (hn : n < maxLen) (v : Value) :
    ∃ w', (Instr.mapUpdate 61 (.map (some M)) (.int .i64 id) v).run Try.prog w = .ok () w' ∧ w'.ownsMap Try.prog 3 heldE M (n + 1) ((dat K).put (.int .i64 id) (.held v)) ∧ w.grownBy w' (some M) :=
  h.update (Maps.int_keyed Try.underlying3) Try.underlying61 hn hid.key (ps := []) rfl

set_option maxHeartbeats 1000000 in
theorem data_low (id : Int) (hid : id < 1) (v : Value) (S : Nat) (w : World) :
    Calls Try.prog 10 #[.pointer (some ⟨S, 0, none⟩), .int .i64 id, v] w fun e w' => e = .returned (.int .i64 2) ∧ w' = w := by
  go_enter Try.func10, Try.ntmps10
  go_wp2
  go_ret
  exact ⟨rfl, rfl⟩
set_option maxHeartbeats 1000000 in
theorem data_nil (id : Int) (v : Value) (w : World) :
    Calls Try.prog 10 #[.pointer none, .int .i64 id, v] w fun e w' => e = .returned (.int .i64 1) ∧ w' = w := by
  go_enter Try.func10, Try.ntmps10
  go_wp2
  go_ret
  exact ⟨rfl, rfl⟩

set_option maxRecDepth 10000 in
set_option maxHeartbeats 2000000 in
theorem data_full (h : Sto w base S G M all tk K) {id : Int} (hid : I64 id) (h1 : 1 ≤ id) {v : Value} {xs : List Int} (hr : Row .u8 w v xs) (hfull : all - tk + lenOf id K < xs.length) :
    Calls Try.prog 10 #[.pointer (some ⟨S, 0, none⟩), .int .i64 id, v] w fun e w' => e = .returned (.int .i64 6) ∧ Sto w' base S G M all tk K ∧ Out (Mine G M K) w w' := by
  obtain ⟨ao, cap, rfl, hao, hlc, hcm⟩ := hr.shape
  unfold maxLen at hcm
  obtain ⟨⟨ao0, cap0, hval⟩, hle⟩ := h.val id
  have HV : Hid (∀ (wx : World) (tx : Int), Sto wx base S G M all tx K → wx.cell? ⟨S, 0, none⟩ = some (.pointer (some ⟨G, 0, none⟩)) ∧ wx.cell? ⟨S, 1, none⟩ = some (.map (some M)) ∧ (Instr.lookup 61 (.map (some M)) (.int .i64 id) false).run Try.prog wx = .ok (.slice ao0 (lenOf id K) cap0) wx) := fun wx tx hm => ⟨hm.c0, hm.c1, by rw [← hval]; exact look_run hm.mp hid⟩
  have HV0 : Hid (w.drew.cell? ⟨S, 0, none⟩ = some (.pointer (some ⟨G, 0, none⟩)) ∧ w.drew.cell? ⟨S, 1, none⟩ = some (.map (some M)) ∧ (Instr.lookup 61 (.map (some M)) (.int .i64 id) false).run Try.prog w.drew = .ok (.slice ao0 (lenOf id K) cap0) w.drew) := unhide HV _ _ (h.ext (Ext.refl w).drew)
  have hbd := h.bu.drewN 1
  have HT : Hid (Calls Try.prog 27 #[.pointer (some ⟨G, 0, none⟩), .int .i64 (lenOf id K : Nat), .int .i64 (xs.length : Nat)] w.drew fun e' w' => e' = .returned (.int .i64 6) ∧ Sto w' base S G M all tk K ∧ Out (Mine G M K) w w') := by
    have e1 : trE all tk (lenOf id K) xs.length = 6 := by unfold trE; rw [if_pos hfull]
    have e2 : trT all tk (lenOf id K) xs.length = tk := by unfold trT; rw [if_pos hfull]
    refine (trade_any G all tk (lenOf id K) xs.length w.drew h.ok (by omega) (by omega) (by omega) (by omega) hbd).mono ?_
    rintro e w' ⟨rfl, hb, hg⟩
    rw [e2] at hb
    rw [e1]
    have hx : Ext w w.drew := (Ext.refl w).drew
    exact ⟨rfl, (h.ext hx).budget hg hb h.ok, (Out.of_ext hx).trans (T' := Mine G M K) (Out.of_grown hg (.inl rfl)) (fun k hk => .inl hk)⟩
  clear h hr hval hao hfull hle hcm hbd
  go_enter Try.func10, Try.ntmps10
  go_wp2_with fail
  go_region_held3 (fun w' => w'.cell? ⟨S, 0, none⟩ = some (.pointer (some ⟨G, 0, none⟩)) ∧ w'.cell? ⟨S, 1, none⟩ = some (.map (some M)) ∧ (Instr.lookup 61 (.map (some M)) (.int .i64 id) false).run Try.prog w' = .ok (.slice ao0 (lenOf id K) cap0) w')
    (first | with_reducible exact unhide HV0 | with_reducible exact unhide HV _ _ (by with_reducible assumption)) (first | (go_at_call 27; refine (unhide HT).mono ?_; rintro e w2 ⟨rfl, hs2, ho2⟩))
  have HS := hide hs2
  have HO := hide ho2
  clear hs2 ho2
  go_wp2
  go_ret
  exact ⟨rfl, unhide HS, unhide HO⟩

set_option maxRecDepth 10000 in
set_option maxHeartbeats 2000000 in
theorem data_put (h : Sto w base S G M all tk K) {id : Int} (hid : I64 id) (h1 : 1 ≤ id) {v : Value} {xs : List Int} (hr : Row .u8 w v xs) (hfit : (xs.length : Int) ≤ all - tk + lenOf id K) (hx : xs.length ≤ 140737488355328) (hK : K.length < maxLen) :
    Calls Try.prog 10 #[.pointer (some ⟨S, 0, none⟩), .int .i64 id, v] w fun e w' => ∃ v', e = .returned (.int .i64 0) ∧ Sto w' base S G M all (max 0 (tk - lenOf id K + xs.length)) (ins (id, v', xs) (rem id K)) ∧ Out (Mine G M K) w w' ∧ ∀ b, v'.ownBlock = some b → w.heap.size ≤ b := by
  obtain ⟨ao, cap, rfl, hao, hlc, hcm⟩ := hr.shape
  unfold maxLen at hcm
  obtain ⟨⟨ao0, cap0, hval⟩, hle⟩ := h.val id
  have HV : Hid (∀ (wx : World) (tx : Int), Sto wx base S G M all tx K → wx.cell? ⟨S, 0, none⟩ = some (.pointer (some ⟨G, 0, none⟩)) ∧ wx.cell? ⟨S, 1, none⟩ = some (.map (some M)) ∧ (Instr.lookup 61 (.map (some M)) (.int .i64 id) false).run Try.prog wx = .ok (.slice ao0 (lenOf id K) cap0) wx) := fun wx tx hm => ⟨hm.c0, hm.c1, by rw [← hval]; exact look_run hm.mp hid⟩
  have HV0 : Hid (w.drew.cell? ⟨S, 0, none⟩ = some (.pointer (some ⟨G, 0, none⟩)) ∧ w.drew.cell? ⟨S, 1, none⟩ = some (.map (some M)) ∧ (Instr.lookup 61 (.map (some M)) (.int .i64 id) false).run Try.prog w.drew = .ok (.slice ao0 (lenOf id K) cap0) w.drew) := unhide HV _ _ (h.ext (Ext.refl w).drew)
  have hbd := h.bu.drewN 1
  have HT : Hid (Calls Try.prog 27 #[.pointer (some ⟨G, 0, none⟩), .int .i64 (lenOf id K : Nat), .int .i64 (xs.length : Nat)] w.drew fun e' w' => e' = .returned (.int .i64 0) ∧ Sto w' base S G M all (max 0 (tk - lenOf id K + xs.length)) K ∧ w.grownBy w' (some G)) := by
    have e1 : trE all tk (lenOf id K) xs.length = 0 := by unfold trE; rw [if_neg (by omega)]
    have e2 : trT all tk (lenOf id K) xs.length = max 0 (tk - lenOf id K + xs.length) := by unfold trT; rw [if_neg (by omega)]
    refine (trade_any G all tk (lenOf id K) xs.length w.drew h.ok (by omega) (by omega) (by omega) (by omega) hbd).mono ?_
    rintro e w' ⟨rfl, hb, hg⟩
    have hok := trT_ok (e := lenOf id K) (o := xs.length) h.ok
    rw [e2] at hb hok
    rw [e1]
    have hx : Ext w w.drew := (Ext.refl w).drew
    exact ⟨rfl, (h.ext hx).budget hg hb hok, (ext_grown hx (some G)).trans hg⟩
  have HR := hide hr
  have HH := hide h
  have HF := hide hfit
  have HX := hide hx
  have HK := hide hK
  clear h hr hval hao hfit hle hcm hbd hx hK
  go_enter Try.func10, Try.ntmps10
  go_wp2_with fail
  go_region_held3 (fun w' => w'.cell? ⟨S, 0, none⟩ = some (.pointer (some ⟨G, 0, none⟩)) ∧ w'.cell? ⟨S, 1, none⟩ = some (.map (some M)) ∧ (Instr.lookup 61 (.map (some M)) (.int .i64 id) false).run Try.prog w' = .ok (.slice ao0 (lenOf id K) cap0) w')
    (first | with_reducible exact unhide HV0 | with_reducible exact unhide HV _ _ (by with_reducible assumption)) (first | (go_at_call 27; refine (unhide HT).mono ?_; rintro e w2 ⟨rfl, hs2, hg2⟩))
  have hr2 : Row .u8 w2 (.slice ao xs.length cap) xs := (unhide HR).grown hg2 ((unhide HH).bu.no (by simp [bud]))
  have hs2d := hs2.ext (Ext.refl w2).drew
  have HC : Hid (Calls Try.prog 28 #[.slice ao xs.length cap] w2.drew fun e w' => ∃ ao' cap' w4, e = .returned (.slice ao' xs.length cap') ∧ Sto w' base S G M all (max 0 (tk - lenOf id K + xs.length)) K ∧
      (Instr.mapUpdate 61 (.map (some M)) (.int .i64 id) (.slice ao' xs.length cap')).run Try.prog w' = .ok () w4 ∧ Sto w4 base S G M all (max 0 (tk - lenOf id K + xs.length)) (ins (id, .slice ao' xs.length cap', xs) (rem id K)) ∧ Out (Mine G M K) w w4 ∧ ∀ b, (Value.slice ao' xs.length cap').ownBlock = some b → w.heap.size ≤ b) := by
    refine (clone_any _ _ _ (hr2.ext (Ext.refl w2).drew) (unhide HX)).mono ?_
    rintro e w3 ⟨ao', cap', rfl, hown, hb⟩
    have hx : Ext w2 w3 := (Ext.refl w2).drew.trans hb
    have hs3 := hs2.ext hx
    obtain ⟨w4, hrun4, hm4, hg4⟩ := put_run hs3.mp hid (unhide HK) (.slice ao' xs.length cap')
    have hlt : ∀ b, (Value.slice ao' xs.length cap').ownBlock = some b → w2.heap.size ≤ b := fun b hb => (hown.lt b hb).1
    refine ⟨ao', cap', w4, rfl, hs3, hrun4, ?_, ?_, fun b hb => Nat.le_trans hg2.size (hlt b hb)⟩
    · refine hs3.put hid hg4 hm4 hown ?_ ?_ (unhide HX)
      · have := hs2.low.1
        have := hs2.st.lt
        exact Nat.le_trans (Nat.le_trans hs2.low.1 (Nat.le_of_lt hs2.st.lt)) (Nat.le_refl _)
      · intro b hb
        have h1 := hlt b hb
        refine ⟨?_, ?_, ?_, fun p hp hv => ?_⟩
        · have := hs2.st.lt; omega
        · have := hs2.bu.lt; omega
        · have := hs2.mp.lt; omega
        · have := ((hs2.own p hp).lt b hv).2; omega
    · refine ((Out.of_grown (T := Mine G M K) hg2 (.inl rfl)).trans (T' := Mine G M K) (Out.of_ext hx) (fun k hk => .inl hk)).trans (T' := Mine G M K) (Out.of_grown hg4 (.inr (.inl rfl))) (fun k hk => .inl hk)
  have HW : Hid (∀ (wx : World) (tx : Int) (Kx : List Ent), Sto wx base S G M all tx Kx → wx.cell? ⟨S, 1, none⟩ = some (.map (some M))) := fun wx tx Kx hm => hm.c1
  have HW0 := hide hs2d.c1
  have HS2 := hide hs2
  clear hr2 hs2d hs2 hg2 HT HV HV0
  go_wp2_with fail
  go_region_held3 (fun w' => w'.cell? ⟨S, 1, none⟩ = some (.map (some M)))
    (first | with_reducible exact unhide HW0 | with_reducible exact unhide HW _ _ _ (by with_reducible assumption)) (first | (go_at_call 28; refine (unhide HC).mono ?_; rintro e w3 ⟨ao', cap', w4, rfl, hs3, hrun4, hs4, ho4, hb4⟩))
  have H3 := hide hs3
  have H4 := hide hs4
  have H5 := hide ho4
  have H6 := hide hb4
  clear hs3 hs4 ho4 hb4 hrun4
  go_wp2
  go_ret
  exact ⟨_, rfl, unhide H4, unhide H5, unhide H6⟩
end
end Go.Proofs.Ytagbenjaidikmaa
