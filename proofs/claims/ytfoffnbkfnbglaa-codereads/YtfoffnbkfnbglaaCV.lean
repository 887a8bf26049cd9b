/-
  Codes as bytes: what Decode answers, plainly; numbers and their bytes. What the dump lacks is left out.
-/
import Derived.Test.YtfoffnbkfnbglaaCT
namespace Go.Proofs.Ytfoffnbkfnbglaa
open Go.RowKit
set_option linter.unusedVariables false
set_option linter.unusedSimpArgs false

def nI (bs : List Int) : Nat := (bs.length - 28) / 64
/-- The code of bytes, 28 and 64 for each instruction. -/
def codA (bs : List Int) : Cod := ⟨numA bs 4, numA bs 8, numA bs 12, numA bs 16, numA bs 20, insL bs 28 0 (nI bs)⟩
def decB (bs : List Int) : Bool := decide (bs.length ≤ 262172) && (decide (28 ≤ bs.length) && (decide ((bs.length - 28) % 64 = 0) && (decide (numA bs 0 = 1128353872) && (decide (numA bs 24 = (nI bs : Int)) && mayP (codA bs)))))

theorem rd7 (bs : List Int) (h : 28 ≤ bs.length) : rdS bs 0 0 7 = (28, 0) := by
  have := rd_full bs 0 7 (by omega)
  simpa using this
theorem insS_full (bs : List Int) : ∀ j, 28 + 64 * j ≤ bs.length → insS bs 28 0 j = (28 + 64 * j, 0)
  | 0, _ => rfl
  | j + 1, h => by
    have ih := insS_full bs j (by omega)
    rw [insS, ih]
    simp only
    rw [rd_full bs (28 + 64 * j) 16 (by omega)]
    simp
    omega
theorem insL_len (bs : List Int) (p : Nat) (e : Int) (k : Nat) : (insL bs p e k).length = k := by simp [insL]
/-- How many instructions Decode reads, and with what error. -/
theorem dec_count (bs : List Int) (k : Nat) (h28 : 28 ≤ bs.length) (hgo : ∀ j, j < k → goes bs 28 0 j) (hng : ¬ goes bs 28 0 k) :
    ((bs.length - 28) % 64 = 0 → k = nI bs ∧ (insS bs 28 0 k).2 = 0) ∧ (¬ (bs.length - 28) % 64 = 0 → (insS bs 28 0 k).2 ≠ 0) := by
  have hn : 28 + 64 * nI bs ≤ bs.length := by unfold nI; omega
  have hgn : ∀ j, j < nI bs → goes bs 28 0 j := fun j hj => by
    unfold goes
    rw [insS_full bs j (by omega)]
    exact ⟨by simp only; omega, rfl⟩
  have hkn : nI bs ≤ k := by
    by_cases h : nI bs ≤ k
    · exact h
    · exact (hng (hgn k (by omega))).elim
  constructor
  · intro hr
    have hN : ¬ goes bs 28 0 (nI bs) := by
      unfold goes
      rw [insS_full bs _ hn]
      simp only [not_and]
      intro h
      unfold nI at h hn
      omega
    have : k = nI bs := by
      by_cases h : k = nI bs
      · exact h
      · exact (hN (hgo _ (by omega))).elim
    subst this
    rw [insS_full bs _ hn]
    exact ⟨rfl, rfl⟩
  · intro hr h0
    have hgN : goes bs 28 0 (nI bs) := by
      unfold goes
      rw [insS_full bs _ hn]
      exact ⟨by unfold nI at hn ⊢; simp only; omega, rfl⟩
    have hk1 : nI bs + 1 ≤ k := by
      by_cases h : k = nI bs
      · subst h; exact (hng hgN).elim
      · omega
    have he : (insS bs 28 0 (nI bs + 1)).2 ≠ 0 := by
      rw [insS, insS_full bs _ hn]
      exact rd_short bs _ 16 hn (by unfold nI; omega)
    rcases (by omega : k = nI bs + 1 ∨ nI bs + 1 < k) with h | h
    · subst h; exact he h0
    · exact he (hgo _ h).2

set_option maxRecDepth 10000 in
set_option maxHeartbeats 2000000 in
theorem decode_long (v : Value) (bs : List Int) (w : World) (hr : Row .u8 w v bs) (hlen : 262172 < bs.length) : Calls Try.prog 7 #[v] w fun e w' => e = .returned (.tuple #[.agg #[.int .i64 (zC).stage, .slice none 0 0, .int .i64 (zC).regs, .int .i64 (zC).attr, .int .i64 (zC).unif, .int .i64 (zC).vary], .int .i64 261]) ∧ Ext w w' := by
  obtain ⟨ao, cap, rfl, hn0, hlc, hcm⟩ := hr.shape
  have HZ := hide (Blk.new w #[.int .i64 (zC).stage, .slice none 0 0, .int .i64 (zC).regs, .int .i64 (zC).attr, .int .i64 (zC).unif, .int .i64 (zC).vary] 26)
  have HX := hide ((Ext.refl w).alloc (.cells #[.int .i64 (zC).stage, .slice none 0 0, .int .i64 (zC).regs, .int .i64 (zC).attr, .int .i64 (zC).unif, .int .i64 (zC).vary] 26))
  have hlen' : (262172 : Int) < (bs.length : Int) := by omega
  clear hr hn0
  go_enter Try.func7, Try.ntmps7
  go_wp2_with (first
    | refine wpList_buildTo rfl 26 _ rfl (some 12) rfl #[.int .i64 (zC).stage, .slice none 0 0, .int .i64 (zC).regs, .int .i64 (zC).attr, .int .i64 (zC).unif, .int .i64 (zC).vary] (by kernel_rfl) ?_
    | refine wpList_store_row rfl 26 (.tmp 2) (.tmp 12) rfl w.heap.size #[.int .i64 (zC).stage, .slice none 0 0, .int .i64 (zC).regs, .int .i64 (zC).attr, .int .i64 (zC).unif, .int .i64 (zC).vary] rfl rfl 26 _ (unhide HZ) size6 rfl (by simp [Value.oneCell']) ?_)
  exact bodyPost_ret (v := .tuple #[.agg #[.int .i64 (zC).stage, .slice none 0 0, .int .i64 (zC).regs, .int .i64 (zC).attr, .int .i64 (zC).unif, .int .i64 (zC).vary], .int .i64 261]) (results_cellTmp Try.results7 _ _ w.heap.size 26 #[.int .i64 (zC).stage, .slice none 0 0, .int .i64 (zC).regs, .int .i64 (zC).attr, .int .i64 (zC).unif, .int .i64 (zC).vary] _ rfl (.int .i64 261) rfl ((unhide HZ).rowC) Try.underlying26 rfl size6) rfl ⟨rfl, extRow (unhide HX) (Nat.le_refl _)⟩

/-- What Decode answers. -/
def DecQ (w : World) (bs : List Int) (e : Ending) (w' : World) : Prop := Ext w w' ∧
  ((decB bs = true ∧ ∃ ao cap, e = .returned (.tuple #[.agg #[.int .i64 ((codA bs)).stage, .slice ao (codA bs).ins.length cap, .int .i64 ((codA bs)).regs, .int .i64 ((codA bs)).attr, .int .i64 ((codA bs)).unif, .int .i64 ((codA bs)).vary], .int .i64 0]) ∧ OI w' w.heap.size (.slice ao (codA bs).ins.length cap) (codA bs).ins) ∨
   (decB bs = false ∧ e = .returned (.tuple #[.agg #[.int .i64 (zC).stage, .slice none 0 0, .int .i64 (zC).regs, .int .i64 (zC).attr, .int .i64 (zC).unif, .int .i64 (zC).vary], .int .i64 261])))

theorem codR_eq (bs : List Int) (h28 : 28 ≤ bs.length) : codR bs (nI bs) = codA bs := by
  unfold codR codA
  rw [rd7 bs h28, rdV_full bs 0 1 (by omega), rdV_full bs 0 2 (by omega), rdV_full bs 0 3 (by omega), rdV_full bs 0 4 (by omega), rdV_full bs 0 5 (by omega)]

theorem decode_any (v : Value) (bs : List Int) (w : World) (hr : Row .u8 w v bs) (hB : Byt bs) : Calls Try.prog 7 #[v] w (DecQ w bs) := by
  by_cases hl : bs.length ≤ 262172
  case neg =>
    refine (decode_long v bs w hr (by omega)).mono ?_
    rintro e w' ⟨rfl, hx⟩
    exact ⟨hx, .inr ⟨by simp [decB, hl], rfl⟩⟩
  case pos =>
  refine (decode_raw v bs w hr hB hl).mono ?_
  rintro e w' ⟨k, hgo, hng, hx, h⟩
  refine ⟨hx, ?_⟩
  by_cases h28 : 28 ≤ bs.length
  case neg =>
    have he : (rdS bs 0 0 7).2 ≠ 0 := rd_short bs 0 7 (Nat.zero_le _) (by omega)
    have hk : k = 0 := by
      by_cases h : k = 0
      · exact h
      · exact (he (hgo 0 (by omega)).2).elim
    subst hk
    rcases h with ⟨h, _⟩ | ⟨_, rfl⟩
    · exact (he h).elim
    · exact .inr ⟨by simp [decB, h28], rfl⟩
  case pos =>
  rw [rd7 bs h28] at hgo hng h
  simp only at hgo hng h
  obtain ⟨hc1, hc2⟩ := dec_count bs k h28 hgo hng
  have e0 : rdV bs 0 0 0 = numA bs 0 := rdV_full bs 0 0 (by omega)
  have e6 : rdV bs 0 0 6 = numA bs 24 := rdV_full bs 0 6 (by omega)
  rw [e0, e6] at h
  by_cases hr0 : (bs.length - 28) % 64 = 0
  case neg =>
    rcases h with ⟨h, _⟩ | ⟨_, rfl⟩
    · exact (hc2 hr0 h).elim
    · exact .inr ⟨by simp [decB, hr0], rfl⟩
  case pos =>
  obtain ⟨rfl, hz⟩ := hc1 hr0
  rw [codR_eq bs h28] at h
  have hlen : (codA bs).ins.length = nI bs := insL_len _ _ _ _
  rcases h with ⟨_, h1, h2, h3, ao, cap, rfl, hio⟩ | ⟨hn, rfl⟩
  · refine .inl ⟨by simp [decB, hl, h28, hr0, h1, h2, h3], ao, cap, by rw [hlen], by rw [hlen]; exact hio⟩
  · refine .inr ⟨?_, rfl⟩
    cases hq : decB bs with
    | false => rfl
    | true =>
      simp only [decB, Bool.and_eq_true, decide_eq_true_eq] at hq
      exact (hn ⟨hz, hq.2.2.2.1, hq.2.2.2.2.1, hq.2.2.2.2.2⟩).elim
end Go.Proofs.Ytfoffnbkfnbglaa
