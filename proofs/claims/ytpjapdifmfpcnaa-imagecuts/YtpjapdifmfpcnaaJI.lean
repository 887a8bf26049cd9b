/-
  Images: Get and Sub, both ways in one, and plain facts: what was put as a piece is got, and put back it was never there.
-/
import Derived.Test.YtpjapdifmfpcnaaJH
import Derived.Test.YtpjapdifmfpcnaaJO
import Derived.Test.YtpjapdifmfpcnaaJS
import Derived.Test.YtpjapdifmfpcnaaRS
namespace Go.Proofs.Ytpjapdifmfpcnaa
open Go.RowKit
set_option linter.unusedVariables false
set_option linter.unusedSimpArgs false

/-- The level that is asked for. -/
def lvAt (I : Img) (lv : Int) : Lev := I.L.getD lv.toNat noLev
/-- The bytes of a piece. -/
def getB (I : Img) (lv X Y pw ph : Int) : List Int :=
  if pieceE I lv X Y pw ph = 0 then getK (sizI I.f).toNat (lvAt I lv).2.2 (pq (lvAt I lv).1.toNat X.toNat Y.toNat pw.toNat) (pw.toNat * ph.toNat) else []
/-- Why a piece is not put. -/
def subE (I : Img) (lv X Y pw ph : Int) (n : Nat) : Int :=
  if pieceE I lv X Y pw ph ≠ 0 then pieceE I lv X Y pw ph else if n = pw.toNat * ph.toNat * (sizI I.f).toNat then 0 else 7
/-- The image with a piece. -/
def sbI (I : Img) (lv X Y pw ph : Int) (qs : List Int) : Img :=
  if subE I lv X Y pw ph qs.length = 0 then ⟨I.f, I.L.set lv.toNat ((lvAt I lv).1, (lvAt I lv).2.1, subK (sizI I.f).toNat (lvAt I lv).2.2 (pq (lvAt I lv).1.toNat X.toNat Y.toNat pw.toNat) qs (pw.toNat * ph.toNat)), I.ws, I.wt, I.mn, I.mg⟩ else zimg

/-- What a piece that lies in a level is, in whole numbers. -/
theorem piece_open {I : Img} {L : List Ent} (hA : I.L = absL L) {lv X Y pw ph : Int} (hE : pieceE I lv X Y pw ph = 0) :
    ∃ (k x y a b s W H : Nat) (hk : k < L.length), lv = k ∧ X = x ∧ Y = y ∧ pw = a ∧ ph = b ∧ sizI I.f = (s : Int) ∧ s ≠ 0 ∧ L[k].1 = (W : Int) ∧ L[k].2.1 = (H : Int) ∧ 1 ≤ W ∧ 1 ≤ H ∧ W ≤ 64 ∧ H ≤ 64 ∧ x + a ≤ W ∧ y + b ≤ H ∧ L[k].2.2.2.length = W * H * s ∧ lvAt I lv = absE L[k] := by
  obtain ⟨hok, hh, hin⟩ := pieceE_zero hE
  rw [hA] at hh
  obtain ⟨k, hk, rfl, hget, hw⟩ := has_get hh
  obtain ⟨⟨a1, a2⟩, ⟨b1, b2⟩, hlen, hs0⟩ := lev_good hok hA hk hw
  rw [hA, hget] at hin
  have e1 : (absE L[k]).1 = L[k].1 := rfl
  have e2 : (absE L[k]).2.1 = L[k].2.1 := rfl
  rw [e1, e2] at hin
  obtain ⟨W, H, x, y, a, b, eW, eH, rfl, rfl, rfl, rfl, hx, hy⟩ := inP_nat hin (by omega) (by omega)
  obtain ⟨hsd, _⟩ := siz_bd I.f
  obtain ⟨s, hs⟩ : ∃ s : Nat, sizI I.f = (s : Int) := ⟨(sizI I.f).toNat, by omega⟩
  refine ⟨k, x, y, a, b, s, W, H, hk, rfl, rfl, rfl, rfl, rfl, hs, by omega, eW, eH, by omega, by omega, by omega, by omega, hx, hy, ?_, ?_⟩
  · have h1 : (L[k].2.2.2.length : Int) = ((W * H * s : Nat) : Int) := by rw [hlen, eW, eH, hs]; simp
    omega
  · unfold lvAt
    rw [hA]
    exact hget

section
variable {w : World} {v : Value} {L : List Ent} {I : Img}
theorem get_all (h : LR w v L) (hL : L.length ≤ 1000) (hA : I.L = absL L) (lv X Y pw ph : Int) :
    Calls Try.prog 13 #[.agg #[.int .i64 I.f, v, .int .i64 I.ws, .int .i64 I.wt, .int .i64 I.mn, .int .i64 I.mg], .int .i64 lv, .agg #[.int .i64 X, .int .i64 Y, .int .i64 pw, .int .i64 ph]] w fun e w' => ∃ ao cap, e = .returned (.tuple #[.slice ao (getB I lv X Y pw ph).length cap, .int .i64 (pieceE I lv X Y pw ph)]) ∧
      Own .u8 w' w.heap.size 5 (.slice ao (getB I lv X Y pw ph).length cap) (getB I lv X Y pw ph) ∧ Ext w w' := by
  by_cases hE : pieceE I lv X Y pw ph = 0
  · obtain ⟨k, x, y, a, b, s, W, H, hk, rfl, rfl, rfl, rfl, rfl, hs, hs0, hW, hH, w1, h1, w6, h6, hx, hy, hlen, hlv⟩ := piece_open hA hE
    have eg : getB I k x y a b = getK s L[k].2.2.2 (pq W x y a) (a * b) := by
      unfold getB
      rw [if_pos hE, hlv, hs]
      show getK _ L[k].2.2.2 (pq L[k].1.toNat _ _ _) _ = _
      rw [hW]
      rfl
    have el : (getB I k x y a b).length = a * b * s := by
      rw [eg]
      refine getK_len _ (fun j hj => ?_)
      rw [hlen]
      exact Nat.mul_le_mul_right _ (pq_lt hx hy hj)
    refine (get_good h hL hA k x y a b s W H hk hs hs0 hW hH w6 h6 hx hy hlen hE).mono ?_
    rintro e w' ⟨ao, cap, rfl, ho, hxt⟩
    refine ⟨ao, cap, ?_, ?_, hxt⟩
    · rw [el, hE]
    · rw [el, eg]
      exact ho
  · have eg : getB I lv X Y pw ph = [] := by unfold getB; rw [if_neg hE]
    refine (get_bad h hL hA lv X Y pw ph hE).mono ?_
    rintro e w' ⟨rfl, hxt⟩
    rw [eg]
    exact ⟨none, 0, rfl, Own.nil _ _ _ _, hxt⟩
theorem sub_all (h : LR w v L) (hL : L.length ≤ 1000) (hA : I.L = absL L) (hbL : ∀ p ∈ L, p.2.2.2.length ≤ 140737488355328) (lv X Y pw ph : Int) (qo : Option Addr) (qcap : Nat) (qs : List Int) (hq : Row .u8 w (.slice qo qs.length qcap) qs) :
    Calls Try.prog 9 #[.agg #[.int .i64 I.f, v, .int .i64 I.ws, .int .i64 I.wt, .int .i64 I.mn, .int .i64 I.mg], .int .i64 lv, .agg #[.int .i64 X, .int .i64 Y, .int .i64 pw, .int .i64 ph], .slice qo qs.length qcap] w fun e w' => ∃ ao cap L', e = .returned (.tuple #[.agg #[.int .i64 (sbI I lv X Y pw ph qs).f, .slice ao L'.length cap, .int .i64 (sbI I lv X Y pw ph qs).ws, .int .i64 (sbI I lv X Y pw ph qs).wt, .int .i64 (sbI I lv X Y pw ph qs).mn, .int .i64 (sbI I lv X Y pw ph qs).mg], .int .i64 (subE I lv X Y pw ph qs.length)]) ∧
      LO w' w.heap.size (.slice ao L'.length cap) L' ∧ absL L' = (sbI I lv X Y pw ph qs).L ∧ Ext w w' := by
  by_cases hE : pieceE I lv X Y pw ph = 0
  · obtain ⟨k, x, y, a, b, s, W, H, hk, rfl, rfl, rfl, rfl, rfl, hs, hs0, hW, hH, w1, h1, w6, h6, hx, hy, hlen, hlv⟩ := piece_open hA hE
    by_cases hn : qs.length = a * b * s
    · have eE : subE I k x y a b qs.length = 0 := by
        unfold subE
        rw [if_neg (by simpa using hE), if_pos]
        rw [hs]
        exact hn
      have eS : sbI I k x y a b qs = ⟨I.f, (absL L).set k ((W : Int), (H : Int), subK s L[k].2.2.2 (pq W x y a) qs (a * b)), I.ws, I.wt, I.mn, I.mg⟩ := by
        unfold sbI
        rw [if_pos eE, hlv, hs, hA]
        show Img.mk _ ((absL L).set _ (L[k].1, L[k].2.1, subK _ L[k].2.2.2 (pq L[k].1.toNat _ _ _) _ _)) _ _ _ _ = _
        rw [hW, hH]
        rfl
      refine (sub_good h hL hA k x y a b s W H hk hs hs0 hW hH w1 h1 w6 h6 hx hy hlen hE qo qcap qs hq hn hbL).mono ?_
      rintro e w' ⟨ao, cap, L', rfl, ho, ha, hxt⟩
      rw [eE, eS]
      exact ⟨ao, cap, L', rfl, ho, ha, hxt⟩
    · have eE : subE I k x y a b qs.length = 7 := by
        unfold subE
        rw [if_neg (by simpa using hE), if_neg]
        rw [hs]
        exact hn
      have eS : sbI I k x y a b qs = zimg := by unfold sbI; rw [if_neg (by rw [eE]; decide)]
      refine (sub_short h hL hA k x y a b s W H hk hs hs0 hW hH w1 h1 w6 h6 hx hy hlen hE qo qcap qs hq hn).mono ?_
      rintro e w' ⟨rfl, hxt⟩
      rw [eE, eS]
      exact ⟨none, 0, [], rfl, LO.nil _ _, rfl, hxt⟩
  · have eE : subE I lv X Y pw ph qs.length = pieceE I lv X Y pw ph := by unfold subE; rw [if_pos hE]
    have eS : sbI I lv X Y pw ph qs = zimg := by unfold sbI; rw [if_neg (by rw [eE]; exact hE)]
    refine (sub_bad h hL hA lv X Y pw ph qo qs.length qcap hE).mono ?_
    rintro e w' ⟨rfl, hxt⟩
    rw [eE, eS]
    exact ⟨none, 0, [], rfl, LO.nil _ _, rfl, hxt⟩
end

/-- Lists of levels of the same sides and as many bytes. -/
structure Sh (A B : List Lev) : Prop where
  len : A.length = B.length
  at1 : ∀ n, (A.getD n noLev).1 = (B.getD n noLev).1
  at2 : ∀ n, (A.getD n noLev).2.1 = (B.getD n noLev).2.1
  at3 : ∀ n, (A.getD n noLev).2.2.length = (B.getD n noLev).2.2.length
theorem Sh.has {A B : List Lev} (h : Sh A B) (i : Int) : hasB A i = hasB B i := by
  unfold hasB
  rw [h.len, h.at1]
theorem sh_mem {A B : List Lev} (h : Sh A B) {s : Int} (ha : ∀ l ∈ A, lvB s l = true) : ∀ l ∈ B, lvB s l = true := by
  intro l hl
  obtain ⟨n, hn, rfl⟩ := List.getElem_of_mem hl
  have hm : n < A.length := by rw [h.len]; exact hn
  have h1 := ha A[n] (List.getElem_mem hm)
  have a1 := h.at1 n
  have a2 := h.at2 n
  have a3 := h.at3 n
  have ea : A.getD n noLev = A[n] := by simp [hm]
  have eb : B.getD n noLev = B[n] := by simp [hn]
  rw [ea, eb] at a1 a2 a3
  unfold lvB noneB goodB at h1 ⊢
  rw [← a1, ← a2, ← a3]
  exact h1
theorem Sh.symm {A B : List Lev} (h : Sh A B) : Sh B A := ⟨h.len.symm, fun n => (h.at1 n).symm, fun n => (h.at2 n).symm, fun n => (h.at3 n).symm⟩
theorem sh_ok {s : Int} {I J : Img} (h : Sh I.L J.L) (hf : I.f = J.f) (h1 : I.ws = J.ws) (h2 : I.wt = J.wt) (h3 : I.mn = J.mn) (h4 : I.mg = J.mg) (ho : okB s I = true) : okB s J = true := by
  rw [okB_iff] at ho ⊢
  obtain ⟨a1, a2, a3, a4, a5, a6, a7, a8⟩ := ho
  have e9 := h.has
  refine ⟨by rw [← h.len]; exact a1, by rw [← h.len, ← hf]; exact a2, sh_mem h a3, ?_, by rw [← h1]; exact a5, by rw [← h2]; exact a6, by rw [← h3]; exact a7, by rw [← h4]; exact a8⟩
  rw [← h.len, ← e9]
  exact a4
theorem sh_okB {s : Int} {I J : Img} (h : Sh I.L J.L) (hf : I.f = J.f) (h1 : I.ws = J.ws) (h2 : I.wt = J.wt) (h3 : I.mn = J.mn) (h4 : I.mg = J.mg) : okB s I = okB s J := by
  rw [Bool.eq_iff_iff]
  exact ⟨sh_ok h hf h1 h2 h3 h4, sh_ok h.symm hf.symm h1.symm h2.symm h3.symm h4.symm⟩
theorem sh_cmp {I J : Img} (h : Sh I.L J.L) (hf : I.f = J.f) (h1 : I.ws = J.ws) (h2 : I.wt = J.wt) (h3 : I.mn = J.mn) (h4 : I.mg = J.mg) : cmpB I = cmpB J := by
  have e1 : stepB (J.L.getD 0 noLev).1 (J.L.getD 0 noLev).2.1 I.L = stepB (J.L.getD 0 noLev).1 (J.L.getD 0 noLev).2.1 J.L := funext fun n => by
    unfold stepB
    rw [h.at1, h.at2]
  have e2 : chainB I.L = chainB J.L := by
    unfold chainB
    rw [h.at1, h.at2, h.len, e1]
  unfold cmpB mipB
  rw [sh_okB h hf h1 h2 h3 h4, h.has, h.at1, h.at2, e2, h1, h2, h3, hf]
theorem sum_sh : ∀ {A B : List Lev}, Sh A B → sumB A = sumB B
  | [], [], _ => rfl
  | [], b :: r, h => by have := h.len; simp at this
  | a :: r, [], h => by have := h.len; simp at this
  | a :: r, b :: t, h => by
    have h0 := h.at3 0
    have ih : sumB r = sumB t := sum_sh ⟨by have := h.len; simpa using this, fun n => by simpa using h.at1 (n + 1), fun n => by simpa using h.at2 (n + 1), fun n => by simpa using h.at3 (n + 1)⟩
    unfold sumB at ih ⊢
    simp only [List.map_cons, List.sum_cons]
    rw [ih]
    simp at h0
    rw [h0]
theorem sh_cost {I J : Img} (h : Sh I.L J.L) (hf : I.f = J.f) (h1 : I.ws = J.ws) (h2 : I.wt = J.wt) (h3 : I.mn = J.mn) (h4 : I.mg = J.mg) : costI I = costI J := by
  unfold costI
  rw [sh_okB h hf h1 h2 h3 h4, sum_sh h, hf]
theorem getD_set {α : Type} (l : List α) (k n : Nat) (x d : α) (hk : k < l.length) : (l.set k x).getD n d = if n = k then x else l.getD n d := by
  by_cases h : n = k
  · subst h
    rw [if_pos rfl]
    simp [hk]
  · rw [if_neg h]
    simp [List.getElem?_set, Ne.symm h]
theorem sh_set {A : List Lev} {k : Nat} (hk : k < A.length) {ys : List Int} (hy : ys.length = (A.getD k noLev).2.2.length) : Sh A (A.set k ((A.getD k noLev).1, (A.getD k noLev).2.1, ys)) := by
  refine ⟨by simp, fun n => ?_, fun n => ?_, fun n => ?_⟩
  all_goals
    rw [getD_set _ _ _ _ _ hk]
    split
    · rename_i e
      subst e
      first | rfl | exact hy.symm
    · rfl
theorem sh_piece {I J : Img} (h : Sh I.L J.L) (hf : I.f = J.f) (h1 : I.ws = J.ws) (h2 : I.wt = J.wt) (h3 : I.mn = J.mn) (h4 : I.mg = J.mg) (lv X Y pw ph : Int) : pieceE I lv X Y pw ph = pieceE J lv X Y pw ph := by
  unfold pieceE
  rw [sh_okB h hf h1 h2 h3 h4, h.has, h.at1, h.at2, hf]
theorem get_sub {s : Nat} {bs qs : List Int} {q : Nat → Nat} {n : Nat} (hq : ∀ k, k < n → (q k + 1) * s ≤ bs.length) (hi : ∀ j k, j < n → k < n → q j = q k → j = k) (hl : qs.length = n * s) : getK s (subK s bs q qs n) q n = qs := by
  have h1 := subK_len (b := qs) n hq (by omega)
  have hq2 : ∀ k, k < n → (q k + 1) * s ≤ (subK s bs q qs n).length := fun k hk => by rw [h1]; exact hq k hk
  refine cells_ext n (getK_len n hq2) hl (fun j hj => ?_)
  rw [cell_getK n hq2 j hj]
  exact (cell_subK n hq (by omega) hi).1 j hj
theorem sub_back {s m : Nat} {bs qs : List Int} {q : Nat → Nat} {n : Nat} (hb : bs.length = m * s) (hq : ∀ k, k < n → q k < m) (hi : ∀ j k, j < n → k < n → q j = q k → j = k) (hl : qs.length = n * s) : subK s (subK s bs q qs n) q (getK s bs q n) n = bs := by
  have hq1 : ∀ k, k < n → (q k + 1) * s ≤ bs.length := fun k hk => by rw [hb]; exact Nat.mul_le_mul_right _ (hq k hk)
  have h1 := subK_len (b := qs) n hq1 (by omega)
  have hq2 : ∀ k, k < n → (q k + 1) * s ≤ (subK s bs q qs n).length := fun k hk => by rw [h1]; exact hq1 k hk
  have h2 := getK_len (q := q) (xs := bs) n hq1
  have h3 := subK_len (b := getK s bs q n) n hq2 (by omega)
  refine cells_ext m (by rw [h3, h1, hb]) hb (fun r hr => ?_)
  by_cases hx : ∃ k, k < n ∧ q k = r
  · obtain ⟨k, hk, rfl⟩ := hx
    rw [(cell_subK n hq2 (by omega) hi).1 k hk, cell_getK n hq1 k hk]
  · have hx2 : ∀ k, k < n → q k ≠ r := fun k hk e => hx ⟨k, hk, e⟩
    rw [(cell_subK n hq2 (by omega) hi).2 r hx2, (cell_subK n hq1 (by omega) hi).2 r hx2]

/-- What was put as a piece is got, and put back it was never there. -/
theorem back_facts {I : Img} {L : List Ent} (hA : I.L = absL L) {lv X Y pw ph : Int} {qs : List Int} (hE : subE I lv X Y pw ph qs.length = 0) :
    pieceE I lv X Y pw ph = 0 ∧ pieceE (sbI I lv X Y pw ph qs) lv X Y pw ph = 0 ∧ getB (sbI I lv X Y pw ph qs) lv X Y pw ph = qs ∧ chkE (sbI I lv X Y pw ph qs) = 0 ∧ costI (sbI I lv X Y pw ph qs) = costI I ∧ cmpB (sbI I lv X Y pw ph qs) = cmpB I ∧
    subE (sbI I lv X Y pw ph qs) lv X Y pw ph (getB I lv X Y pw ph).length = 0 ∧ sameB (sbI (sbI I lv X Y pw ph qs) lv X Y pw ph (getB I lv X Y pw ph)) I = true := by
  have hp : pieceE I lv X Y pw ph = 0 := by
    by_cases h : pieceE I lv X Y pw ph = 0
    · exact h
    · unfold subE at hE
      rw [if_pos h] at hE
      exact hE
  obtain ⟨hok, _, _⟩ := pieceE_zero hp
  obtain ⟨k, x, y, a, b, s, W, H, hk, rfl, rfl, rfl, rfl, rfl, hs, hs0, hW, hH, w1, h1, w6, h6, hx, hy, hlen, hlv⟩ := piece_open hA hp
  have hn : qs.length = a * b * s := by
    unfold subE at hE
    rw [if_neg (by simpa using hp)] at hE
    by_cases h : qs.length = a * b * s
    · exact h
    · rw [if_neg (by rw [hs]; exact h)] at hE
      cases hE
  have hkL : k < I.L.length := by rw [hA, absL_len]; exact hk
  have hq : ∀ j, j < a * b → pq W x y a j < W * H := fun j hj => pq_lt hx hy hj
  have hq1 : ∀ j, j < a * b → (pq W x y a j + 1) * s ≤ L[k].2.2.2.length := fun j hj => by rw [hlen]; exact Nat.mul_le_mul_right _ (hq j hj)
  have hi : ∀ i j, i < a * b → j < a * b → pq W x y a i = pq W x y a j → i = j := fun i j hi hj e => pq_inj hx (by
    by_cases h0 : a = 0
    · subst h0
      simp at hi
    · exact .inr (by omega)) i j hi hj e
  have hgd : I.L.getD k noLev = ((W : Int), (H : Int), L[k].2.2.2) := by
    rw [hA, absL_getD L k hk]
    unfold absE
    rw [hW, hH]
  have eJ : sbI I k x y a b qs = ⟨I.f, I.L.set k ((W : Int), (H : Int), subK s L[k].2.2.2 (pq W x y a) qs (a * b)), I.ws, I.wt, I.mn, I.mg⟩ := by
    unfold sbI
    rw [if_pos hE, hlv, hs]
    show Img.mk _ (I.L.set _ (L[k].1, L[k].2.1, subK _ L[k].2.2.2 (pq L[k].1.toNat _ _ _) _ _)) _ _ _ _ = _
    rw [hW, hH]
    rfl
  have hsl := subK_len (b := qs) (a * b) hq1 (by omega)
  have hsh : Sh I.L (sbI I k x y a b qs).L := by
    rw [eJ]
    have h9 := sh_set (A := I.L) hkL (ys := subK s L[k].2.2.2 (pq W x y a) qs (a * b)) (by rw [hgd]; exact hsl)
    rw [hgd] at h9
    exact h9
  have f0 : I.f = (sbI I k x y a b qs).f := by rw [eJ]
  have f1 : I.ws = (sbI I k x y a b qs).ws := by rw [eJ]
  have f2 : I.wt = (sbI I k x y a b qs).wt := by rw [eJ]
  have f3 : I.mn = (sbI I k x y a b qs).mn := by rw [eJ]
  have f4 : I.mg = (sbI I k x y a b qs).mg := by rw [eJ]
  have hpJ : pieceE (sbI I k x y a b qs) k x y a b = 0 := by rw [← sh_piece hsh f0 f1 f2 f3 f4]; exact hp
  have hsJ : sizI (sbI I k x y a b qs).f = (s : Int) := by rw [← f0]; exact hs
  have hlJ : lvAt (sbI I k x y a b qs) k = ((W : Int), (H : Int), subK s L[k].2.2.2 (pq W x y a) qs (a * b)) := by
    unfold lvAt
    rw [eJ]
    show (I.L.set k _).getD k noLev = _
    rw [getD_set _ _ _ _ _ hkL, if_pos rfl]
  have egI : getB I k x y a b = getK s L[k].2.2.2 (pq W x y a) (a * b) := by
    unfold getB
    rw [if_pos hp, hlv, hs]
    show getK _ L[k].2.2.2 (pq L[k].1.toNat _ _ _) _ = _
    rw [hW]
    rfl
  have elI : (getB I k x y a b).length = a * b * s := by rw [egI]; exact getK_len _ hq1
  have hEJ : subE (sbI I k x y a b qs) k x y a b (getB I k x y a b).length = 0 := by
    unfold subE
    rw [if_neg (by simpa using hpJ), if_pos]
    rw [elI, hsJ]
    rfl
  refine ⟨hp, hpJ, ?_, ?_, (sh_cost hsh f0 f1 f2 f3 f4).symm, (sh_cmp hsh f0 f1 f2 f3 f4).symm, hEJ, ?_⟩
  · unfold getB
    rw [if_pos hpJ, hlJ, hsJ]
    exact get_sub hq1 hi hn
  · refine chkE_yes ?_
    rw [← sh_okB hsh f0 f1 f2 f3 f4, ← f0]
    exact hok
  · clear hsh hpJ
    generalize sbI I k x y a b qs = J at *
    have e9 : sbI J k x y a b (getB I k x y a b) = I := by
      unfold sbI
      rw [if_pos hEJ, hlJ, hsJ, egI]
      show Img.mk J.f (J.L.set k ((W : Int), (H : Int), subK s (subK s L[k].2.2.2 (pq W x y a) qs (a * b)) (pq W x y a) (getK s L[k].2.2.2 (pq W x y a) (a * b)) (a * b))) J.ws J.wt J.mn J.mg = I
      rw [sub_back hlen hq hi hn, ← f0, ← f1, ← f2, ← f3, ← f4, eJ]
      show Img.mk I.f ((I.L.set k _).set k _) _ _ _ _ = I
      rw [List.set_set]
      have e8 : I.L.set k ((W : Int), (H : Int), L[k].2.2.2) = I.L := by
        rw [← hgd]
        have : I.L.getD k noLev = I.L[k] := by simp [hkL]
        rw [this]
        exact List.set_getElem_self hkL
      rw [e8]
    rw [e9]
    exact same_refl I
end Go.Proofs.Ytpjapdifmfpcnaa
