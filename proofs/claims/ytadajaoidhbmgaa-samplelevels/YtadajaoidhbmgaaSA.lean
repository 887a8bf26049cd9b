/-
  Plain facts on colours out of pictures: numbers wrapped into places, colours between pixels. Nothing here speaks of the program.
-/
import Derived.Test.YtadajaoidhbmgaaJO
import Derived.Test.YtadajaoidhbmgaaPDJ
namespace Go.Proofs.Ytadajaoidhbmgaa
open Go.RowKit

/-- A whole number, wrapped into n places. -/
def wrapI (m i n : Int) : Int :=
  if n < 1 ∨ 64 < n then 0 else if m = 1 then i % n else if m = 2 then max 0 (min i (n - 1)) else if m = 3 then min (i % (2 * n)) (2 * n - 1 - i % (2 * n)) else 0
theorem wrapI_bd {m i n : Int} (h1 : 1 ≤ n) (h2 : n ≤ 64) : 0 ≤ wrapI m i n ∧ wrapI m i n < n := by
  unfold wrapI
  rw [if_neg (by omega)]
  have a := Int.emod_nonneg i (show n ≠ 0 by omega)
  have b := Int.emod_lt_of_pos i (show 0 < n by omega)
  have c := Int.emod_nonneg i (show 2 * n ≠ 0 by omega)
  have d := Int.emod_lt_of_pos i (show 0 < 2 * n by omega)
  generalize i % n = x at *
  generalize i % (2 * n) = y at *
  split
  · omega
  · split
    · omega
    · split <;> omega
theorem emod_tmod {i n : Int} (h : 0 < n) : i % n = if i.tmod n < 0 then i.tmod n + n else i.tmod n := by
  have h1 := Int.tmod_add_mul_tdiv i n
  have h2 := Int.emod_add_mul_ediv i n
  have a := Int.emod_nonneg i (show n ≠ 0 by omega)
  have b := Int.emod_lt_of_pos i h
  have c := Int.tmod_lt_of_pos i h
  have d : -n < i.tmod n := by
    have := Int.tmod_lt_of_pos (-i) h
    rw [Int.neg_tmod] at this
    omega
  by_cases hn : i.tmod n < 0
  · rw [if_pos hn]
    rw [← Int.emod_eq_of_lt (a := i.tmod n + n) (b := n) (by omega) (by omega)]
    have e : i = (i.tmod n + n) + n * (i.tdiv n - 1) := by rw [Int.mul_sub]; omega
    conv => lhs; rw [e]
    rw [Int.add_mul_emod_self_left]
  · rw [if_neg hn]
    rw [← Int.emod_eq_of_lt (a := i.tmod n) (b := n) (by omega) (by omega)]
    conv => lhs; rw [← h1]
    rw [Int.add_mul_emod_self_left, Int.emod_eq_of_lt (by omega) (by omega)]
theorem tmod_bd {i n : Int} (h : 0 < n) : -n < i.tmod n ∧ i.tmod n < n := by
  have c := Int.tmod_lt_of_pos i h
  have := Int.tmod_lt_of_pos (-i) h
  rw [Int.neg_tmod] at this
  omega

/-- The place of a pixel of a level. -/
def plN (W H ws wt i j : Int) : Nat := (wrapI wt j H * W + wrapI ws i W).toNat
theorem plN_eq {W H ws wt i j : Int} (hW : 1 ≤ W ∧ W ≤ 64) (hH : 1 ≤ H ∧ H ≤ 64) : ((plN W H ws wt i j : Nat) : Int) = wrapI wt j H * W + wrapI ws i W := by
  have a := wrapI_bd (m := wt) (i := j) hH.1 hH.2
  have b := wrapI_bd (m := ws) (i := i) hW.1 hW.2
  have c : 0 ≤ wrapI wt j H * W := Int.mul_nonneg a.1 (by omega)
  unfold plN
  omega
theorem plN_lt {W H ws wt i j : Int} (hW : 1 ≤ W ∧ W ≤ 64) (hH : 1 ≤ H ∧ H ≤ 64) : (((plN W H ws wt i j : Nat) : Int) + 1) ≤ W * H := by
  rw [plN_eq hW hH]
  have a := wrapI_bd (m := wt) (i := j) hH.1 hH.2
  have b := wrapI_bd (m := ws) (i := i) hW.1 hW.2
  have c : wrapI wt j H * W ≤ (H - 1) * W := Int.mul_le_mul_of_nonneg_right (by omega) (by omega)
  rw [Int.sub_mul, Int.one_mul, Int.mul_comm H W] at c
  omega

/-- The colour of a level at whole places. -/
def txI (I : Img) (l : Lev) (i j : Int) : Nat → Int := colN I.f.toNat (numOf (cellL (sizI I.f).toNat l.2.2 (plN l.1 l.2.1 I.ws I.wt i j)))
/-- The nearest colour. -/
def nrI (I : Img) (l : Lev) (u v : Int) : Nat → Int := txI I l (l.1 * u / 65536) (l.2.1 * v / 65536)
/-- Four numbers together. -/
def shS (a b c d f g : Int) : Int := a * ((65536 - f) * (65536 - g)) + b * (f * (65536 - g)) + c * ((65536 - f) * g) + d * (f * g)
def linI (a b c d f g : Int) : Int := (shS a b c d f g + 2147483648) / 4294967296
/-- The linear colour. -/
def lnI (I : Img) (l : Lev) (u v : Int) : Nat → Int := fun k =>
  linI (txI I l ((l.1 * u - 32768) / 65536) ((l.2.1 * v - 32768) / 65536) k) (txI I l ((l.1 * u - 32768) / 65536 + 1) ((l.2.1 * v - 32768) / 65536) k) (txI I l ((l.1 * u - 32768) / 65536) ((l.2.1 * v - 32768) / 65536 + 1) k) (txI I l ((l.1 * u - 32768) / 65536 + 1) ((l.2.1 * v - 32768) / 65536 + 1) k)
    ((l.1 * u - 32768) % 65536) ((l.2.1 * v - 32768) % 65536)
/-- Why there is no colour. -/
def rfE (I : Img) (lv : Int) : Int := if okB (sizI I.f) I = false then 180 else if hasB I.L lv = true then 0 else 4
def levAt (I : Img) (lv : Int) : Lev := I.L.getD lv.toNat noLev
/-- The level of a lod. -/
def lodI (I : Img) (lod : Int) : Int := wrapI 2 ((lod + 32768) / 65536) (cntI (levAt I 0).1 (levAt I 0).2.1)
def askL (I : Img) (lod : Int) : Int := if lod ≤ 0 then 0 else if I.mn = 3 ∨ I.mn = 4 then lodI I lod else 0
def askM (I : Img) (lod : Int) : Int := if lod ≤ 0 then I.mg else if I.mn = 3 then 1 else if I.mn = 4 then 2 else I.mn
def blk0 : Nat → Int := fun k => if k = 3 then 65536 else 0
/-- The colour at a place. -/
def atI (I : Img) (u v lod : Int) : Nat → Int :=
  if cmpB I = false then blk0 else if askM I lod = 2 then lnI I (levAt I (askL I lod)) u v else nrI I (levAt I (askL I lod)) u v

/-! ### What lies between -/
theorem sh_sum (f g : Int) : (65536 - f) * (65536 - g) + f * (65536 - g) + (65536 - f) * g + f * g = 4294967296 := by grind
theorem shares {f g : Int} (hf : 0 ≤ f ∧ f < 65536) (hg : 0 ≤ g ∧ g < 65536) : 0 ≤ (65536 - f) * (65536 - g) ∧ 0 ≤ f * (65536 - g) ∧ 0 ≤ (65536 - f) * g ∧ 0 ≤ f * g :=
  ⟨Int.mul_nonneg (by omega) (by omega), Int.mul_nonneg (by omega) (by omega), Int.mul_nonneg (by omega) (by omega), Int.mul_nonneg (by omega) (by omega)⟩
theorem sh_bd {a b c d f g lo hi : Int} (ha : lo ≤ a ∧ a ≤ hi) (hb : lo ≤ b ∧ b ≤ hi) (hc : lo ≤ c ∧ c ≤ hi) (hd : lo ≤ d ∧ d ≤ hi) (hf : 0 ≤ f ∧ f < 65536) (hg : 0 ≤ g ∧ g < 65536) :
    lo * 4294967296 ≤ shS a b c d f g ∧ shS a b c d f g ≤ hi * 4294967296 := by
  obtain ⟨p, q, r, s⟩ := shares hf hg
  have e := sh_sum f g
  unfold shS
  generalize (65536 - f) * (65536 - g) = P at *
  generalize f * (65536 - g) = Q at *
  generalize (65536 - f) * g = R at *
  generalize f * g = S at *
  have a1 := Int.mul_le_mul_of_nonneg_right ha.1 p
  have a2 := Int.mul_le_mul_of_nonneg_right ha.2 p
  have b1 := Int.mul_le_mul_of_nonneg_right hb.1 q
  have b2 := Int.mul_le_mul_of_nonneg_right hb.2 q
  have c1 := Int.mul_le_mul_of_nonneg_right hc.1 r
  have c2 := Int.mul_le_mul_of_nonneg_right hc.2 r
  have d1 := Int.mul_le_mul_of_nonneg_right hd.1 s
  have d2 := Int.mul_le_mul_of_nonneg_right hd.2 s
  rw [← e, Int.mul_add, Int.mul_add, Int.mul_add, Int.mul_add, Int.mul_add, Int.mul_add]
  omega
theorem lin_bd {a b c d f g lo hi : Int} (ha : lo ≤ a ∧ a ≤ hi) (hb : lo ≤ b ∧ b ≤ hi) (hc : lo ≤ c ∧ c ≤ hi) (hd : lo ≤ d ∧ d ≤ hi) (hf : 0 ≤ f ∧ f < 65536) (hg : 0 ≤ g ∧ g < 65536) :
    lo ≤ linI a b c d f g ∧ linI a b c d f g ≤ hi := by
  have h := sh_bd ha hb hc hd hf hg
  unfold linI
  omega
theorem lin_zero (a b c d : Int) : linI a b c d 0 0 = a := by
  have e : shS a b c d 0 0 = a * 4294967296 := by unfold shS; grind
  unfold linI
  rw [e]
  omega

theorem col_bd (f : Nat) (x : Int) (h1 : 1 ≤ f) (h7 : f ≤ 7) (k : Nat) (hk : k < 4) : 0 ≤ colN f x k ∧ colN f x k ≤ 65536 := by
  have hn : ∀ s b, 1 ≤ b → b ≤ 16 → 0 ≤ numI (x / 2 ^ s % 2 ^ b) b ∧ numI (x / 2 ^ s % 2 ^ b) b ≤ 65536 := fun s b hb1 hb2 => num_bound hb1 hb2 (mod_full _ b).1 (mod_full _ b).2
  rcases seven h1 h7 with rfl | rfl | rfl | rfl | rfl | rfl | rfl <;> rcases (by omega : k = 0 ∨ k = 1 ∨ k = 2 ∨ k = 3) with rfl | rfl | rfl | rfl
  · exact hn 0 8 (by decide) (by decide)
  · exact hn 8 8 (by decide) (by decide)
  · exact hn 16 8 (by decide) (by decide)
  · exact hn 24 8 (by decide) (by decide)
  · exact hn 11 5 (by decide) (by decide)
  · exact hn 5 6 (by decide) (by decide)
  · exact hn 0 5 (by decide) (by decide)
  · exact (by decide : (0 : Int) ≤ 65536 ∧ (65536 : Int) ≤ 65536)
  · exact hn 12 4 (by decide) (by decide)
  · exact hn 8 4 (by decide) (by decide)
  · exact hn 4 4 (by decide) (by decide)
  · exact hn 0 4 (by decide) (by decide)
  · exact hn 11 5 (by decide) (by decide)
  · exact hn 6 5 (by decide) (by decide)
  · exact hn 1 5 (by decide) (by decide)
  · exact hn 0 1 (by decide) (by decide)
  · exact hn 0 8 (by decide) (by decide)
  · exact hn 0 8 (by decide) (by decide)
  · exact hn 0 8 (by decide) (by decide)
  · exact (by decide : (0 : Int) ≤ 65536 ∧ (65536 : Int) ≤ 65536)
  · exact (by decide : (0 : Int) ≤ 0 ∧ (0 : Int) ≤ 65536)
  · exact (by decide : (0 : Int) ≤ 0 ∧ (0 : Int) ≤ 65536)
  · exact (by decide : (0 : Int) ≤ 0 ∧ (0 : Int) ≤ 65536)
  · exact hn 0 8 (by decide) (by decide)
  · exact hn 0 8 (by decide) (by decide)
  · exact hn 0 8 (by decide) (by decide)
  · exact hn 0 8 (by decide) (by decide)
  · exact hn 8 8 (by decide) (by decide)

/-! ### Levels of an image that may be -/
theorem siz_ne {f : Int} (h : sizI f ≠ 0) : 1 ≤ f ∧ f ≤ 7 := by
  unfold sizI at h
  by_cases h1 : f < 1 ∨ 7 < f
  · rw [if_neg (by omega), if_neg (by omega), if_neg (by omega)] at h
    exact absurd rfl h
  · omega
/-- What is known of a level that is there. -/
structure LvOk (I : Img) (l : Lev) : Prop where
  f : 1 ≤ I.f ∧ I.f ≤ 7
  w : 1 ≤ l.1 ∧ l.1 ≤ 64
  h : 1 ≤ l.2.1 ∧ l.2.1 ≤ 64
  n : (l.2.2.length : Int) = l.1 * l.2.1 * sizI I.f
theorem has_lt {A : List Lev} {i : Int} (h : hasB A i = true) : 0 ≤ i ∧ i < A.length ∧ 0 < (A.getD i.toNat noLev).1 := by
  simp only [hasB, Bool.and_eq_true, decide_eq_true_eq] at h
  omega
theorem lv_ok {I : Img} {lv : Int} (hok : okB (sizI I.f) I = true) (h : hasB I.L lv = true) : LvOk I (levAt I lv) := by
  obtain ⟨h0, h1, h2⟩ := has_lt h
  obtain ⟨a1, a2, a3, a4, _⟩ := okB_iff.1 hok
  have hlt : lv.toNat < I.L.length := by omega
  have e : I.L.getD lv.toNat noLev = I.L[lv.toNat] := by simp [hlt]
  have hm : levAt I lv ∈ I.L := by
    unfold levAt
    rw [e]
    exact List.getElem_mem hlt
  have hl := a3 _ hm
  have hs := (a4 (by omega)).1
  have hw : 0 < (levAt I lv).1 := h2
  unfold lvB at hl
  rw [Bool.or_eq_true] at hl
  rcases hl with hl | hl
  · have := (noneB_iff.1 hl).1
    omega
  · obtain ⟨b1, b2, b3⟩ := goodB_iff.1 hl
    exact ⟨siz_ne hs, b1, b2, b3⟩
theorem lv_mem {I : Img} {lv : Int} (h : hasB I.L lv = true) : ∃ hlt : lv.toNat < I.L.length, levAt I lv = I.L[lv.toNat] := by
  obtain ⟨h0, h1, h2⟩ := has_lt h
  refine ⟨by omega, ?_⟩
  unfold levAt
  have hlt : lv.toNat < I.L.length := by omega
  simp [hlt]
theorem LvOk.siz {I : Img} {l : Lev} (h : LvOk I l) : (sizI I.f).toNat = siz I.f.toNat ∧ 1 ≤ I.f.toNat ∧ I.f.toNat ≤ 7 ∧ sizI I.f = (siz I.f.toNat : Nat) ∧ ((I.f.toNat : Nat) : Int) = I.f := by
  have h1 := h.f
  have e : ((I.f.toNat : Nat) : Int) = I.f := by omega
  have h2 := siz_eq I.f.toNat
  rw [e] at h2
  refine ⟨by omega, by omega, by omega, h2.symm, e⟩
theorem tx_bd {I : Img} {l : Lev} (h : LvOk I l) (i j : Int) (k : Nat) (hk : k < 4) : 0 ≤ txI I l i j k ∧ txI I l i j k ≤ 65536 := col_bd _ _ h.siz.2.1 h.siz.2.2.1 k hk
theorem ln_bd {I : Img} {l : Lev} (h : LvOk I l) (u v : Int) (k : Nat) (hk : k < 4) : 0 ≤ lnI I l u v k ∧ lnI I l u v k ≤ 65536 :=
  lin_bd (tx_bd h _ _ k hk) (tx_bd h _ _ k hk) (tx_bd h _ _ k hk) (tx_bd h _ _ k hk) ⟨Int.emod_nonneg _ (by decide), Int.emod_lt_of_pos _ (by decide)⟩ ⟨Int.emod_nonneg _ (by decide), Int.emod_lt_of_pos _ (by decide)⟩

/-! ### Which level -/
theorem cmp_ok {I : Img} (h : cmpB I = true) : okB (sizI I.f) I = true ∧ hasB I.L 0 = true := by
  simp only [cmpB, Bool.and_eq_true] at h
  exact ⟨h.1.1, h.1.2⟩
theorem lod_bd {I : Img} (hl : LvOk I (levAt I 0)) (lod : Int) : 0 ≤ lodI I lod ∧ lodI I lod ≤ (lgs (levAt I 0).1 (levAt I 0).2.1 : Nat) := by
  have e : cntI (levAt I 0).1 (levAt I 0).2.1 = (lgs (levAt I 0).1 (levAt I 0).2.1 : Int) + 1 := by
    unfold cntI
    rw [if_pos ⟨sideB_iff.2 hl.w, sideB_iff.2 hl.h⟩]
  have h6 : lgs (levAt I 0).1 (levAt I 0).2.1 ≤ 6 := lg_le _
  unfold lodI
  rw [e]
  have := wrapI_bd (m := 2) (i := (lod + 32768) / 65536) (n := (lgs (levAt I 0).1 (levAt I 0).2.1 : Int) + 1) (by omega) (by omega)
  omega
theorem ask_has {I : Img} (h : cmpB I = true) (lod : Int) : hasB I.L (askL I lod) = true := by
  obtain ⟨hok, h0⟩ := cmp_ok h
  unfold askL
  split
  · exact h0
  · split
    · rename_i hm
      have hl := lv_ok hok h0
      have hb := lod_bd hl lod
      simp only [cmpB, Bool.and_eq_true] at h
      have h3 := h.2
      have hmip : mipB I = true := by unfold mipB; exact decide_eq_true hm
      rw [hmip] at h3
      have hch : chainB I.L = true := by
        by_cases hp : (powB (I.L.getD 0 noLev).1 && powB (I.L.getD 0 noLev).2.1) = false
        · rw [if_pos hp] at h3
          simp at h3
        · rw [if_neg hp, if_pos rfl] at h3
          exact h3
      simp only [chainB, Bool.and_eq_true, decide_eq_true_eq, List.all_eq_true] at hch
      obtain ⟨c1, c2⟩ := hch
      have hb2 : lodI I lod ≤ (lgs (I.L.getD 0 noLev).1 (I.L.getD 0 noLev).2.1 : Nat) := hb.2
      have c3 := c2 (lodI I lod).toNat (List.mem_range.2 (by omega))
      unfold stepB at c3
      have c4 := of_decide_eq_true c3
      have c5 := halfs_side hl.w (lodI I lod).toNat
      have c6 : (I.L.getD (lodI I lod).toNat noLev).1 = halfs (levAt I 0).1 (lodI I lod).toNat := c4.1
      unfold hasB
      rw [Bool.and_eq_true, decide_eq_true_eq, decide_eq_true_eq]
      exact ⟨by omega, by omega⟩
    · exact h0
end Go.Proofs.Ytadajaoidhbmgaa
