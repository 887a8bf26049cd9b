/-
  Numbers that stay within 32 bits: what functions do, what textures come to, what registers become.
-/
import Derived.Test.YtgmahpkhdnabjaaGreatVPlJ
import Derived.Test.YtgmahpkhdnabjaaGreatVG8J
namespace Go.Proofs.YtgmahpkhdnabjaaGreat
open Go.RowKit
set_option linter.unusedVariables false
set_option linter.unusedSimpArgs false

theorem cut4_i32 {f : Nat → Int} (h : ∀ i, i < 4 → I32 (f i)) (i : Nat) : I32 (cut 4 f i) := by
  unfold cut
  split
  · exact h i (by omega)
  · unfold I32; omega
theorem fstI_i32 {x : Int} (h : I32 x) (i : Nat) : I32 (fstI x i) := by
  unfold fstI
  split
  · exact h
  · unfold I32; omega
theorem crsI_i32 (a b : Nat → Int) (i : Nat) : I32 (crsI a b i) := by
  unfold crsI crossI
  repeat' split
  all_goals first | exact subI_i32 _ _ | (unfold I32; omega)
theorem signI_i32 (a : Int) : I32 (signI a) := by unfold signI clampI I32; omega
theorem oneI_i32 (op : Int) {a : Int} (h : I32 a) : I32 (oneI op a) := by
  unfold oneI
  repeat' split
  · exact rawI_i32 _
  · exact rawI_i32 _
  · exact signI_i32 _
  · exact floorI_i32 h
  · exact subI_i32 _ _
theorem sqrtI_i32 (x : Int) : I32 (sqrtI x) := by
  unfold sqrtI
  split
  · unfold I32; omega
  · exact rawI_i32 _
theorem invI_i32 (x : Int) : I32 (invI x) := by
  unfold invI
  split
  · unfold I32; omega
  · exact rawI_i32 _
theorem sinI_i32 (x : Int) : I32 (sinI x) := by have := sineI_bounds (phaseI x); unfold sinI I32; omega
theorem cosI_i32 (x : Int) : I32 (cosI x) := by have := sineI_bounds ((phaseI x + 1073741824) % 4294967296); unfold cosI I32; omega
theorem powerI_i32 (x y : Int) : I32 (powerI x y) := by
  unfold powerI
  split
  · unfold I32; omega
  · exact exp2I_i32 _
theorem mtI_i32 (fn n : Int) {a b : Nat → Int} (ha : ∀ i, I32 (a i)) (i : Nat) : I32 (mtI fn n a b i) := by
  unfold mtI
  split; exact cut_i32 (fun i => sqrtI_i32 _) i
  split; exact cut_i32 (fun i => invI_i32 _) i
  split; exact cut_i32 (fun i => exp2I_i32 _) i
  split; exact cut_i32 (fun i => log2I_i32 (ha i)) i
  split; exact cut_i32 (fun i => sinI_i32 _) i
  split; exact cut_i32 (fun i => cosI_i32 _) i
  exact cut_i32 (fun i => powerI_i32 _ _) i
theorem bcI_i32 (fn n : Int) {a b : Nat → Int} (ha : ∀ i, I32 (a i)) (hb : ∀ i, I32 (b i)) (i : Nat) : I32 (bcI fn n a b i) := by
  unfold bcI
  cases ofTwoN fn with
  | some op => exact cut_i32 (fun i => twoI_i32 _ (ha i) (hb i)) i
  | none =>
    cases ofOneN fn with
    | some op => exact cut_i32 (fun i => oneI_i32 _ (ha i)) i
    | none => exact mtI_i32 fn n ha i
theorem clampI_i32 {a b c : Int} (ha : I32 a) (hb : I32 b) (hc : I32 c) : I32 (clampI a b c) := by unfold clampI I32 at *; omega
theorem ofI_i32 (fn n : Int) {a b c : Nat → Int} (ha : ∀ i, I32 (a i)) (hb : ∀ i, I32 (b i)) (hc : ∀ i, I32 (c i)) (i : Nat) : I32 (ofI fn n a b c i) := by
  unfold ofI
  split; exact cut_i32 (fun i => addI_i32 _ _) i
  split; exact cut_i32 (fun i => clampI_i32 (ha i) (hb i) (hc i)) i
  split; exact fstI_i32 (sumI_i32 _ _) i
  split; exact fstI_i32 (lengthI_i32 _ _) i
  split; exact crsI_i32 _ _ i
  split; exact unitI_i32 _ _ i
  exact bcI_i32 fn n ha hb i
theorem doI_i32 (fn base n : Int) {a b c : Nat → Int} (ha : ∀ i, I32 (a i)) (hb : ∀ i, I32 (b i)) (hc : ∀ i, I32 (c i)) (i : Nat) : I32 (doI fn base n a b c i) := by
  unfold doI
  split; exact truI_i32 _ i
  split; exact truI_i32 _ i
  split; exact truI_i32 _ i
  split; exact truI_i32 _ i
  split; exact truI_i32 _ i
  split; exact truI_i32 _ i
  split; exact truI_i32 _ i
  split; exact oiI_i32 _ _ _ _ i
  exact ofI_i32 fn n ha hb hc i
theorem txF_bd {I : Img} (h1 : 1 ≤ I.f.toNat) (h7 : I.f.toNat ≤ 7) (l : Lev) (i j : Int) (k : Nat) (hk : k < 4) : 0 ≤ txI I l i j k ∧ txI I l i j k ≤ 65536 := col_bd _ _ h1 h7 k hk
theorem atV_i32 (I : Img) (u q lod : Int) (i : Nat) (hi : i < 4) : I32 (atV I u q lod i) := by
  unfold atV
  split
  · unfold nul I32; omega
  · rename_i h
    by_cases hL : I.L.length = 0
    · have e : cmpB I = false := by simp [cmpB, hasB, hL]
      unfold atI
      rw [if_pos e]
      unfold blk0 I32
      split <;> omega
    have hf : 1 ≤ I.f.toNat ∧ I.f.toNat ≤ 7 := by
      simp only [Bool.not_eq_false] at h
      have := siz_ne ((okB_iff.1 h).2.2.2.1 (by omega)).1
      omega
    have b := fun l i j k hk => txF_bd (I := I) hf.1 hf.2 l i j k hk
    unfold atI
    split
    · unfold blk0 I32; split <;> omega
    split
    · unfold lnI
      have := lin_bd (lo := 0) (hi := 65536) (b (levAt I (askL I lod)) (((levAt I (askL I lod)).1 * u - 32768) / 65536) (((levAt I (askL I lod)).2.1 * q - 32768) / 65536) i hi) (b (levAt I (askL I lod)) (((levAt I (askL I lod)).1 * u - 32768) / 65536 + 1) (((levAt I (askL I lod)).2.1 * q - 32768) / 65536) i hi)
        (b (levAt I (askL I lod)) (((levAt I (askL I lod)).1 * u - 32768) / 65536) (((levAt I (askL I lod)).2.1 * q - 32768) / 65536 + 1) i hi) (b (levAt I (askL I lod)) (((levAt I (askL I lod)).1 * u - 32768) / 65536 + 1) (((levAt I (askL I lod)).2.1 * q - 32768) / 65536 + 1) i hi)
        (f := ((levAt I (askL I lod)).1 * u - 32768) % 65536) (g := ((levAt I (askL I lod)).2.1 * q - 32768) % 65536) (by omega) (by omega)
      unfold I32
      omega
    · unfold nrI
      have := b (levAt I (askL I lod)) ((levAt I (askL I lod)).1 * u / 65536) ((levAt I (askL I lod)).2.1 * q / 65536) i hi
      unfold I32
      omega
theorem texI_i32 (G : List (Img × Value × List Ent)) (a b : Nat → Int) (i : Nat) : I32 (texI G a b i) := by
  unfold texI
  refine cut4_i32 (fun i hi => ?_) i
  split
  · split
    · exact atV_i32 _ _ _ _ i hi
    · unfold blackV I32; split <;> omega
  · unfold blackV I32; split <;> omega
theorem loadP_i32 {C : Cod} {S : Sur} (hf : Fit C S) (I : Nat → Int) (i : Nat) : I32 (loadP S I i) := by
  unfold loadP
  split; exact hf.a32 _ _
  split; exact hf.u32 _ _
  split; exact hf.v32 _ _
  split; exact hf.c32 _
  split; exact truI_i32 _ _
  have := hf.p32 0
  have := hf.p32 1
  show I32 (if i = 0 then S.pt 0 else if i = 1 then S.pt 1 else 0)
  repeat' split
  all_goals first | assumption | (unfold I32; omega)
theorem valP_i32 {C : Cod} {S : Sur} {G : List (Img × Value × List Ent)} {R : List (Nat → Int)} {I : Nat → Int} (hf : Fit C S) (h : ∀ x i, I32 (reg R x i)) (hI : OkI I) (i : Nat) : I32 (valP S G R I i) := by
  unfold valP
  split; exact cut4_i32 (fun i hi => hI.2.1 i hi) i
  split; exact h _ _
  split; exact loadP_i32 hf I i
  split; exact doI_i32 _ _ _ (h _) (h _) (h _) i
  split; exact cut_i32 (fun i => h _ _) i
  split; exact layK_i32 (h _) (h _) _ _ i
  split; exact cut_i32 (fun i => cvI_i32 _ _ (h _ _)) i
  exact texI_i32 _ _ _ i
end Go.Proofs.YtgmahpkhdnabjaaGreat
