/-
  Pixels: what was unpacked is packed as the same bytes (numbers alone); bytes.Equal of two rows of the same bytes.
-/
import Derived.Test.YtijkkhnhejadgaaPJ
import Derived.Test.YtijkkhnhejadgaaPM
import Derived.Shelf.Bytes.SlEqualAll
namespace Go.Proofs.Ytijkkhnhejadgaa
open Go.RowKit

theorem low_num : ∀ (ys : List Int) (n : Nat), Byt ys → ys.length = n → low (numOf ys) n = ys
  | [], 0, _, _ => rfl
  | y :: ys, n + 1, hB, hl => by
    have hy := hB y (by simp)
    have ih := low_num ys n (fun x hx => hB x (by simp [hx])) (by simpa using hl)
    have e : numOf (y :: ys) = y + 256 * numOf ys := rfl
    rw [e]
    simp only [low]
    rw [show (y + 256 * numOf ys) % 256 = y by omega, show (y + 256 * numOf ys) / 256 = numOf ys by omega, ih]

theorem back_k (x : Int) (s k : Nat) (h1 : 1 ≤ k) (h2 : k ≤ 16) : bitsI (numI (x / 2 ^ s % 2 ^ k) k) k = x / 2 ^ s % 2 ^ k := by
  have := mod_full (x / 2 ^ s) k
  exact bits_num h1 h2 this.1 this.2

theorem pack_col (f : Nat) (x : Int) (h1 : 1 ≤ f) (h7 : f ≤ 7) (h0 : 0 ≤ x) (hx : x < 256 ^ siz f) : packN f (colN f x) = x := by
  rcases seven h1 h7 with rfl | rfl | rfl | rfl | rfl | rfl | rfl
  · obtain ⟨k0, k1, k2, k3⟩ := col1 x
    rw [pack1, k0, k1, k2, k3, back_k _ _ _ (by decide) (by decide), back_k _ _ _ (by decide) (by decide), back_k _ _ _ (by decide) (by decide), back_k _ _ _ (by decide) (by decide)]
    simp only [siz] at hx
    omega
  · obtain ⟨k0, k1, k2, k3⟩ := col2 x
    rw [pack2, k0, k1, k2, back_k _ _ _ (by decide) (by decide), back_k _ _ _ (by decide) (by decide), back_k _ _ _ (by decide) (by decide)]
    simp only [siz] at hx
    omega
  · obtain ⟨k0, k1, k2, k3⟩ := col3 x
    rw [pack3, k0, k1, k2, k3, back_k _ _ _ (by decide) (by decide), back_k _ _ _ (by decide) (by decide), back_k _ _ _ (by decide) (by decide), back_k _ _ _ (by decide) (by decide)]
    simp only [siz] at hx
    omega
  · obtain ⟨k0, k1, k2, k3⟩ := col4 x
    rw [pack4, k0, k1, k2, k3, back_k _ _ _ (by decide) (by decide), back_k _ _ _ (by decide) (by decide), back_k _ _ _ (by decide) (by decide), back_k _ _ _ (by decide) (by decide)]
    simp only [siz] at hx
    omega
  · obtain ⟨k0, k1, k2, k3⟩ := col5 x
    rw [pack5, k0, back_k _ _ _ (by decide) (by decide)]
    simp only [siz] at hx
    omega
  · obtain ⟨k0, k1, k2, k3⟩ := col6 x
    rw [pack6, k3, back_k _ _ _ (by decide) (by decide)]
    simp only [siz] at hx
    omega
  · obtain ⟨k0, k1, k2, k3⟩ := col7 x
    rw [pack7, k0, k3, back_k _ _ _ (by decide) (by decide), back_k _ _ _ (by decide) (by decide)]
    simp only [siz] at hx
    omega

theorem pk_col (f : Nat) (ys : List Int) (h1 : 1 ≤ f) (h7 : f ≤ 7) (hB : Byt ys) (hl : ys.length = siz f) : pk f (colN f (numOf ys)) = ys := by
  have hb := numOf_le ys hB (siz f) (by omega)
  unfold pk
  rw [pack_col f _ h1 h7 hb.1 hb.2]
  exact low_num ys _ hB hl

/-- The bytes of the colours of pixels are these bytes. -/
theorem lay_row (f : Nat) (xs : List Int) (h1 : 1 ≤ f) (h7 : f ≤ 7) (hB : Byt xs) : ∀ n, n * siz f ≤ xs.length → layL f (rowL f xs n) = xs.take (n * siz f)
  | 0, _ => by simp [rowL, layL]
  | n + 1, hn => by
    have ih := lay_row f xs h1 h7 hB n (by rw [Nat.succ_mul] at hn; omega)
    have hp := px_length f xs n hn
    unfold rowL at ih ⊢
    rw [List.range_succ, List.map_append, List.map_singleton]
    unfold layL at ih ⊢
    rw [List.flatMap_append, ih, List.flatMap_singleton, pk_col f (px f xs n) h1 h7 (px_byt hB) hp]
    unfold px
    rw [Nat.succ_mul, List.take_add]
theorem lay_row_all (f : Nat) (xs : List Int) (n : Nat) (h1 : 1 ≤ f) (h7 : f ≤ 7) (hB : Byt xs) (hn : n * siz f = xs.length) : layL f (rowL f xs n) = xs := by
  rw [lay_row f xs h1 h7 hB n (by omega), hn, List.take_length]

theorem str_of (ao : Option Addr) (n cap : Nat) (xs : List Int) (w : World) (hr : Row .u8 w (.slice ao n cap) xs) (hl : n = xs.length) : (convert 36 9 (.slice ao n cap)).run Try.prog w = .ok (.string (strOfNums xs)) w := by
  subst hl
  rcases hr with ⟨rfl, ao', cap', hv, _⟩ | ⟨hne, b, off, cap', hv, _, _, hc⟩
  · cases hv
    exact run_convert_bytes_zero w 36 5 Try.underlying36 Try.underlying5 ao cap 9 Try.underlying9
  · cases hv
    exact run_convert_bytes_arg (P := Try.prog) w 36 5 Try.underlying36 Try.underlying5 b off xs.length cap xs rfl hc 9 Try.underlying9

theorem equal_same (ao ap : Option Addr) (cap cbp : Nat) (xs : List Int) (w : World) (hr : Row .u8 w (.slice ao xs.length cap) xs) (hs : Row .u8 w (.slice ap xs.length cbp) xs) :
    Calls Try.prog 23 #[.slice ao xs.length cap, .slice ap xs.length cbp] w fun e w' => e = .returned (.bool true) ∧ w' = w := by
  have h1 := str_of ao xs.length cap xs w hr rfl
  have h2 := str_of ap xs.length cbp xs w hs rfl
  generalize strOfNums xs = s at *
  clear hr hs
  go_enter Try.func23, Try.ntmps23
  go_wp2
  go_ret
  exact ⟨by simp, rfl⟩
end Go.Proofs.Ytijkkhnhejadgaa
