/-
  The machine of registers in memory: surroundings, registers, what has come of a run; load and store.
-/
import Derived.Test.YtgmahpkhdnabjaaGreatVMDJ
import Derived.Test.YtgmahpkhdnabjaaGreatPGJ
import Derived.Test.YtgmahpkhdnabjaaGreatCHJ
import Derived.Deep.Cut
namespace Go.Proofs.YtgmahpkhdnabjaaGreat
open Go.RowKit
set_option linter.unusedVariables false
set_option linter.unusedSimpArgs false

/-- Surroundings as cells: three rows, Coord, Front, Point, the images. -/
structure EnvC where
  va : Value
  vu : Value
  vv : Value
  co : Nat → Int
  fr : Bool
  pt : Nat → Int
  vi : Value
def envA (E : EnvC) : Array Value := #[E.va, E.vu, E.vv, .int .i32 (E.co 0), .int .i32 (E.co 1), .int .i32 (E.co 2), .int .i32 (E.co 3), .bool E.fr, .int .i32 (E.pt 0), .int .i32 (E.pt 1), .int .i32 (E.pt 2), .int .i32 (E.pt 3), E.vi]
/-- What has come of a run, as cells. -/
structure OutC where
  po : Nat → Int
  sz : Int
  vy : Value
  cl : Nat → Int
  dc : Bool
def outA (O : OutC) : Array Value := #[.int .i32 (O.po 0), .int .i32 (O.po 1), .int .i32 (O.po 2), .int .i32 (O.po 3), .int .i32 O.sz, O.vy, .int .i32 (O.cl 0), .int .i32 (O.cl 1), .int .i32 (O.cl 2), .int .i32 (O.cl 3), .bool O.dc]
/-- A machine as cells. -/
def mcA (E : EnvC) (vr : Value) (O : OutC) : Array Value :=
  #[E.va, E.vu, E.vv, .int .i32 (E.co 0), .int .i32 (E.co 1), .int .i32 (E.co 2), .int .i32 (E.co 3), .bool E.fr, .int .i32 (E.pt 0), .int .i32 (E.pt 1), .int .i32 (E.pt 2), .int .i32 (E.pt 3), E.vi, vr,
    .int .i32 (O.po 0), .int .i32 (O.po 1), .int .i32 (O.po 2), .int .i32 (O.po 3), .int .i32 O.sz, O.vy, .int .i32 (O.cl 0), .int .i32 (O.cl 1), .int .i32 (O.cl 2), .int .i32 (O.cl 3), .bool O.dc]
theorem sizeMc : (Tryz.prog.info? 75).map (·.size) = some 25 := by kernel_rfl
/-- Surroundings, plainly. -/
structure Sur where
  att : List (Nat → Int)
  uni : List (Nat → Int)
  vry : List (Nat → Int)
  co : Nat → Int
  fr : Bool
  pt : Nat → Int
def reg (R : List (Nat → Int)) (x : Int) : Nat → Int := R.getD x.toNat nul
/-- What OpLoad loads. -/
def loadP (S : Sur) (I : Nat → Int) : Nat → Int :=
  if I 1 = 1 then reg S.att (I 5) else if I 1 = 2 then reg S.uni (I 5) else if I 1 = 3 then reg S.vry (I 5) else if I 1 = 4 then S.co else if I 1 = 5 then truI S.fr else fun i => if i = 0 then S.pt 0 else if i = 1 then S.pt 1 else 0
/-- The rows of vectors of surroundings in memory. -/
def SurAt (w : World) (E : EnvC) (S : Sur) : Prop := VRow w E.va S.att ∧ VRow w E.vu S.uni ∧ VRow w E.vv S.vry ∧ E.co = S.co ∧ E.fr = S.fr ∧ E.pt = S.pt
theorem SurAt.ext {w w' : World} {E : EnvC} {S : Sur} (h : SurAt w E S) (hx : Ext w w') : SurAt w' E S := ⟨h.1.ext hx, h.2.1.ext hx, h.2.2.1.ext hx, h.2.2.2⟩
/-- A vector of a row in memory. -/
theorem VRow.reg {w : World} {v : Value} {L : List (Nat → Int)} (h : VRow w v L) {x : Int} (h0 : 0 ≤ x) (h1 : x < (L.length : Int)) :
    ∃ b off cap, ∃ k : Nat, x = (k : Int) ∧ k < L.length ∧ v = .slice (some ⟨b, off, none⟩) L.length cap ∧ w.cell? ⟨b, off + k * 4, none⟩ = some (.int .i32 (Go.Proofs.YtgmahpkhdnabjaaGreat.reg L x 0)) ∧ w.cell? ⟨b, off + k * 4 + 1, none⟩ = some (.int .i32 (Go.Proofs.YtgmahpkhdnabjaaGreat.reg L x 1)) ∧ w.cell? ⟨b, off + k * 4 + 2, none⟩ = some (.int .i32 (Go.Proofs.YtgmahpkhdnabjaaGreat.reg L x 2)) ∧ w.cell? ⟨b, off + k * 4 + 3, none⟩ = some (.int .i32 (Go.Proofs.YtgmahpkhdnabjaaGreat.reg L x 3)) := by
  obtain ⟨k, rfl⟩ : ∃ k : Nat, x = (k : Int) := ⟨x.toNat, by omega⟩
  have hk : k < L.length := by omega
  rcases h with ⟨rfl, _⟩ | ⟨_, b, off, cap, rfl, hc⟩
  · simp at hk
  · refine ⟨b, off, cap, k, rfl, hk, rfl, ?_⟩
    have e : Go.Proofs.YtgmahpkhdnabjaaGreat.reg L (k : Int) = L.getD k nul := by unfold Go.Proofs.YtgmahpkhdnabjaaGreat.reg; rw [Int.toNat_natCast]
    rw [e]
    exact ⟨hc k 0 hk (by omega), hc k 1 hk (by omega), hc k 2 hk (by omega), hc k 3 hk (by omega)⟩
end Go.Proofs.YtgmahpkhdnabjaaGreat
