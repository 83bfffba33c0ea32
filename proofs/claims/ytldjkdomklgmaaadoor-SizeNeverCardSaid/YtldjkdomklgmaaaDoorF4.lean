/- What one drawing makes of a valid size. -/
import Derived.Test.YtldjkdomklgmaaaDoorV2
import Derived.Test.YtldjkdomklgmaaaDoorC4
namespace Go.Proofs.YtldjkdomklgmaaaDoor
set_option linter.unusedVariables false
set_option linter.unusedSimpArgs false
open Go.RowKit

theorem nearS_bd {st n : Int} (h0 : 0 ≤ n) (h1 : n ≤ 1000000000) (hst : st = 100 ∨ st = 254) : 0 ≤ nearS st n ∧ nearS st n ≤ 1000000000 := by
  have hd := downS_bd h0 hst
  have hn := nearS_cases st n
  omega
/-- Drawn again a valid size is one, or there is none. -/
theorem conv_spec {un n l u : Int} (hun : un = 1 ∨ un = 2) (h : okD n l u = true) :
    ∃ x y z e, convS un n l u = ((x, y, z), e) ∧ ((e = 0 ∧ x = nearS (stepU un) n ∧ y = upS (stepU un) l ∧ z = downS (stepU un) u ∧ y ≤ z ∧ okD x y z = true) ∨ (e = 6 ∧ x = 0 ∧ y = 0 ∧ z = 0 ∧ downS (stepU un) u < upS (stepU un) l)) := by
  obtain ⟨h1, h2, h3, h4, h5⟩ := okD_iff.1 h
  have hU : allU [un] = true := by simpa [allU, unitB] using hun
  unfold convS redrawS
  rw [if_neg (by rw [h]; simp), if_neg (by simp), if_neg (by rw [hU]; simp)]
  by_cases hx : downS (stepU un) u < upS (stepU un) l
  · have h5 : foldD [un] (n, l, u) = none := if_pos hx
    rw [h5]
    exact ⟨0, 0, 0, 6, rfl, .inr ⟨rfl, rfl, rfl, rfl, hx⟩⟩
  · have h6 : foldD [un] (n, l, u) = some (stepD un (n, l, u)) := if_neg hx
    rw [h6]
    have b1 := upS_bd (st := stepU un) h3 (stepU_or un)
    have b2 := downS_bd (st := stepU un) (n := u) (by omega) (stepU_or un)
    have b3 := nearS_bd h1 h2 (stepU_or un)
    exact ⟨nearS (stepU un) n, upS (stepU un) l, downS (stepU un) u, 0, rfl, .inl ⟨rfl, rfl, rfl, rfl, by omega, okD_iff.2 ⟨b3.1, b3.2, by omega, by omega, by omega⟩⟩⟩
theorem step_b (b : Int) (w : World) (h0 : 0 ≤ b) (h1 : b ≤ 255) : Calls Tryd.prog 35 #[.int .u8 b] w fun e w' => e = .returned (.tuple #[.int .u8 (unitOf b), .int .i64 (stepOf b)]) ∧ Below w.heap.size w w' :=
  (step_any b w h0 h1).mono fun e w' ⟨he, hw⟩ => ⟨he, by subst hw; exact Below.refl _ _⟩
theorem stepOf_eq (b : Int) : stepOf b = stepU (unitOf b) := by
  unfold stepOf unitOf stepU
  split <;> simp
end Go.Proofs.YtldjkdomklgmaaaDoor
