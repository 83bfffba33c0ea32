/- What the laws on redrawn sizes ask of numbers. -/
import Derived.Test.YtldjkdomklgmaaaDoorF4
import Derived.Test.YtldjkdomklgmaaaDoorT4
import Derived.Test.YtldjkdomklgmaaaDoorS1
namespace Go.Proofs.YtldjkdomklgmaaaDoor
set_option linter.unusedVariables false
set_option linter.unusedSimpArgs false
open Go.RowKit

theorem mult_low {st l m : Int} (hst : st = 100 ∨ st = 254) : l ≤ m * st ↔ upS st l ≤ m * st := by
  unfold upS; rcases hst with rfl | rfl <;> omega
theorem mult_high {st u m : Int} (hst : st = 100 ∨ st = 254) : m * st ≤ u ↔ m * st ≤ downS st u := by
  unfold downS; rcases hst with rfl | rfl <;> omega
theorem down_mod {st n : Int} (hst : st = 100 ∨ st = 254) : downS st n % st = 0 := by
  unfold downS; rcases hst with rfl | rfl <;> omega
theorem up_mod {st n : Int} (hst : st = 100 ∨ st = 254) : upS st n % st = 0 := by
  unfold upS; rcases hst with rfl | rfl <;> omega
theorem near_mod {st n : Int} (hst : st = 100 ∨ st = 254) : nearS st n % st = 0 := by
  have h := down_mod (n := n) hst
  rcases nearS_cases st n with ⟨-, -, e⟩ | ⟨-, -, e⟩ | ⟨-, e⟩ <;> rw [e]
  · rcases hst with rfl | rfl <;> omega
  · exact h
  · exact h
theorem exact_again {st n l u : Int} (hst : st = 100 ∨ st = 254) : exactS st (nearS st n) (upS st l) (downS st u) = true := by
  simp [exactS, near_mod hst, up_mod hst, down_mod hst]
theorem near_far {st n : Int} (hst : st = 100 ∨ st = 254) (h0 : 0 ≤ n) : 2 * (nearS st n - n) ≤ st ∧ (2 * (n - nearS st n) ≤ st ∨ (1000000000 - st < n ∧ 2 * (n - nearS st n) ≤ st + 2 * (n - (1000000000 - st)))) := by
  have hd := downS_bd h0 hst
  rcases nearS_cases st n with ⟨a, b, e⟩ | ⟨a, b, e⟩ | ⟨a, e⟩ <;> rw [e] <;> omega
theorem none_wide {st l u : Int} (hst : st = 100 ∨ st = 254) (h : downS st u < upS st l) : u - l < st - 1 := by
  unfold upS downS at h; rcases hst with rfl | rfl <;> omega
/-- The units of an exact size, added up. -/
theorem exactU_cases (n l u : Int) : (exactS 100 n l u = true ∧ exactS 254 n l u = true ∧ exactU n l u = 3) ∨ (exactS 100 n l u = true ∧ exactS 254 n l u = false ∧ exactU n l u = 1) ∨ (exactS 100 n l u = false ∧ exactS 254 n l u = true ∧ exactU n l u = 2) ∨ (exactS 100 n l u = false ∧ exactS 254 n l u = false ∧ exactU n l u = 0) := by
  unfold exactU
  cases exactS 100 n l u <;> cases exactS 254 n l u <;> simp
theorem lostS_eq {un n l u x y z e : Int} (h : convS un n l u = ((x, y, z), e)) : lostS un n l u = if e = 0 then (y - l, u - z, 0) else (0, 0, e) := by
  unfold lostS; rw [h]
end Go.Proofs.YtldjkdomklgmaaaDoor
