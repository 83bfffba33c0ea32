/- The reference: within, Dim, Step, above, Again. -/
import Derived.Test.YtjejjeomknkglaaDoorC4
import Derived.Test.YtjejjeomknkglaaDoorR0
import Derived.Deep.RegionHeld3
namespace Go.Proofs.YtjejjeomknkglaaDoor
set_option linter.unusedVariables false
set_option linter.unusedSimpArgs false
open Go.RowKit

/-- The step of a unit; 0 if it is none. -/
def stepR (un : Int) : Int := if un = 1 then 100 else if un = 2 then 254 else 0
set_option maxHeartbeats 400000 in
theorem rStep_any (un : Int) (w : World) :
    Calls Tryd.prog 19 #[.int .u8 un] w (Quietly (.int .i64 (stepR un)) w) := by
  by_cases h1 : un = 1
  · subst h1
    go_enter Tryd.func19, Tryd.ntmps19
    go_wp2
    go_ret
    exact ⟨rfl, 0, rfl⟩
  · by_cases h2 : un = 2
    · subst h2
      go_enter Tryd.func19, Tryd.ntmps19
      go_wp2
      go_ret
      exact ⟨rfl, 0, rfl⟩
    · rw [show stepR un = 0 from by rw [stepR, if_neg h1, if_neg h2]]
      have b1 : (un == 1) = false := by simpa using h1
      have b2 : (un == 2) = false := by simpa using h2
      go_enter Tryd.func19, Tryd.ntmps19
      go_wp2
      go_ret
      exact ⟨rfl, 0, rfl⟩
end Go.Proofs.YtjejjeomknkglaaDoor
