/- The law SizeFitted. -/
import Derived.Test.YtldjkdomklgmaaaDoorV2
import Derived.IntWalk
import Derived.Test.YtldjkdomklgmaaaDoorB1
import Derived.Test.YtldjkdomklgmaaaDoorR0
namespace Go.Proofs.YtldjkdomklgmaaaDoor
set_option linter.unusedVariables false
set_option linter.unusedSimpArgs false
open Go.RowKit

def Picked (l u : Int) (w : World) (e : Ending) (w' : World) : Prop := ∃ p, l ≤ p ∧ p ≤ u ∧ e = .returned (.int .i64 p) ∧ Below w.heap.size w w'
set_option maxHeartbeats 1000000 in
theorem pick_any (n l u b : Int) (w : World) (h : okD n l u = true) (b0 : 0 ≤ b) (b1 : b ≤ 4294967295) : Calls Tryd.prog 36 #[.agg #[.int .i64 n, .int .i64 l, .int .i64 u], .int .u32 b] w (Picked l u w) := by
  obtain ⟨h1, h2, h3, h4, h5⟩ := okD_iff.1 h
  have hm0 : 0 ≤ b % (u - l + 1) := Int.emod_nonneg _ (by omega)
  have hm1 : b % (u - l + 1) < u - l + 1 := Int.emod_lt_of_pos _ (by omega)
  have k1 : IntKind.i64.wrap (u - l) = u - l := IntWalk.i64_in _ (by omega)
  have k2 : IntKind.i64.wrap (u - l + 1) = u - l + 1 := IntWalk.i64_in _ (by omega)
  have k3 : b.tmod (u - l + 1) = b % (u - l + 1) := by rw [Int.tmod_eq_emod_of_nonneg b0]
  have hz : ¬ u - l + 1 = 0 := by omega
  have hz' : ¬ (0 : Int) = u - l + 1 := by omega
  have hz2 : (u - l + 1 == 0) = false := by rw [beq_eq_false_iff_ne]; exact hz
  have k4 : IntKind.i64.wrap (b % (u - l + 1)) = b % (u - l + 1) := IntWalk.i64_in _ (by omega)
  have k5 : IntKind.i64.wrap (l + b % (u - l + 1)) = l + b % (u - l + 1) := IntWalk.i64_in _ (by omega)
  clear h
  go_enter Tryd.func36, Tryd.ntmps36
  go_wp2_with fail
  go_quiet (fail)
  go_wp2
  go_ret
  exact ⟨l + b % (u - l + 1), by omega, by omega, rfl, by (repeat' (first | (with_reducible exact Below.refl _ _) | (with_reducible assumption) | (with_reducible refine Below.alloc ?_ ?_ _) | (with_reducible refine Below.setCell ?_ ?_ _) | (with_reducible refine below_row ?_ ?_ _) | (with_reducible refine Below.drew ?_) | (with_reducible refine below_drewN ?_ _) | (with_reducible refine Below.trans ?_ (Below.mono (by assumption) ?_)) | (first | exact Nat.le_refl _ | omega | (simp; done) | (simp; omega))))⟩
end Go.Proofs.YtldjkdomklgmaaaDoor
