/- What the functions tell of the register of the examples. -/
import Derived.Test.YtdhandkddbgadaaRA
import Derived.Test.YtdhandkddbgadaaVK
import Derived.Test.YtdhandkddbgadaaUB
import Derived.Test.YtdhandkddbgadaaUJ
import Derived.Test.YtdhandkddbgadaaLJ
namespace Go.Proofs.Ytdhandkddbgadaa
set_option linter.unusedVariables false
set_option linter.unusedSimpArgs false
open Go.RowKit

theorem ex_lay : layE exR = 0 := by kernel_rfl
theorem ex_numbers : numbersL exR = [10, 20, 30, 40, 50] := by kernel_rfl
theorem ex_ask1 : askE exR [1, 1, 1, 1, 1] 10 = 0 := by kernel_rfl
theorem ex_expl1 : explL exR [1, 1, 1, 1, 1] 10 = [(30, 7), (50, 2)] := by kernel_rfl
theorem ex_tree : treeE exR [1, 1, 2, 1, 1] 10 = ([(0, 10, 1, 1), (1, 20, 1, 2), (2, 30, 2, 3), (2, 50, 1, 1), (1, 30, 2, 1)], 0) := by kernel_rfl
theorem ex_uses : usesE exR 30 = ([(10, 1), (10, 2), (20, 1)], 0) := by kernel_rfl
theorem ex_above : aboveE exR [2, 1, 1, 1, 1] 40 = ([10], 0) := by kernel_rfl
theorem ex_differ : differE exR 10 1 2 = ([(20, 2, 1), (30, 1, 2), (40, 0, 2)], [], 0) := by kernel_rfl
theorem ex_depth : depthE exR 10 = (3, 0) := by kernel_rfl
theorem ex_last : lastE exR 30 = (2, 0) := by kernel_rfl
theorem ex_clash : clashR exR exR exR.length = [] := by kernel_rfl
theorem ex_join : joinL exR exR = exR := by simp [joinL, exR]
theorem ex_merge : mergeE exR exR = (exR, 0) := by
  unfold mergeE
  rw [if_neg (by unfold bothE; rw [ex_lay]; simp), if_neg (by rw [ex_clash]; simp), ex_join, if_neg (by rw [ex_lay]; simp)]
end Go.Proofs.Ytdhandkddbgadaa
