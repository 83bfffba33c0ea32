/- What clashes: the words. -/
import Derived.Test.YtkjfceajakhlfaaUA
import Derived.Test.YtkjfceajakhlfaaUC
import Derived.Test.YtkjfceajakhlfaaLH
namespace Go.Proofs.Ytkjfceajakhlfaa
set_option linter.unusedVariables false
set_option linter.unusedSimpArgs false
open Go.RowKit

/-- What stands against two registers. -/
def bothE (xs ys : List Iss) : Int := if layE xs ≠ 0 then layE xs else layE ys
/-- An issue that the other register has otherwise. -/
def hitB (ys : List Iss) (x : Iss) : Bool := hasN ys x.d x.l && !sameI x (ys.getD (idxN ys x.d x.l) zeroI)
def clashR (xs ys : List Iss) (k : Nat) : List (Int × Int) := ((xs.take k).filter (hitB ys)).map fun x => (x.d, x.l)
theorem clashR_step {xs ys : List Iss} {k : Nat} (h : k < xs.length) : clashR xs ys (k + 1) = clashR xs ys k ++ if hitB ys xs[k] then [(xs[k].d, xs[k].l)] else [] := by
  unfold clashR
  rw [List.take_succ_eq_append_getElem h, List.filter_append, List.map_append]
  congr 1
  by_cases e : hitB ys xs[k] <;> simp [e]
theorem clashR_le (xs ys : List Iss) (k : Nat) : (clashR xs ys k).length ≤ k := by
  unfold clashR
  rw [List.length_map]
  exact Nat.le_trans (List.length_filter_le _ _) (List.length_take_le _ _)
/-- What Clash tells. -/
def clashE (xs ys : List Iss) : List (Int × Int) × Int := if bothE xs ys ≠ 0 then ([], bothE xs ys) else (clashR xs ys xs.length, 0)
end Go.Proofs.Ytkjfceajakhlfaa
