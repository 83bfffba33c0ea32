/- For Clash: what Collect gives, cut to a length; what is told after some numbers. -/
import Derived.Test.YtkjfceajakhlfaaVC
namespace Go.Proofs.Ytkjfceajakhlfaa
set_option linter.unusedVariables false
set_option linter.unusedSimpArgs false
open Go.RowKit

theorem IssRow.take {w : World} {b off : Nat} {xs : List Iss} {vi vd : Nat → Value} (h : IssRow w b off xs vi vd) (n : Nat) : IssRow w b off (xs.take n) vi vd := by
  intro i hi
  have hi2 : i < xs.length := by rw [List.length_take] at hi; omega
  rw [List.getElem_take]
  exact h i hi2
/-- What Collect gives: nothing, or a row with its room. -/
theorem rows_two {w : World} {base : Nat} {v : Value} {xs : List Iss} {vi vd : Nat → Value} {t : Int} (h : w.ownsRow base 45 5 v (idxs xs t).length (rowsF xs vi vd (idxs xs t))) {b off : Nat} (hc : IssRow w b off xs vi vd) :
    (v = .slice none 0 0 ∧ ofD xs t = []) ∨ ∃ g c, v = .slice (some ⟨g, 0, none⟩) (ofD xs t).length c ∧ (ofD xs t).length ≤ c ∧ c ≤ maxLen ∧ IssRow w g 0 (ofD xs t) (fun i => vi (((idxs xs t).map (·.1)).getD i 0)) (fun i => vd (((idxs xs t).map (·.1)).getD i 0)) := by
  have hl : (ofD xs t).length = (idxs xs t).length := by rw [← ofD_idxs]; simp
  obtain ⟨A, c, g, hv, hA, hr⟩ := rows_at h hc
  rcases h.2 with ⟨hn, h0⟩ | ⟨g2, cap, cur, hv2, -, -, hcap, hmax, -⟩
  · exact .inl ⟨hn, List.length_eq_zero_iff.1 (by omega)⟩
  · rw [hv2] at hv
    injection hv with e1 e2 e3
    subst e1 e3
    refine .inr ⟨g2, cap, by rw [hv2, hl], by omega, hmax, ?_⟩
    by_cases h0 : 0 < (ofD xs t).length
    · have := hA h0
      injection this with e
      injection e with e4 e5
      subst e4
      exact hr
    · intro i hi
      omega
/-- What is told after k numbers. -/
def cJ (xs ys : List Iss) (zs : List Int) (k : Nat) : List (Int × Int) := (zs.take k).flatMap (clashD xs ys)
theorem cJ_step {xs ys : List Iss} {zs : List Int} {k : Nat} (h : k < zs.length) : cJ xs ys zs (k + 1) = cJ xs ys zs k ++ clashD xs ys zs[k] := by
  unfold cJ
  rw [List.take_succ_eq_append_getElem h, List.flatMap_append]
  simp
theorem cJ_all {xs ys : List Iss} (hx : rightB zeroI xs = true) (hy : rightB zeroI ys = true) : cJ xs ys (numbersL xs) (numbersL xs).length = clashR xs ys xs.length := by
  unfold cJ
  rw [List.take_length]
  exact clash_same hx hy
theorem cJ_le {xs ys : List Iss} (hx : rightB zeroI xs = true) (hy : rightB zeroI ys = true) (k : Nat) : (cJ xs ys (numbersL xs) k).length ≤ xs.length := by
  have h := clashR_le xs ys xs.length
  rw [← clash_same hx hy, ← List.take_append_drop k (numbersL xs), List.flatMap_append, List.length_append] at h
  unfold cJ
  omega
end Go.Proofs.Ytkjfceajakhlfaa
