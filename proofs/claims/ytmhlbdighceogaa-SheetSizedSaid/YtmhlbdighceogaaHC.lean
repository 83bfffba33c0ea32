/- SheetSized's mathematics: a register with another size is one just if the size is valid and has its place. -/
import Derived.Test.YtmhlbdighceogaaLF
namespace Go.Proofs.Ytmhlbdighceogaa
set_option linter.unusedVariables false
set_option linter.unusedSimpArgs false
open Go.RowKit

/-- An issue without its sizes. -/
def bare (x : Iss) : Iss := { x with dims := [] }
theorem bare_numbers (xs : List Iss) : numbersL (xs.map bare) = numbersL xs := by
  unfold numbersL
  rw [List.filter_map, List.map_map]
  rfl
theorem bare_complete (xs : List Iss) (zs : List Int) : completeB (xs.map bare) zs = completeB xs zs := by
  unfold completeB
  rw [List.all_map]
  rfl
theorem bare_need (xs : List Iss) (d : Int) (f : Int → Bool) : needB (xs.map bare) d f = needB xs d f := by
  unfold needB
  rw [List.any_map]
  rfl
theorem bare_wait (xs : List Iss) (zs : List Int) : ∀ k d, waitW (xs.map bare) zs k d = waitW xs zs k d
  | 0, _ => rfl
  | k + 1, d => by
    have h : waitW (xs.map bare) zs k = waitW xs zs k := funext fun y => bare_wait xs zs k y
    rw [waitW, waitW, h, bare_need]
theorem bare_goes (xs : List Iss) (zs : List Int) (k : Nat) (d : Int) : goesW (xs.map bare) zs k d = goesW xs zs k d := by
  unfold goesW
  have h : waitW (xs.map bare) zs k = waitW xs zs k := funext fun y => bare_wait xs zs k y
  rw [h, bare_need]
theorem bare_dep (xs : List Iss) (zs : List Int) : ∀ k d, depW (xs.map bare) zs k d = depW xs zs k d
  | 0, _ => rfl
  | k + 1, d => by rw [depW, depW, bare_goes, bare_dep xs zs k d]
theorem bare_chains (xs : List Iss) (zs : List Int) : chainsL (xs.map bare) zs = chainsL xs zs := by
  unfold chainsL
  exact List.map_congr_left fun y _ => bare_dep xs zs _ y
theorem bare_measured (x : Iss) : measuredB (bare x) = true := by
  unfold measuredB bare
  simp [measuredB.badD0]
theorem bare_right : ∀ (xs : List Iss) (b : Iss), rightB b xs = (rightB (bare b) (xs.map bare) && xs.all measuredB)
  | [], _ => rfl
  | x :: r, b => by
    have h1 := bare_right r x
    have h2 : metB b x = (metB (bare b) (bare x) && measuredB x) := by
      have h3 := bare_measured x
      unfold metB
      rw [h3, Bool.and_true]
      rfl
    rw [rightB, List.map_cons, rightB, List.all_cons, h1, h2]
    cases metB (bare b) (bare x) <;> cases measuredB x <;> cases rightB (bare x) (r.map bare) <;> simp
/-- What Check tells, with the sizes apart. -/
theorem lay_bare {xs ys : List Iss} (h : ys.map bare = xs.map bare) (h0 : layE xs = 0) : layE ys = if ys.all measuredB = true then 0 else 20 := by
  obtain ⟨⟨h1, h2⟩, h3, h4, h5, h6, h7⟩ := layE_ok h0
  have hl : ys.length = xs.length := by have := congrArg List.length h; simpa using this
  rw [bare_right, Bool.and_eq_true] at h3
  have e1 : rightB zeroI ys = ys.all measuredB := by rw [bare_right, h, h3.1, Bool.true_and]
  have e2 : numbersL ys = numbersL xs := by rw [← bare_numbers, h, bare_numbers]
  have e3 : completeB ys (numbersL xs) = true := by rw [← bare_complete, h, bare_complete, h5]
  have e4 : chainsL ys (numbersL xs) = chainsL xs (numbersL xs) := by rw [← bare_chains, h, bare_chains]
  have e5 : inB 1 60 ys.length = true := by unfold inB; simp; omega
  unfold layE
  rw [e1, e2, e3, e4, e5, Bool.true_and]
  by_cases e : ys.all measuredB = true
  · rw [if_pos e, if_neg (by simp [e]), if_neg (by simp [h4]), if_neg h6, if_neg (by omega)]
  · rw [if_neg e, if_pos (by simpa using e)]
/-- A size more. -/
def more (x : Iss) (d : D3) : Iss := { x with dims := x.dims ++ [d] }
theorem more_measured {x : Iss} {d : D3} (h : measuredB x = true) : measuredB (more x d) = (decide (x.k ≠ 1) && decide (x.dims.length + 1 ≤ 4) && okD d.1 d.2.1 d.2.2) := by
  unfold measuredB at *
  by_cases hk : x.k = 1
  · have h1 : (more x d).k = 1 := hk
    rw [if_pos h1]
    simp [more, hk]
  · have h1 : ¬ (more x d).k = 1 := hk
    rw [if_neg hk, Bool.and_eq_true] at h
    rw [if_neg h1]
    have h2 : measuredB.badD0 (more x d).dims = (measuredB.badD0 x.dims || !okD d.1 d.2.1 d.2.2) := by
      unfold measuredB.badD0 more
      rw [List.any_append]
      simp
    have h3 : measuredB.badD0 x.dims = false := by simpa using h.2
    rw [h2, h3]
    simp [more, hk]
theorem sized_lay {xs : List Iss} (h0 : layE xs = 0) {i : Nat} (hi : i < xs.length) (d : D3) : layE (xs.set i (more xs[i] d)) = if (decide (xs[i].k ≠ 1) && decide (xs[i].dims.length + 1 ≤ 4) && okD d.1 d.2.1 d.2.2) = true then 0 else 20 := by
  have hb : (xs.set i (more xs[i] d)).map bare = xs.map bare := by
    rw [List.map_set]
    have : bare (more xs[i] d) = (xs.map bare)[i]'(by simpa using hi) := by simp [bare, more]
    rw [this, List.set_getElem_self]
  obtain ⟨-, h3, -⟩ := layE_ok h0
  have hm := fun x hx => (right_named h3 x hx).2.2
  have ha : (xs.set i (more xs[i] d)).all measuredB = measuredB (more xs[i] d) := by
    rw [Bool.eq_iff_iff, List.all_eq_true]
    constructor
    · intro h
      exact h _ (List.mem_iff_getElem.2 ⟨i, by simpa using hi, by simp⟩)
    · intro h x hx
      obtain ⟨j, hj, rfl⟩ := List.getElem_of_mem hx
      rw [List.getElem_set]
      split
      · exact h
      · exact hm _ (List.getElem_mem _)
  rw [lay_bare hb h0, ha, more_measured (hm _ (List.getElem_mem hi))]
/-- The sizes of a valid register are valid, and no assembly has one. -/
theorem sized_ok {xs : List Iss} (h0 : layE xs = 0) {x : Iss} (hx : x ∈ xs) : ∀ d ∈ x.dims, okD d.1 d.2.1 d.2.2 = true ∧ x.k ≠ 1 := by
  obtain ⟨-, h3, -⟩ := layE_ok h0
  have h := (right_named h3 x hx).2.2
  intro d hd
  unfold measuredB at h
  by_cases hk : x.k = 1
  · rw [if_pos hk, decide_eq_true_eq] at h
    rw [List.length_eq_zero_iff.1 h] at hd
    cases hd
  · rw [if_neg hk, Bool.and_eq_true] at h
    have h4 : measuredB.badD0 x.dims = false := by simpa using h.2
    unfold measuredB.badD0 at h4
    rw [List.any_eq_false] at h4
    exact ⟨by simpa using h4 d hd, hk⟩
end Go.Proofs.Ytmhlbdighceogaa
