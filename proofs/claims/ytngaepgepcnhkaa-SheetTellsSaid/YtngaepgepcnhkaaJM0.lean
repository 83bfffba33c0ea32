/- Registers in order: what right and complete say. -/
import Derived.Test.YtngaepgepcnhkaaJ7
import Derived.Test.YtngaepgepcnhkaaJB
import Derived.Test.YtngaepgepcnhkaaJE
namespace Go.Proofs.Ytngaepgepcnhkaa
set_option linter.unusedVariables false
set_option linter.unusedSimpArgs false
open Go.RowKit

theorem namedB_iff {x : Iss} : namedB x = true ↔ (1 ≤ x.d ∧ x.d ≤ 9999) ∧ (1 ≤ x.l ∧ x.l ≤ 8) ∧ (1 ≤ x.k ∧ x.k ≤ 3) := by
  unfold namedB inB
  simp only [Bool.and_eq_true, decide_eq_true_eq, and_assoc]
theorem orderB_iff {b x : Iss} : orderB b x = true ↔ (x.d = b.d ∧ x.l = b.l + 1 ∧ x.k = b.k) ∨ (b.d < x.d ∧ x.l = 1) := by
  unfold orderB
  by_cases h : x.d = b.d
  · rw [if_pos h]; simp only [Bool.and_eq_true, decide_eq_true_eq]
    constructor
    · intro h2; exact .inl ⟨h, h2⟩
    · rintro (⟨-, h2⟩ | ⟨h2, -⟩)
      · exact h2
      · omega
  · rw [if_neg h]; simp only [Bool.and_eq_true, decide_eq_true_eq]
    constructor
    · intro h2; exact .inr h2
    · rintro (⟨h2, -⟩ | h2)
      · exact absurd h2 h
      · exact h2
theorem met_parts {b x : Iss} (h : metB b x = true) : namedB x = true ∧ orderB b x = true ∧ madeB x = true ∧ measuredB x = true := by
  unfold metB at h
  simp only [Bool.and_eq_true] at h
  exact ⟨h.1.1.1, h.1.1.2, h.1.2, h.2⟩
theorem right_cons {b x : Iss} {xs : List Iss} (h : rightB b (x :: xs) = true) : metB b x = true ∧ rightB x xs = true := by
  rw [rightB, Bool.and_eq_true] at h; exact h
theorem right_ge : ∀ {xs : List Iss} {b : Iss}, rightB b xs = true → ∀ x ∈ xs, b.d ≤ x.d
  | [], _, _, _, hx => by cases hx
  | y :: r, b, h, x, hx => by
    obtain ⟨h1, h2⟩ := right_cons h
    have ho := orderB_iff.1 (met_parts h1).2.1
    have hy : b.d ≤ y.d := by rcases ho with ho | ho <;> omega
    rcases List.mem_cons.1 hx with rfl | hx
    · exact hy
    · exact Int.le_trans hy (right_ge h2 x hx)
theorem right_sorted : ∀ {xs : List Iss} {b : Iss}, rightB b xs = true → xs.Pairwise (fun x y => x.d ≤ y.d)
  | [], _, _ => List.Pairwise.nil
  | y :: r, b, h => List.Pairwise.cons (fun x hx => right_ge (right_cons h).2 x hx) (right_sorted (right_cons h).2)
theorem right_named : ∀ {xs : List Iss} {b : Iss}, rightB b xs = true → ∀ x ∈ xs, namedB x = true ∧ madeB x = true ∧ measuredB x = true
  | [], _, _, _, hx => by cases hx
  | y :: r, b, h, x, hx => by
    obtain ⟨h1, h2⟩ := right_cons h
    rcases List.mem_cons.1 hx with rfl | hx
    · obtain ⟨a, -, c, d⟩ := met_parts h1; exact ⟨a, c, d⟩
    · exact right_named h2 x hx
theorem numbersL_cons (x : Iss) (r : List Iss) : numbersL (x :: r) = if x.l = 1 then x.d :: numbersL r else numbersL r := by
  unfold numbersL
  by_cases h : x.l = 1 <;> simp [h]
theorem right_numbers : ∀ {xs : List Iss} {b : Iss}, (b.d = 0 ∨ 1 ≤ b.l) → rightB b xs = true → (∀ n ∈ numbersL xs, b.d < n) ∧ (numbersL xs).Pairwise (· < ·)
  | [], _, _, _ => ⟨by simp [numbersL], by simp [numbersL]⟩
  | y :: r, b, hb, h => by
    obtain ⟨h1, h2⟩ := right_cons h
    obtain ⟨hn, ho, -, -⟩ := met_parts h1
    have hn := namedB_iff.1 hn
    obtain ⟨i1, i2⟩ := right_numbers (b := y) (.inr (by omega)) h2
    rw [numbersL_cons]
    rcases orderB_iff.1 ho with ⟨e1, e2, -⟩ | ⟨e1, e2⟩
    · have : 1 ≤ b.l := by rcases hb with hb | hb <;> omega
      rw [if_neg (by omega)]
      exact ⟨fun n hn => by have := i1 n hn; omega, i2⟩
    · rw [if_pos e2]
      refine ⟨fun n hn => ?_, List.Pairwise.cons (fun n hn => i1 n hn) i2⟩
      rcases List.mem_cons.1 hn with rfl | hn
      · exact e1
      · have := i1 n hn; omega
theorem numbers_strict {xs : List Iss} (h : rightB zeroI xs = true) : (numbersL xs).Pairwise (· < ·) := (right_numbers (.inl rfl) h).2
theorem numbers_mem {xs : List Iss} {n : Int} (h : n ∈ numbersL xs) : ∃ x ∈ xs, x.l = 1 ∧ x.d = n := by
  unfold numbersL at h
  obtain ⟨x, hx, rfl⟩ := List.mem_map.1 h
  rw [List.mem_filter] at hx
  exact ⟨x, hx.1, by simpa using hx.2, rfl⟩
theorem numbers_in {xs : List Iss} (h : rightB zeroI xs = true) : ∀ n ∈ numbersL xs, 1 ≤ n ∧ n ≤ 9999 := by
  intro n hn
  obtain ⟨x, hx, -, rfl⟩ := numbers_mem hn
  exact (namedB_iff.1 (right_named h x hx).1).1
theorem numbers_nin {xs : List Iss} (h : rightB zeroI xs = true) : ∀ n ∈ numbersL xs, NIn n := fun n hn => by
  have := numbers_in h n hn; unfold NIn; omega
/-- Each issue's drawing is numbered: its issue A stands before it. -/
theorem right_has : ∀ {xs : List Iss} {b : Iss}, rightB b xs = true → ∀ x ∈ xs, x.d = b.d ∨ x.d ∈ numbersL xs
  | [], _, _, _, hx => by cases hx
  | y :: r, b, h, x, hx => by
    obtain ⟨h1, h2⟩ := right_cons h
    have ho := orderB_iff.1 (met_parts h1).2.1
    have hy : y.d = b.d ∨ y.d ∈ numbersL (y :: r) := by
      rcases ho with ⟨e1, -, -⟩ | ⟨e1, e2⟩
      · exact .inl e1
      · right; rw [numbersL_cons, if_pos e2]; simp
    rcases List.mem_cons.1 hx with rfl | hx
    · exact hy
    · rcases right_has h2 x hx with e | e
      · rw [e]; exact hy
      · right; rw [numbersL_cons]; split
        · exact List.mem_cons_of_mem _ e
        · exact e
theorem numbers_has {xs : List Iss} (h : rightB zeroI xs = true) : ∀ x ∈ xs, x.d ∈ numbersL xs := by
  intro x hx
  rcases right_has h x hx with e | e
  · have := (namedB_iff.1 (right_named h x hx).1).1
    rw [e] at this
    exact absurd this.1 (by decide)
  · exact e
theorem complete_mem {xs : List Iss} {zs : List Int} (h : completeB xs zs = true) : ∀ x ∈ xs, ∀ it ∈ x.items, it.1 ∈ zs := by
  unfold completeB at h
  rw [List.all_eq_true] at h
  intro x hx it hit
  have := h x hx
  rw [List.all_eq_true] at this
  simpa using this it hit

/-- Check's error of a register. -/
def layE (xs : List Iss) : Int :=
  if (inB 1 60 xs.length && rightB zeroI xs) = false then 20
  else if (decide ((numbersL xs).length ≤ 20) && completeB xs (numbersL xs)) = false then 20
  else if (0 : Int) ∈ chainsL xs (numbersL xs) then 21
  else if 6 < maxL (chainsL xs (numbersL xs)) then 20 else 0
theorem layE_ok {xs : List Iss} (h : layE xs = 0) : (1 ≤ xs.length ∧ xs.length ≤ 60) ∧ rightB zeroI xs = true ∧ (numbersL xs).length ≤ 20 ∧ completeB xs (numbersL xs) = true ∧ (0 : Int) ∉ chainsL xs (numbersL xs) ∧ maxL (chainsL xs (numbersL xs)) ≤ 6 := by
  unfold layE at h
  split at h; · omega
  rename_i h1
  split at h; · omega
  rename_i h2
  split at h; · omega
  rename_i h3
  split at h; · omega
  rename_i h4
  simp only [Bool.not_eq_false, Bool.and_eq_true, decide_eq_true_eq] at h1 h2
  have h5 := h1.1
  unfold inB at h5
  simp at h5
  exact ⟨by omega, h1.2, h2.1, h2.2, h3, by omega⟩
end Go.Proofs.Ytngaepgepcnhkaa
