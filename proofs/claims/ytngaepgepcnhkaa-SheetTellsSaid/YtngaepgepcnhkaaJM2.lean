/- The reference's listed is the program's. -/
import Derived.Test.YtngaepgepcnhkaaK16
import Derived.Test.YtngaepgepcnhkaaJM1
import Derived.Test.YtngaepgepcnhkaaJI
namespace Go.Proofs.Ytngaepgepcnhkaa
set_option linter.unusedVariables false
set_option linter.unusedSimpArgs false
open Go.RowKit

/-- Items with drawings up to 9999. -/
def lowB (x : Iss) : Prop := ∀ it ∈ x.items, it.1 ≤ 9999
theorem itemsB_iff {d : Int} : ∀ {l : List (Int × Int)} {last : Int}, itemsB d last l = true ↔ (∀ it ∈ l, it.1 ≠ d ∧ 1 ≤ it.2 ∧ it.2 ≤ 20) ∧ ∀ j (h : j < l.length), (if j = 0 then last else (l[j - 1]'(by omega)).1) < l[j].1
  | [], last => by simp [itemsB]
  | it :: r, last => by
    rw [itemsB]
    by_cases h : it.1 = d ∨ it.1 ≤ last ∨ ¬ (1 ≤ it.2 ∧ it.2 ≤ 20)
    · rw [if_pos h]
      constructor
      · intro e; cases e
      · rintro ⟨h1, h2⟩
        have a := h1 it (by simp)
        have b := h2 0 (by simp)
        simp at b
        rcases h with h | h | h
        · exact absurd h a.1
        · omega
        · exact absurd a.2 h
    · rw [if_neg h, itemsB_iff]
      constructor
      · rintro ⟨h1, h2⟩
        refine ⟨fun z hz => ?_, fun j hj => ?_⟩
        · rcases List.mem_cons.1 hz with rfl | hz
          · exact ⟨fun e => h (.inl e), by omega, by omega⟩
          · exact h1 z hz
        · cases j with
          | zero => simp; omega
          | succ j =>
            have := h2 j (by simpa using hj)
            cases j with
            | zero => simpa using this
            | succ j => simpa using this
      · rintro ⟨h1, h2⟩
        refine ⟨fun z hz => h1 z (List.mem_cons_of_mem _ hz), fun j hj => ?_⟩
        have := h2 (j + 1) (by simpa using hj)
        cases j with
        | zero => simpa using this
        | succ j => simpa using this
theorem itemsB_low : ∀ {l : List (Int × Int)} {d last : Int}, itemsB d last l = true → ∀ it ∈ l, last < it.1
  | [], _, _, _, _, h => by cases h
  | x :: r, d, last, h, it, hit => by
    rw [itemsB] at h
    split at h
    · cases h
    · rename_i hn
      rcases List.mem_cons.1 hit with rfl | hit
      · omega
      · have := itemsB_low h it hit; omega
theorem itemsR_iff {d : Int} {l : List (Int × Int)} : itemsR d l = true ↔ itemsB d 0 l = true ∧ ∀ it ∈ l, it.1 ≤ 9999 := by
  constructor
  · intro h
    have hj : ∀ j (h : j < l.length), itemR d l j = true := fun j h2 => by
      unfold itemsR at h; rw [List.all_eq_true] at h; exact h j (List.mem_range.2 h2)
    have hk : ∀ j (h : j < l.length), (1 ≤ l[j].1 ∧ l[j].1 ≤ 9999) ∧ (1 ≤ l[j].2 ∧ l[j].2 ≤ 20) ∧ l[j].1 ≠ d ∧ (j = 0 ∨ (l[j - 1]'(by omega)).1 < l[j].1) := fun j h2 => by
      have := hj j h2
      unfold itemR at this
      rw [dif_pos h2] at this
      simp only [Bool.and_eq_true, Bool.or_eq_true, Bool.not_eq_true', decide_eq_true_eq, decide_eq_false_iff_not, inB] at this
      exact ⟨this.1.1.1, this.1.1.2, this.1.2, this.2⟩
    rw [itemsB_iff]
    refine ⟨⟨fun it hit => ?_, fun j h2 => ?_⟩, fun it hit => ?_⟩
    · obtain ⟨j, h2, rfl⟩ := List.getElem_of_mem hit
      have := hk j h2; exact ⟨this.2.2.1, this.2.1.1, this.2.1.2⟩
    · have := hk j h2
      split
      · omega
      · rcases this.2.2.2 with e | e
        · contradiction
        · exact e
    · obtain ⟨j, h2, rfl⟩ := List.getElem_of_mem hit
      exact (hk j h2).1.2
  · rintro ⟨h, h9⟩
    have hlo := itemsB_low h
    rw [itemsB_iff] at h
    apply itemsR_yes
    intro j h2
    have hm : l[j] ∈ l := List.getElem_mem h2
    have a := h.1 _ hm
    have b := h.2 j h2
    have c := h9 _ hm
    have e := hlo _ hm
    unfold itemR
    rw [dif_pos h2]
    simp only [Bool.and_eq_true, Bool.or_eq_true, Bool.not_eq_true', decide_eq_true_eq, decide_eq_false_iff_not, inB]
    refine ⟨⟨⟨⟨by omega, by omega⟩, a.2⟩, a.1⟩, ?_⟩
    by_cases e : j = 0
    · exact .inl e
    · rw [if_neg e] at b; exact .inr b
theorem dims_iff {l : List D3} : dimsR l = true ↔ measuredB.badD0 l = false := by
  unfold dimsR measuredB.badD0
  rw [List.all_eq_true, List.any_eq_false]
  simp
theorem issueR_iff {x : Iss} : issueR x = true ↔ (namedB x = true ∧ madeB x = true ∧ measuredB x = true) ∧ lowB x := by
  unfold issueR headR
  simp only [Bool.and_eq_true, itemsR_iff, dims_iff]
  unfold madeB measuredB lowB
  by_cases hk : x.k = 1
  · simp only [if_pos hk, Bool.and_eq_true, decide_eq_true_eq]
    constructor
    · rintro ⟨⟨⟨h1, h2, h3⟩, h4, h5⟩, h6⟩
      exact ⟨⟨h1, ⟨h2, h4⟩, h3⟩, h5⟩
    · rintro ⟨⟨h1, ⟨h2, h4⟩, h3⟩, h5⟩
      refine ⟨⟨⟨h1, h2, h3⟩, h4, h5⟩, ?_⟩
      rw [List.length_eq_zero_iff.1 h3]; rfl
  · simp only [if_neg hk, Bool.and_eq_true, decide_eq_true_eq, Bool.not_eq_true']
    constructor
    · rintro ⟨⟨⟨h1, h2, h3⟩, h4, h5⟩, h6⟩
      exact ⟨⟨h1, h3, h2, h6⟩, h5⟩
    · rintro ⟨⟨h1, h3, h2, h6⟩, h5⟩
      refine ⟨⟨⟨h1, h2, h3⟩, ?_, h5⟩, h6⟩
      rw [List.length_eq_zero_iff.1 h3]; rfl
theorem rightR_iff : ∀ {xs : List Iss} {b : Iss}, rightR b xs = true ↔ rightB b xs = true ∧ ∀ x ∈ xs, lowB x
  | [], b => by simp [rightR, rightB]
  | x :: r, b => by
    rw [rightR, rightB, metB]
    simp only [Bool.and_eq_true, rightR_iff, issueR_iff]
    constructor
    · rintro ⟨⟨⟨⟨h1, h2, h3⟩, h4⟩, h5⟩, h6, h7⟩
      refine ⟨⟨⟨⟨⟨h1, h5⟩, h2⟩, h3⟩, h6⟩, fun z hz => ?_⟩
      rcases List.mem_cons.1 hz with rfl | hz
      · exact h4
      · exact h7 z hz
    · rintro ⟨⟨⟨⟨⟨h1, h5⟩, h2⟩, h3⟩, h6⟩, h7⟩
      exact ⟨⟨⟨⟨h1, h2, h3⟩, h7 x (by simp)⟩, h5⟩, h6, fun z hz => h7 z (List.mem_cons_of_mem _ hz)⟩
/-- The numbers behind a number. -/
def nfR : Option Int → List Iss → List Int
  | _, [] => []
  | p, x :: r => (if p = some x.d then [] else [x.d]) ++ nfR (some x.d) r
theorem numbersR_from {xs : List Iss} : ∀ (m k : Nat), k + m = xs.length → ((List.range' k m).flatMap fun k => if h : k < xs.length then (if k = 0 then [xs[k].d] else if (xs[k - 1]'(by omega)).d = xs[k].d then [] else [xs[k].d]) else []) = nfR (if h : 0 < k ∧ k - 1 < xs.length then some xs[k - 1].d else none) (xs.drop k)
  | 0, k, h => by
    rw [List.drop_of_length_le (by omega)]; rfl
  | m + 1, k, h => by
    have hk : k < xs.length := by omega
    rw [List.range'_succ, List.flatMap_cons, numbersR_from m (k + 1) (by omega), List.drop_eq_getElem_cons hk, nfR, dif_pos hk]
    congr 1
    · by_cases e : k = 0
      · subst e; simp
      · rw [if_neg e, dif_pos ⟨by omega, by omega⟩]
        simp only [Option.some.injEq]
    · rw [dif_pos ⟨by omega, by simpa using hk⟩]
      simp
theorem numbersR_nf (xs : List Iss) : numbersR xs = nfR none xs := by
  unfold numbersR
  rw [List.range_eq_range', numbersR_from xs.length 0 (by omega)]
  simp
theorem nfR_right : ∀ {xs : List Iss} {b : Iss} {p : Option Int}, rightB b xs = true → (p = some b.d ∧ 1 ≤ b.l ∨ p = none ∧ b.d = 0) → nfR p xs = numbersL xs
  | [], _, _, _, _ => rfl
  | x :: r, b, p, h, hp => by
    obtain ⟨h1, h2⟩ := right_cons h
    obtain ⟨hn, ho, -, -⟩ := met_parts h1
    have hn := namedB_iff.1 hn
    rw [nfR, numbersL_cons, nfR_right h2 (.inl ⟨rfl, by omega⟩)]
    have ho := orderB_iff.1 ho
    rcases hp with ⟨rfl, hb⟩ | ⟨rfl, hb⟩
    · simp only [Option.some.injEq]
      rcases ho with ⟨e1, e2, -⟩ | ⟨e1, e2⟩
      · rw [if_pos e1.symm, if_neg (by omega)]; rfl
      · rw [if_neg (by omega), if_pos e2]; rfl
    · rcases ho with ⟨e1, e2, -⟩ | ⟨e1, e2⟩
      · omega
      · rw [if_neg (by simp), if_pos e2]; rfl
theorem numbers_same {xs : List Iss} (h : rightB zeroI xs = true) : numbersR xs = numbersL xs := by
  rw [numbersR_nf, nfR_right h (.inr ⟨rfl, rfl⟩)]
theorem listed_iff {xs : List Iss} : listedR xs = true ↔ inB 1 60 xs.length = true ∧ rightB zeroI xs = true ∧ (numbersL xs).length ≤ 20 ∧ completeB xs (numbersL xs) = true := by
  unfold listedR
  simp only [Bool.and_eq_true, decide_eq_true_eq, rightR_iff]
  constructor
  · rintro ⟨⟨⟨h1, h2, h3⟩, h4⟩, h5⟩
    rw [numbers_same h2] at h4 h5
    exact ⟨h1, h2, h5, h4⟩
  · rintro ⟨h1, h2, h5, h4⟩
    rw [numbers_same h2]
    refine ⟨⟨⟨h1, h2, fun x hx it hit => ?_⟩, h4⟩, h5⟩
    exact (numbers_in h2 _ (complete_mem h4 x hx it hit)).2
theorem right_shut {xs : List Iss} (h : rightB zeroI xs = true) (hc : completeB xs (numbersL xs) = true) : Shut xs (numbersL xs) :=
  ⟨fun y hy => by obtain ⟨x, hx, -, e⟩ := numbers_mem hy; exact ⟨x, hx, e⟩, complete_mem hc⟩
/-- The reference's Check. -/
def checkR (xs : List Iss) : Int := if listedR xs = false then 20 else circR (numbersR xs).length ((numbersR xs).map (depF xs ((numbersR xs).length + 1)))
theorem check_same (xs : List Iss) : checkR xs = layE xs := by
  unfold checkR
  by_cases hl : listedR xs = true
  · rw [if_neg (by rw [hl]; decide)]
    obtain ⟨h1, h2, h3, h4⟩ := listed_iff.1 hl
    rw [numbers_same h2]
    have hpos : 0 < (numbersL xs).length := by
      cases xs with
      | nil => exact absurd h1 (by decide)
      | cons x r => exact List.length_pos_of_mem (numbers_has h2 x (by simp))
    rw [circ_same (right_shut h2 h4) hpos]
    unfold layE
    rw [if_neg (show ¬ ((inB 1 60 xs.length && rightB zeroI xs) = false) by rw [h1, h2]; decide), if_neg (show ¬ ((decide ((numbersL xs).length ≤ 20) && completeB xs (numbersL xs)) = false) by rw [h4, decide_eq_true h3]; decide)]
  · rw [if_pos (by simpa using hl)]
    unfold layE
    by_cases h1 : (inB 1 60 xs.length && rightB zeroI xs) = false
    · rw [if_pos h1]
    · rw [if_neg h1]
      by_cases h2 : (decide ((numbersL xs).length ≤ 20) && completeB xs (numbersL xs)) = false
      · rw [if_pos h2]
      · exfalso
        apply hl
        rw [listed_iff]
        simp only [Bool.not_eq_false, Bool.and_eq_true, decide_eq_true_eq] at h1 h2
        exact ⟨h1.1, h1.2, h2.1, h2.2⟩
/-- Behind a right Check, the reference's depths are the program's chains. -/
theorem depths_same {xs : List Iss} (h : layE xs = 0) : (numbersR xs).map (depF xs ((numbersR xs).length + 1)) = chainsL xs (numbersL xs) := by
  obtain ⟨-, h2, -, h4, h5, -⟩ := layE_ok h
  rw [numbers_same h2]
  unfold chainsL
  apply List.map_congr_left
  intro y hy
  rw [dep_same (right_shut h2 h4) hy, if_neg]
  intro e
  exact h5 (List.mem_map.2 ⟨y, hy, e⟩)
theorem last_fold (d : Int) : ∀ (xs : List Iss) (p : Int), ((xs.filter fun x => decide (x.d = d)).getLast?.map (·.l)).getD p = xs.foldl (fun n x => if x.d = d then x.l else n) p
  | [], p => rfl
  | x :: r, p => by
    rw [List.foldl_cons, ← last_fold d r]
    by_cases e : x.d = d
    · rw [if_pos e, List.filter_cons_of_pos (by simpa using e), List.getLast?_cons]
      cases (r.filter fun x => decide (x.d = d)).getLast? <;> rfl
    · rw [if_neg e, List.filter_cons_of_neg (by simpa using e)]
theorem idxs_map (xs : List Iss) (d : Int) : (idxs xs d).map (fun k => xs[k]) = xs.filter fun x => decide (x.d = d) := by
  unfold idxs
  have h : (List.finRange xs.length).map (fun k => xs[k]) = xs := by
    apply List.ext_getElem
    · simp
    · intro i h1 h2; simp
  conv => rhs; rw [← h]
  rw [List.filter_map]
  rfl
theorem lastS_fold (xs : List Iss) (d : Int) : lastS xs d = xs.foldl (fun n x => if x.d = d then x.l else n) 0 := by
  rw [← last_fold]
  unfold lastS lastI
  rw [← idxs_map, List.getLast?_map]
  simp [Function.comp_def]
theorem last_right {d : Int} : ∀ {xs : List Iss} {b : Iss} {n : Int}, rightB b xs = true → (b.d = d → n = b.l) → (b.d < d → n = 0) → 0 ≤ n → lastOfR d n xs = xs.foldl (fun n x => if x.d = d then x.l else n) n
  | [], _, _, _, _, _, _ => rfl
  | x :: r, b, n, h, h1, h2, h3 => by
    obtain ⟨h4, h5⟩ := right_cons h
    obtain ⟨hn, ho, -, -⟩ := met_parts h4
    have hn := namedB_iff.1 hn
    have ho := orderB_iff.1 ho
    rw [List.foldl_cons, lastOfR]
    by_cases e : x.d = d
    · have hm : max n x.l = x.l := by
        rcases ho with ⟨e1, e2, -⟩ | ⟨e1, e2⟩
        · have := h1 (by omega); omega
        · have := h2 (by omega); omega
      simp only [if_pos e, hm]
      exact last_right h5 (fun _ => rfl) (fun h => by omega) (by omega)
    · simp only [if_neg e]
      refine last_right h5 (fun h => absurd h e) (fun h => ?_) h3
      rcases ho with ⟨e1, e2, -⟩ | ⟨e1, e2⟩
      · exact h2 (by omega)
      · exact h2 (by omega)
theorem last_same {xs : List Iss} {d : Int} (h : rightB zeroI xs = true) : lastOfR d 0 xs = lastS xs d := by
  rw [lastS_fold]
  exact last_right h (fun _ => rfl) (fun _ => rfl) (Int.le_refl _)
end Go.Proofs.Ytngaepgepcnhkaa
