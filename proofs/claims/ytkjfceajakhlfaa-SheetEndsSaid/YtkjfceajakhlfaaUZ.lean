/- Math: what clashes, number by number or issue by issue. -/
import Derived.Test.YtkjfceajakhlfaaUO
import Derived.Test.YtkjfceajakhlfaaUV
namespace Go.Proofs.Ytkjfceajakhlfaa
set_option linter.unusedVariables false
set_option linter.unusedSimpArgs false
open Go.RowKit

theorem part_min {z : Int} : ∀ {xs : List Iss}, xs.Pairwise (fun x y => x.d ≤ y.d) → (∀ x ∈ xs, z ≤ x.d) → (xs.filter fun x => decide (x.d = z)) ++ (xs.filter fun x => decide (x.d ≠ z)) = xs
  | [], _, _ => rfl
  | x :: r, h, hm => by
    obtain ⟨h1, h2⟩ := List.pairwise_cons.1 h
    by_cases e : x.d = z
    · rw [List.filter_cons_of_pos (by simpa using e), List.filter_cons_of_neg (by simpa using e), List.cons_append, part_min h2 (fun y hy => hm y (List.mem_cons_of_mem _ hy))]
    · have hx := hm x (by simp)
      have e1 : (x :: r).filter (fun x => decide (x.d = z)) = [] := by
        rw [List.filter_eq_nil_iff]
        intro y hy
        rcases List.mem_cons.1 hy with rfl | hy
        · simpa using e
        · have := h1 y hy
          simp only [decide_eq_true_eq]
          omega
      have e2 : (x :: r).filter (fun x => decide (x.d ≠ z)) = x :: r := by
        rw [List.filter_eq_self]
        intro y hy
        rcases List.mem_cons.1 hy with rfl | hy
        · simpa using e
        · have := h1 y hy
          simp only [decide_eq_true_eq]
          omega
      rw [e1, e2, List.nil_append]
theorem part_all : ∀ {zs : List Int} {xs : List Iss}, zs.Pairwise (· < ·) → xs.Pairwise (fun x y => x.d ≤ y.d) → (∀ x ∈ xs, x.d ∈ zs) → zs.flatMap (fun d => xs.filter fun x => decide (x.d = d)) = xs
  | [], xs, _, _, h => by
    cases xs with
    | nil => rfl
    | cons x r => exact absurd (h x (by simp)) (by simp)
  | z :: r, xs, hz, hx, h => by
    obtain ⟨h1, h2⟩ := List.pairwise_cons.1 hz
    have hm : ∀ x ∈ xs, z ≤ x.d := fun x hx => by
      rcases List.mem_cons.1 (h x hx) with e | e
      · omega
      · have := h1 _ e; omega
    have ih := part_all (xs := xs.filter fun x => decide (x.d ≠ z)) h2 (hx.filter _) (fun x hx => by
      obtain ⟨m, e⟩ := List.mem_filter.1 hx
      rcases List.mem_cons.1 (h x m) with e2 | e2
      · exact absurd e2 (by simpa using e)
      · exact e2)
    have e3 : r.flatMap (fun d => xs.filter fun x => decide (x.d = d)) = r.flatMap (fun d => (xs.filter fun x => decide (x.d ≠ z)).filter fun x => decide (x.d = d)) := by
      rw [List.flatMap_def, List.flatMap_def]
      congr 1
      apply List.map_congr_left
      intro d hd
      rw [List.filter_filter]
      apply List.filter_congr
      intro x _
      have := h1 d hd
      by_cases e : x.d = d
      · simp [e]; omega
      · simp [e]
    rw [List.flatMap_cons, e3, ih]
    exact part_min hx hm
theorem letter_at : ∀ {xs : List Iss} {b : Iss}, rightB b xs = true → ∀ (d : Int) i (h : i < (xs.filter fun x => decide (x.d = d)).length), (xs.filter fun x => decide (x.d = d))[i].l = (if b.d = d then b.l else 0) + i + 1
  | [], _, _, _, _, h => by simp at h
  | x :: r, b, hr, d, i, h => by
    obtain ⟨h1, h2⟩ := right_cons hr
    have ho : orderB b x = true := by unfold metB at h1; simp only [Bool.and_eq_true] at h1; exact h1.1.1.2
    unfold orderB at ho
    by_cases e : x.d = d
    · have ef : (x :: r).filter (fun x => decide (x.d = d)) = x :: r.filter (fun x => decide (x.d = d)) := List.filter_cons_of_pos (by simpa using e)
      simp only [ef]
      cases i with
      | zero =>
        rw [List.getElem_cons_zero]
        by_cases e2 : x.d = b.d
        · rw [if_pos e2, Bool.and_eq_true, decide_eq_true_eq] at ho
          rw [if_pos (by omega), ho.1]
          simp
        · rw [if_neg e2, Bool.and_eq_true, decide_eq_true_eq, decide_eq_true_eq] at ho
          rw [if_neg (by omega), ho.2]
          simp
      | succ j =>
        have hj : j < (r.filter fun x => decide (x.d = d)).length := by rw [ef] at h; simpa using h
        rw [List.getElem_cons_succ, letter_at h2 d j hj, if_pos e]
        by_cases e2 : x.d = b.d
        · rw [if_pos e2, Bool.and_eq_true, decide_eq_true_eq] at ho
          rw [if_pos (by omega), ho.1]
          push_cast
          omega
        · rw [if_neg e2, Bool.and_eq_true, decide_eq_true_eq, decide_eq_true_eq] at ho
          rw [if_neg (by omega), ho.2]
          push_cast
          omega
    · have ef : (x :: r).filter (fun x => decide (x.d = d)) = r.filter (fun x => decide (x.d = d)) := List.filter_cons_of_neg (by simpa using e)
      simp only [ef]
      have hj : i < (r.filter fun x => decide (x.d = d)).length := by rw [ef] at h; exact h
      rw [letter_at h2 d i hj, if_neg e]
      have hy := List.mem_filter.1 (List.getElem_mem hj)
      have hge := right_ge h2 _ hy.1
      have hd : (r.filter fun x => decide (x.d = d))[i].d = d := by simpa using hy.2
      by_cases e2 : x.d = b.d
      · rw [if_neg (by omega)]
      · rw [if_neg e2, Bool.and_eq_true, decide_eq_true_eq, decide_eq_true_eq] at ho
        rw [if_neg (by omega)]
/-- The issues of a drawing. -/
def ofD (xs : List Iss) (d : Int) : List Iss := xs.filter fun x => decide (x.d = d)
theorem ofD_at {xs : List Iss} (h : rightB zeroI xs = true) {d : Int} {i : Nat} (hi : i < (ofD xs d).length) : (ofD xs d)[i].d = d ∧ (ofD xs d)[i].l = i + 1 := by
  refine ⟨by have := (List.mem_filter.1 (List.getElem_mem hi)).2; simpa using this, ?_⟩
  have := letter_at h d i hi
  rw [show zeroI.l = 0 from rfl, ite_self] at this
  unfold ofD
  omega
theorem d_mem {xs : List Iss} (h : rightB zeroI xs = true) {x : Iss} (hx : x ∈ xs) : x.d ∈ numbersL xs := by
  have hm : x ∈ ofD xs x.d := List.mem_filter.2 ⟨hx, by simp⟩
  have h0 : 0 < (ofD xs x.d).length := List.length_pos_of_mem hm
  obtain ⟨h1, h2⟩ := ofD_at h h0
  unfold numbersL
  refine List.mem_map.2 ⟨(ofD xs x.d)[0], List.mem_filter.2 ⟨(List.mem_filter.1 (List.getElem_mem h0)).1, by simpa using h2⟩, h1⟩
theorem all_ofD {xs : List Iss} (h : rightB zeroI xs = true) : (numbersL xs).flatMap (ofD xs) = xs := part_all (numbers_strict h) (right_sorted h) (fun _ hx => d_mem h hx)
/-- The issue that has a name. -/
theorem hasN_ofD {ys : List Iss} (h : rightB zeroI ys = true) {d : Int} {i : Nat} : hasN ys d (i + 1) = decide (i < (ofD ys d).length) := by
  rw [Bool.eq_iff_iff, hasN_iff, decide_eq_true_eq]
  constructor
  · rintro ⟨y, hy, h1, h2⟩
    obtain ⟨j, hj, rfl⟩ := List.getElem_of_mem (show y ∈ ofD ys d from List.mem_filter.2 ⟨hy, by simpa using h1⟩)
    have := (ofD_at h hj).2
    omega
  · intro hi
    exact ⟨_, (List.mem_filter.1 (List.getElem_mem hi)).1, (ofD_at h hi).1, (ofD_at h hi).2⟩
theorem getD_ofD {ys : List Iss} (h : rightB zeroI ys = true) {d : Int} {i : Nat} (hi : i < (ofD ys d).length) : ys.getD (idxN ys d (i + 1)) zeroI = (ofD ys d)[i] := by
  have hh : hasN ys d (i + 1) = true := by rw [hasN_ofD h]; simpa using hi
  have hq : idxN ys d (i + 1) < ys.length := of_decide_eq_true hh
  rw [getD_at hq]
  have hf : decide (ys[idxN ys d (i + 1)].d = d) && decide (ys[idxN ys d (i + 1)].l = i + 1) := List.findIdx_getElem (w := hq)
  rw [Bool.and_eq_true, decide_eq_true_eq, decide_eq_true_eq] at hf
  obtain ⟨j, hj, e⟩ := List.getElem_of_mem (show ys[idxN ys d (i + 1)] ∈ ofD ys d from List.mem_filter.2 ⟨List.getElem_mem hq, by simpa using hf.1⟩)
  have := (ofD_at h hj).2
  rw [e, hf.2] at this
  obtain rfl : j = i := by omega
  exact e.symm
theorem range_less (m k : Nat) (p : Nat → Bool) : (List.range m).filter (fun i => decide (i < k) && p i) = (List.range (min m k)).filter p := by
  induction m with
  | zero => simp
  | succ m ih =>
    rw [List.range_succ, List.filter_append, ih]
    by_cases h : m < k
    · rw [show min (m + 1) k = min m k + 1 by omega, List.range_succ, List.filter_append, show min m k = m by omega]
      congr 1
      simp only [List.filter_cons, List.filter_nil, decide_eq_true h, Bool.true_and]
    · rw [show min (m + 1) k = min m k by omega]
      simp [h]
theorem filter_range (l : List Iss) (p : Iss → Bool) : l.filter p = ((List.range l.length).filter fun i => p (l.getD i zeroI)).map fun i => l.getD i zeroI := by
  have hr : l = (List.range l.length).map fun i => l.getD i zeroI := by
    apply List.ext_getElem
    · simp
    · intro i h1 h2
      rw [List.getElem_map, List.getElem_range, getD_at h1]
  conv => lhs; rw [hr]
  rw [List.filter_map]
  rfl
/-- What the program tells of one number. -/
def clashD (xs ys : List Iss) (d : Int) : List (Int × Int) := (diffL ((ofD xs d).take (min (ofD xs d).length (ofD ys d).length)) ((ofD ys d).take (min (ofD xs d).length (ofD ys d).length))).map fun i => (((ofD xs d).getD i.toNat zeroI).d, ((ofD xs d).getD i.toNat zeroI).l)
theorem clashD_eq {xs ys : List Iss} (hx : rightB zeroI xs = true) (hy : rightB zeroI ys = true) (d : Int) : clashD xs ys d = ((ofD xs d).filter (hitB ys)).map fun x => (x.d, x.l) := by
  unfold clashD
  rw [filter_range (ofD xs d), List.map_map]
  have hp : (List.range (ofD xs d).length).filter (fun i => hitB ys ((ofD xs d).getD i zeroI)) = (List.range (ofD xs d).length).filter (fun i => decide (i < (ofD ys d).length) && decide ((ofD xs d)[i]? ≠ (ofD ys d)[i]?)) := by
    apply List.filter_congr
    intro i hi
    rw [List.mem_range] at hi
    rw [getD_at hi]
    unfold hitB
    obtain ⟨h1, h2⟩ := ofD_at hx hi
    rw [h1, h2, hasN_ofD hy]
    by_cases h : i < (ofD ys d).length
    · rw [getD_ofD hy h, List.getElem?_eq_getElem hi, List.getElem?_eq_getElem h, decide_eq_true h, Bool.true_and, Bool.true_and, Bool.eq_iff_iff]
      rw [Bool.not_eq_true', ← Bool.not_eq_true, sameI_iff, decide_eq_true_eq]
      simp
    · rw [decide_eq_false h, Bool.false_and, Bool.false_and]
  rw [hp, range_less]
  unfold diffL diffJ
  generalize hn : min (ofD xs d).length (ofD ys d).length = n
  have hl : max ((ofD xs d).take n).length ((ofD ys d).take n).length = n := by rw [List.length_take, List.length_take]; omega
  rw [hl, List.map_map]
  have hq : (List.range n).filter (fun i => decide (((ofD xs d).take n)[i]? ≠ ((ofD ys d).take n)[i]?)) = (List.range n).filter (fun i => decide ((ofD xs d)[i]? ≠ (ofD ys d)[i]?)) := by
    apply List.filter_congr
    intro i hi
    rw [List.mem_range] at hi
    rw [List.getElem?_take_of_lt hi, List.getElem?_take_of_lt hi]
  rw [hq]
  rfl
/-- Number by number, or issue by issue: the same. -/
theorem clash_same {xs ys : List Iss} (hx : rightB zeroI xs = true) (hy : rightB zeroI ys = true) : (numbersL xs).flatMap (clashD xs ys) = clashR xs ys xs.length := by
  unfold clashR
  rw [List.take_length]
  conv => rhs; rw [← all_ofD hx]
  rw [List.filter_flatMap, List.map_flatMap]
  rw [List.flatMap_def, List.flatMap_def]
  congr 1
  apply List.map_congr_left
  intro d _
  exact clashD_eq hx hy d
end Go.Proofs.Ytkjfceajakhlfaa
