/- Math: what two registers make together: as the program joins them, and as the reference puts issues in, one and the same. -/
import Derived.Test.YtkjfceajakhlfaaLF
namespace Go.Proofs.Ytkjfceajakhlfaa
set_option linter.unusedVariables false
set_option linter.unusedSimpArgs false
open Go.RowKit

theorem right_cons2 {b x : Iss} {xs : List Iss} (h : rightB b (x :: xs) = true) : namedB x = true ∧ orderB b x = true ∧ rightB x xs = true := by
  obtain ⟨h1, h2⟩ := right_cons h
  obtain ⟨h3, h4, -⟩ := met_parts h1
  exact ⟨h3, h4, h2⟩
/-- One name is before another one. -/
def ltN (x y : Iss) : Prop := x.d < y.d ∨ (x.d = y.d ∧ x.l < y.l)
def isAs (x y : Iss) : Prop := x.d = y.d ∧ x.l = y.l
instance (x y : Iss) : Decidable (ltN x y) := by unfold ltN; infer_instance
instance (x y : Iss) : Decidable (isAs x y) := by unfold isAs; infer_instance
theorem ltN_trans {x y z : Iss} (h : ltN x y) (h2 : ltN y z) : ltN x z := by unfold ltN at *; omega
theorem right_lt : ∀ {xs : List Iss} {b : Iss}, rightB b xs = true → xs.Pairwise ltN ∧ ∀ x ∈ xs, ltN b x
  | [], _, _ => ⟨List.Pairwise.nil, fun _ h => by cases h⟩
  | x :: xs, b, h => by
    obtain ⟨-, h2, h3⟩ := right_cons2 h
    obtain ⟨i1, i2⟩ := right_lt h3
    have hb : ltN b x := by
      rw [orderB_iff] at h2
      unfold ltN; omega
    refine ⟨List.Pairwise.cons i2 i1, fun z hz => ?_⟩
    rcases List.mem_cons.1 hz with rfl | hz
    · exact hb
    · exact ltN_trans hb (i2 z hz)
/-- All issues of two registers, as the program joins them. -/
def joinL : List Iss → List Iss → List Iss
  | [], ys => ys
  | x :: xs, [] => x :: xs
  | x :: xs, y :: ys => if x.d = y.d ∧ x.l = y.l then joinL (x :: xs) ys else if y.d < x.d then y :: joinL (x :: xs) ys else x :: joinL xs (y :: ys)
termination_by xs ys => xs.length + ys.length
theorem joinL_nil (xs : List Iss) : joinL xs [] = xs := by cases xs <;> rw [joinL]
theorem joinL_len : ∀ (xs ys : List Iss), (joinL xs ys).length ≤ xs.length + ys.length
  | [], ys => by rw [joinL]; simp
  | x :: xs, [] => by rw [joinL]; simp
  | x :: xs, y :: ys => by
    rw [joinL]
    split
    · have := joinL_len (x :: xs) ys; simp at this ⊢; omega
    · split
      · have := joinL_len (x :: xs) ys; simp at this ⊢; omega
      · have := joinL_len xs (y :: ys); simp at this ⊢; omega
termination_by xs ys => xs.length + ys.length
theorem join_spec : ∀ (xs ys : List Iss) (b c : Iss), rightB b xs = true → rightB c ys = true → (∀ y ∈ ys, ltN b y) →
    (joinL xs ys).Pairwise ltN ∧ ∀ z, z ∈ joinL xs ys ↔ z ∈ xs ∨ (z ∈ ys ∧ ∀ x ∈ xs, ¬ isAs x z)
  | [], ys, b, c, _, hy, _ => by
    rw [joinL]
    exact ⟨(right_lt hy).1, fun z => by simp⟩
  | x :: xs, [], b, c, hx, _, _ => by
    rw [joinL]
    exact ⟨(right_lt hx).1, fun z => by simp⟩
  | x :: xs, y :: ys, b, c, hx, hy, hb => by
    obtain ⟨x1, x2, x3⟩ := right_cons2 hx
    obtain ⟨y1, y2, y3⟩ := right_cons2 hy
    have hxs := right_lt hx
    have hys := right_lt hy
    rw [joinL]
    split
    · rename_i he
      obtain ⟨i1, i2⟩ := join_spec (x :: xs) ys b y hx y3 (fun z hz => hb z (List.mem_cons_of_mem _ hz))
      refine ⟨i1, fun z => ?_⟩
      rw [i2 z]
      constructor
      · rintro (h | ⟨h, h2⟩)
        · exact .inl h
        · exact .inr ⟨List.mem_cons_of_mem _ h, h2⟩
      · rintro (h | ⟨h, h2⟩)
        · exact .inl h
        · rcases List.mem_cons.1 h with rfl | h
          · exact absurd he (h2 x (List.mem_cons_self ..))
          · exact .inr ⟨h, h2⟩
    · rename_i hne
      split
      · rename_i hlt
        obtain ⟨i1, i2⟩ := join_spec (x :: xs) ys b y hx y3 (fun z hz => hb z (List.mem_cons_of_mem _ hz))
        have hyx : ∀ z ∈ x :: xs, y.d < z.d := by
          intro z hz
          rcases List.mem_cons.1 hz with rfl | hz
          · exact hlt
          · have := List.rel_of_pairwise_cons hxs.1 hz
            unfold ltN at this; omega
        refine ⟨List.Pairwise.cons (fun z hz => ?_) i1, fun z => ?_⟩
        · rcases (i2 z).1 hz with h | ⟨h, -⟩
          · exact .inl (hyx z h)
          · exact List.rel_of_pairwise_cons hys.1 h
        · rw [List.mem_cons, i2 z]
          constructor
          · rintro (rfl | h | ⟨h, h2⟩)
            · exact .inr ⟨List.mem_cons_self .., fun w hw h => by have := hyx w hw; unfold isAs at h; omega⟩
            · exact .inl h
            · exact .inr ⟨List.mem_cons_of_mem _ h, h2⟩
          · rintro (h | ⟨h, h2⟩)
            · exact .inr (.inl h)
            · rcases List.mem_cons.1 h with rfl | h
              · exact .inl rfl
              · exact .inr (.inr ⟨h, h2⟩)
      · rename_i hge
        have hby := hb y (List.mem_cons_self ..)
        rw [orderB_iff] at x2
        rw [namedB_iff] at y1
        have hxy : ltN x y := by unfold ltN at *; omega
        have hxys : ∀ z ∈ y :: ys, ltN x z := by
          intro z hz
          rcases List.mem_cons.1 hz with rfl | hz
          · exact hxy
          · exact ltN_trans hxy (List.rel_of_pairwise_cons hys.1 hz)
        obtain ⟨i1, i2⟩ := join_spec xs (y :: ys) x c x3 hy hxys
        refine ⟨List.Pairwise.cons (fun z hz => ?_) i1, fun z => ?_⟩
        · rcases (i2 z).1 hz with h | ⟨h, -⟩
          · exact List.rel_of_pairwise_cons hxs.1 h
          · exact hxys z h
        · rw [List.mem_cons, i2 z]
          constructor
          · rintro (rfl | h | ⟨h, h2⟩)
            · exact .inl (List.mem_cons_self ..)
            · exact .inl (List.mem_cons_of_mem _ h)
            · refine .inr ⟨h, fun w hw => ?_⟩
              rcases List.mem_cons.1 hw with rfl | hw
              · have := hxys z h
                unfold ltN isAs at *; omega
              · exact h2 w hw
          · rintro (h | ⟨h, h2⟩)
            · rcases List.mem_cons.1 h with rfl | h
              · exact .inl rfl
              · exact .inr (.inl h)
            · exact .inr (.inr ⟨h, fun w hw => h2 w (List.mem_cons_of_mem _ hw)⟩)
termination_by xs ys => xs.length + ys.length
/-- Where an issue is put in. -/
def posL (o : List Iss) (y : Iss) : Nat := o.findIdx fun z => !decide (ltN z y)
def insL (o : List Iss) (y : Iss) : List Iss := o.take (posL o y) ++ y :: o.drop (posL o y)
def stepMg (xs o : List Iss) (y : Iss) : List Iss := if ∃ x ∈ xs, isAs x y then o else insL o y
def refL (xs ys : List Iss) : List Iss := ys.foldl (stepMg xs) xs
theorem posL_le (o : List Iss) (y : Iss) : posL o y ≤ o.length := List.findIdx_le_length
theorem posL_lt {o : List Iss} {y : Iss} {i : Nat} (h : i < posL o y) (hi : i < o.length) : ltN o[i] y := by
  have := List.not_of_lt_findIdx h
  simpa using this
theorem posL_at {o : List Iss} {y : Iss} (h : posL o y < o.length) : ¬ ltN o[posL o y] y := by
  have h1 : (!decide (ltN o[posL o y] y)) = true := List.findIdx_getElem (p := fun z => !decide (ltN z y)) (xs := o) (w := h)
  intro hc
  rw [decide_eq_true hc] at h1
  cases h1
theorem posL_eq {o : List Iss} {y : Iss} {k : Nat} (hk : k ≤ o.length) (h1 : ∀ i (h : i < o.length), i < k → ltN o[i] y) (h2 : ∀ h : k < o.length, ¬ ltN o[k] y) : posL o y = k := by
  rcases Nat.lt_trichotomy (posL o y) k with h | h | h
  · have := h1 _ (by omega) h
    exact absurd this (posL_at (by omega))
  · exact h
  · have hl := posL_le o y
    exact absurd (posL_lt h (by omega)) (h2 (by omega))
theorem mem_insL {o : List Iss} {y z : Iss} : z ∈ insL o y ↔ z = y ∨ z ∈ o := by
  unfold insL
  rw [List.mem_append, List.mem_cons]
  constructor
  · rintro (h | h | h)
    · exact .inr (List.mem_of_mem_take h)
    · exact .inl h
    · exact .inr (List.mem_of_mem_drop h)
  · rintro (h | h)
    · exact .inr (.inl h)
    · rw [← List.take_append_drop (posL o y) o, List.mem_append] at h
      rcases h with h | h
      · exact .inl h
      · exact .inr (.inr h)
theorem insL_sorted {o : List Iss} {y : Iss} (ho : o.Pairwise ltN) (hn : ∀ z ∈ o, ¬ isAs z y) : (insL o y).Pairwise ltN := by
  have ht : ∀ z ∈ o.take (posL o y), ltN z y := by
    intro z hz
    obtain ⟨i, hi, rfl⟩ := List.getElem_of_mem hz
    rw [List.length_take] at hi
    rw [List.getElem_take]
    exact posL_lt (by omega) (by omega)
  have hd : ∀ z ∈ o.drop (posL o y), ltN y z := by
    intro z hz
    obtain ⟨i, hi, rfl⟩ := List.getElem_of_mem hz
    rw [List.length_drop] at hi
    rw [List.getElem_drop]
    have h1 := posL_at (o := o) (y := y) (by omega)
    have h2 : ltN o[posL o y] o[posL o y + i] ∨ i = 0 := by
      by_cases e : i = 0
      · exact .inr e
      · exact .inl (List.pairwise_iff_getElem.1 ho _ _ (by omega) (by omega) (by omega))
    have h3 := hn o[posL o y] (List.getElem_mem (by omega))
    have h4 : ltN y o[posL o y] := by unfold ltN isAs at *; omega
    rcases h2 with h2 | rfl
    · exact ltN_trans h4 h2
    · exact h4
  unfold insL
  rw [List.pairwise_append]
  refine ⟨ho.sublist (List.take_sublist _ _), List.Pairwise.cons hd (ho.sublist (List.drop_sublist _ _)), fun a ha b hb => ?_⟩
  rcases List.mem_cons.1 hb with rfl | hb
  · exact ht a ha
  · exact ltN_trans (ht a ha) (hd b hb)
theorem ref_spec (xs : List Iss) : ∀ (ys o : List Iss), o.Pairwise ltN → ys.Pairwise ltN → (∀ z ∈ o, ∀ y ∈ ys, isAs z y → ∃ x ∈ xs, isAs x y) →
    (ys.foldl (stepMg xs) o).Pairwise ltN ∧ ∀ z, z ∈ ys.foldl (stepMg xs) o ↔ z ∈ o ∨ (z ∈ ys ∧ ¬ ∃ x ∈ xs, isAs x z)
  | [], o, ho, _, _ => ⟨ho, fun z => by simp⟩
  | y :: ys, o, ho, hy, hn => by
    rw [List.foldl_cons]
    by_cases he : ∃ x ∈ xs, isAs x y
    · have hs : stepMg xs o y = o := if_pos he
      rw [hs]
      obtain ⟨i1, i2⟩ := ref_spec xs ys o ho hy.of_cons (fun z hz y' hy' => hn z hz y' (List.mem_cons_of_mem _ hy'))
      refine ⟨i1, fun z => ?_⟩
      rw [i2 z]
      constructor
      · rintro (h | ⟨h, h2⟩)
        · exact .inl h
        · exact .inr ⟨List.mem_cons_of_mem _ h, h2⟩
      · rintro (h | ⟨h, h2⟩)
        · exact .inl h
        · rcases List.mem_cons.1 h with rfl | h
          · exact absurd he h2
          · exact .inr ⟨h, h2⟩
    · have hs : stepMg xs o y = insL o y := if_neg he
      rw [hs]
      have hn2 : ∀ z ∈ o, ¬ isAs z y := fun z hz h => he (hn z hz y (List.mem_cons_self ..) h)
      obtain ⟨i1, i2⟩ := ref_spec xs ys (insL o y) (insL_sorted ho hn2) hy.of_cons (fun z hz y' hy' h => by
        rcases mem_insL.1 hz with rfl | hz
        · have := List.rel_of_pairwise_cons hy hy'
          unfold ltN isAs at *; omega
        · exact hn z hz y' (List.mem_cons_of_mem _ hy') h)
      refine ⟨i1, fun z => ?_⟩
      rw [i2 z, mem_insL]
      constructor
      · rintro ((rfl | h) | ⟨h, h2⟩)
        · exact .inr ⟨List.mem_cons_self .., he⟩
        · exact .inl h
        · exact .inr ⟨List.mem_cons_of_mem _ h, h2⟩
      · rintro (h | ⟨h, h2⟩)
        · exact .inl (.inr h)
        · rcases List.mem_cons.1 h with rfl | h
          · exact .inl (.inl rfl)
          · exact .inr ⟨h, h2⟩
theorem sorted_one : ∀ {a b : List Iss}, a.Pairwise ltN → b.Pairwise ltN → (∀ z, z ∈ a ↔ z ∈ b) → a = b
  | [], [], _, _, _ => rfl
  | [], y :: b, _, _, h => absurd ((h y).2 (List.mem_cons_self ..)) (by simp)
  | x :: a, [], _, _, h => absurd ((h x).1 (List.mem_cons_self ..)) (by simp)
  | x :: a, y :: b, ha, hb, h => by
    have irr : ∀ z, ¬ ltN z z := fun z h => by unfold ltN at h; omega
    have hxy : x = y := by
      rcases List.mem_cons.1 ((h x).1 (List.mem_cons_self ..)) with e | h1
      · exact e
      · rcases List.mem_cons.1 ((h y).2 (List.mem_cons_self ..)) with e | h2
        · exact e.symm
        · exact absurd (ltN_trans (List.rel_of_pairwise_cons ha h2) (List.rel_of_pairwise_cons hb h1)) (irr _)
    subst hxy
    congr 1
    refine sorted_one ha.of_cons hb.of_cons fun z => ⟨fun hz => ?_, fun hz => ?_⟩
    · rcases List.mem_cons.1 ((h z).1 (List.mem_cons_of_mem _ hz)) with rfl | h1
      · exact absurd (List.rel_of_pairwise_cons ha hz) (irr _)
      · exact h1
    · rcases List.mem_cons.1 ((h z).2 (List.mem_cons_of_mem _ hz)) with rfl | h1
      · exact absurd (List.rel_of_pairwise_cons hb hz) (irr _)
      · exact h1
theorem join_ref {xs ys : List Iss} {z : Iss} (hx : rightB z xs = true) (hy : rightB z ys = true) : joinL xs ys = refL xs ys := by
  obtain ⟨a1, a2⟩ := join_spec xs ys z z hx hy (right_lt hy).2
  obtain ⟨b1, b2⟩ := ref_spec xs ys xs (right_lt hx).1 (right_lt hy).1 (fun z hz y hy h => ⟨z, hz, h⟩)
  refine sorted_one a1 b1 fun w => ?_
  unfold refL at *
  rw [a2 w, b2 w]
  constructor
  · rintro (h | ⟨h, h2⟩)
    · exact .inl h
    · exact .inr ⟨h, fun ⟨x, h3, h4⟩ => h2 x h3 h4⟩
  · rintro (h | ⟨h, h2⟩)
    · exact .inl h
    · exact .inr ⟨h, fun x h3 h4 => h2 ⟨x, h3, h4⟩⟩
theorem joinL_same {x y : Iss} {xs ys : List Iss} (h1 : x.d = y.d) (h2 : x.l = y.l) : joinL (x :: xs) (y :: ys) = joinL (x :: xs) ys := by rw [joinL, if_pos ⟨h1, h2⟩]
theorem joinL_right {x y : Iss} {xs ys : List Iss} (h : y.d < x.d) : joinL (x :: xs) (y :: ys) = y :: joinL (x :: xs) ys := by rw [joinL, if_neg (by omega), if_pos h]
theorem joinL_left {x y : Iss} {xs ys : List Iss} (h : ¬ y.d < x.d) (h2 : ¬ (x.d = y.d ∧ x.l = y.l)) : joinL (x :: xs) (y :: ys) = x :: joinL xs (y :: ys) := by rw [joinL, if_neg h2, if_neg h]
theorem mem_joinL : ∀ (xs ys : List Iss) (z : Iss), z ∈ joinL xs ys → z ∈ xs ∨ z ∈ ys
  | [], ys, z, h => by rw [joinL] at h; exact .inr h
  | x :: xs, [], z, h => by rw [joinL] at h; exact .inl h
  | x :: xs, y :: ys, z, h => by
    rw [joinL] at h
    split at h
    · rcases mem_joinL (x :: xs) ys z h with h | h
      · exact .inl h
      · exact .inr (List.mem_cons_of_mem _ h)
    · split at h
      · rcases List.mem_cons.1 h with rfl | h
        · exact .inr (List.mem_cons_self ..)
        · rcases mem_joinL (x :: xs) ys z h with h | h
          · exact .inl h
          · exact .inr (List.mem_cons_of_mem _ h)
      · rcases List.mem_cons.1 h with rfl | h
        · exact .inl (List.mem_cons_self ..)
        · rcases mem_joinL xs (y :: ys) z h with h | h
          · exact .inl (List.mem_cons_of_mem _ h)
          · exact .inr h
termination_by xs ys => xs.length + ys.length
theorem join_left {xs ys P : List Iss} {i j : Nat} (hi : i < xs.length) (h : P ++ joinL (xs.drop i) (ys.drop j) = joinL xs ys) (hc : ys.length ≤ j ∨ ∃ hj : j < ys.length, ¬ ys[j].d < xs[i].d ∧ ¬ (xs[i].d = ys[j].d ∧ xs[i].l = ys[j].l)) : (P ++ [xs[i]]) ++ joinL (xs.drop (i + 1)) (ys.drop j) = joinL xs ys := by
  rw [← h, List.append_assoc, List.drop_eq_getElem_cons hi]
  congr 1
  rcases hc with hc | ⟨hj, h1, h2⟩
  · rw [List.drop_eq_nil_of_le hc, joinL_nil, joinL_nil]; rfl
  · rw [List.drop_eq_getElem_cons hj, joinL_left h1 h2]; rfl
theorem join_right {xs ys P : List Iss} {i j : Nat} (hj : j < ys.length) (h : P ++ joinL (xs.drop i) (ys.drop j) = joinL xs ys) (hc : xs.length ≤ i ∨ ∃ hi : i < xs.length, ys[j].d < xs[i].d) : (P ++ [ys[j]]) ++ joinL (xs.drop i) (ys.drop (j + 1)) = joinL xs ys := by
  rw [← h, List.append_assoc, List.drop_eq_getElem_cons hj]
  congr 1
  rcases hc with hc | ⟨hi, h1⟩
  · rw [List.drop_eq_nil_of_le hc, joinL, joinL]; rfl
  · rw [List.drop_eq_getElem_cons hi, joinL_right h1]; rfl
theorem join_skip {xs ys P : List Iss} {i j : Nat} (hi : i < xs.length) (hj : j < ys.length) (h : P ++ joinL (xs.drop i) (ys.drop j) = joinL xs ys) (h1 : xs[i].d = ys[j].d) (h2 : xs[i].l = ys[j].l) : P ++ joinL (xs.drop i) (ys.drop (j + 1)) = joinL xs ys := by
  rw [← h]
  congr 1
  rw [List.drop_eq_getElem_cons hi, List.drop_eq_getElem_cons hj, joinL_same h1 h2]
theorem join_done {xs ys P : List Iss} {i j : Nat} (hi : xs.length ≤ i) (hj : ys.length ≤ j) (h : P ++ joinL (xs.drop i) (ys.drop j) = joinL xs ys) : P = joinL xs ys := by
  rw [← h, List.drop_eq_nil_of_le hi, List.drop_eq_nil_of_le hj, joinL, List.append_nil]
end Go.Proofs.Ytkjfceajakhlfaa
