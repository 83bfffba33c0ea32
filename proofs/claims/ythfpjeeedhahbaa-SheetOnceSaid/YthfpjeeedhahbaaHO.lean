/- SheetOnce's mathematics: what clashes, and what two registers that are merged hold. -/
import Derived.Test.YthfpjeeedhahbaaHY
import Derived.Test.YthfpjeeedhahbaaVF
import Derived.Test.YthfpjeeedhahbaaRG
namespace Go.Proofs.Ythfpjeeedhahbaa
set_option linter.unusedVariables false
set_option linter.unusedSimpArgs false
open Go.RowKit

theorem issue_2 {xs : List Iss} (h : layE xs = 0) {x y : Iss} (hx : x ∈ xs) (hy : y ∈ xs) (hd : x.d = y.d) (hl : x.l = y.l) : x = y := by
  obtain ⟨-, h2, -⟩ := layE_ok h
  have hp := (right_lt h2).1
  obtain ⟨i, hi, rfl⟩ := List.getElem_of_mem hx
  obtain ⟨j, hj, rfl⟩ := List.getElem_of_mem hy
  rcases Nat.lt_trichotomy i j with e | e | e
  · have := List.pairwise_iff_getElem.1 hp i j hi hj e
    unfold ltN at this
    omega
  · subst e; rfl
  · have := List.pairwise_iff_getElem.1 hp j i hj hi e
    unfold ltN at this
    omega
/-- Two lists, each of whose elements is there once, with the same elements have one length. -/
theorem nodup_le {α : Type} [DecidableEq α] : ∀ {a b : List α}, a.Nodup → (∀ z ∈ a, z ∈ b) → a.length ≤ b.length
  | [], _, _, _ => by simp
  | z :: r, b, h, hs => by
    have h1 := List.nodup_cons.1 h
    have h2 : ∀ y ∈ r, y ∈ b.erase z := fun y hy => (List.mem_erase_of_ne (by rintro rfl; exact h1.1 hy)).2 (hs y (List.mem_cons_of_mem _ hy))
    have h3 := nodup_le h1.2 h2
    have h4 := List.length_erase_of_mem (hs z (by simp))
    have h5 := List.length_pos_of_mem (hs z (by simp))
    rw [List.length_cons]
    omega
theorem sorted_nodup {xs : List Iss} (h : xs.Pairwise ltN) : xs.Nodup := h.imp fun {a b} h e => by
  subst e
  unfold ltN at h
  omega
/-- Which issues of one register are in the other one. -/
def comL (xs ys : List Iss) (k : Nat) : List Iss := (xs.take k).filter fun x => hasN ys x.d x.l
theorem com_step {xs ys : List Iss} {k : Nat} (h : k < xs.length) : (comL xs ys (k + 1)).length = (comL xs ys k).length + if hasN ys xs[k].d xs[k].l then 1 else 0 := by
  unfold comL
  rw [List.take_succ_eq_append_getElem h, List.filter_append, List.length_append]
  by_cases e : hasN ys xs[k].d xs[k].l = true
  · rw [if_pos e]; simp [e]
  · rw [if_neg e]; simp [e]
theorem com_le (xs ys : List Iss) (k : Nat) : (comL xs ys k).length ≤ k := by
  unfold comL
  exact Nat.le_trans (List.length_filter_le _ _) (List.length_take_le _ _)
/-- A clash is told in its place. -/
theorem clash_at {xs ys : List Iss} {k : Nat} (h : k < xs.length) (hh : hitB ys xs[k] = true) : (clashR xs ys xs.length)[(clashR xs ys k).length]? = some (xs[k].d, xs[k].l) := by
  have h1 : clashR xs ys xs.length = clashR xs ys k ++ ((xs.drop k).filter (hitB ys)).map fun x => (x.d, x.l) := by
    unfold clashR
    rw [← List.map_append, ← List.filter_append, List.take_append_drop, List.take_length]
  rw [h1, List.getElem?_append_right (Nat.le_refl _), Nat.sub_self, List.drop_eq_getElem_cons h, List.filter_cons_of_pos hh, List.map_cons]
  rfl
theorem clash_no {xs ys : List Iss} {k : Nat} (h : k < xs.length) (hh : hitB ys xs[k] = false) : clashR xs ys (k + 1) = clashR xs ys k := by
  rw [clashR_step h, hh]; simp
theorem clash_yes {xs ys : List Iss} {k : Nat} (h : k < xs.length) (hh : hitB ys xs[k] = true) : (clashR xs ys (k + 1)).length = (clashR xs ys k).length + 1 := by
  rw [clashR_step h, hh]; simp
/-- What stands of two registers that are merged. -/
theorem once_none {xs ys : List Iss} (h1 : layE xs = 0) (h2 : layE ys = 0) : ((mergeE xs ys).2 = 23 ↔ 0 < (clashR xs ys xs.length).length) ∧ ((mergeE xs ys).2 ≠ 0 → (mergeE xs ys).2 = 23 ∨ (mergeE xs ys).2 = 20 ∨ (mergeE xs ys).2 = 21) := by
  obtain ⟨-, hx, -⟩ := layE_ok h1
  obtain ⟨-, hy, -⟩ := layE_ok h2
  have hl : ∀ zs : List Iss, layE zs = 0 ∨ layE zs = 20 ∨ layE zs = 21 := fun zs => by
    unfold layE
    repeat' split
    all_goals simp
  by_cases hc : calm xs ys
  · have e : clashR xs ys xs.length = [] := (clash_calm (right_lt hy).1).2 hc
    have h3 := hl (joinL xs ys)
    rw [merge_calm h1 h2 hc, e]
    by_cases h4 : layE (joinL xs ys) = 0
    · rw [if_neg (by simpa using h4)]; simp
    · rw [if_pos h4]
      simp only [List.length_nil]
      omega
  · have e : clashR xs ys xs.length ≠ [] := fun e => hc ((clash_calm (right_lt hy).1).1 e)
    rw [merge_loud h1 h2 hc]
    have := List.length_pos_iff.2 e
    exact ⟨⟨fun _ => this, fun _ => rfl⟩, fun _ => .inl rfl⟩
theorem once_some {xs ys : List Iss} (h1 : layE xs = 0) (h2 : layE ys = 0) (h0 : (mergeE xs ys).2 = 0) : layE (mergeE xs ys).1 = 0 ∧ (∀ x, x ∈ xs ∨ x ∈ ys → x ∈ (mergeE xs ys).1) ∧ (mergeE xs ys).1.length + (comL xs ys xs.length).length = xs.length + ys.length := by
  obtain ⟨-, hx, -⟩ := layE_ok h1
  obtain ⟨-, hy, -⟩ := layE_ok h2
  by_cases hc : calm xs ys
  · rw [merge_calm h1 h2 hc] at h0 ⊢
    by_cases h4 : layE (joinL xs ys) = 0
    · rw [if_neg (by simpa using h4)]
      have hm := mem_calm hx hy hc
      refine ⟨h4, fun x hx => (hm x).2 hx, ?_⟩
      simp only
      have hj := sorted_nodup (join_sorted hx hy)
      have nx := sorted_nodup (right_lt hx).1
      have ny := sorted_nodup (right_lt hy).1
      have hcom : ∀ x, x ∈ comL xs ys xs.length ↔ x ∈ xs ∧ x ∈ ys := fun x => by
        unfold comL
        rw [List.take_length, List.mem_filter]
        constructor
        · rintro ⟨hx1, hx2⟩
          obtain ⟨y, hy1, e1, e2⟩ := hasN_iff.1 hx2
          exact ⟨hx1, (hc x hx1 y hy1 ⟨e1.symm, e2.symm⟩) ▸ hy1⟩
        · rintro ⟨hx1, hx2⟩
          exact ⟨hx1, hasN_iff.2 ⟨x, hx2, rfl, rfl⟩⟩
      have ncom : (comL xs ys xs.length).Nodup := by
        unfold comL
        rw [List.take_length]
        exact nx.filter _
      have n1 : (ys.filter fun y => !decide (y ∈ xs)).Nodup := ny.filter _
      have hlen1 : (joinL xs ys).length = (xs ++ ys.filter fun y => !decide (y ∈ xs)).length := by
        refine Nat.le_antisymm (nodup_le hj fun z hz => ?_) (nodup_le (List.nodup_append.2 ⟨nx, n1, fun a ha b hb e => ?_⟩) fun z hz => ?_)
        · rw [List.mem_append, List.mem_filter]
          by_cases e : z ∈ xs
          · exact .inl e
          · exact .inr ⟨((hm z).1 hz).resolve_left e, by simp [e]⟩
        · subst e
          have := (List.mem_filter.1 hb).2
          simp [ha] at this
        · rw [List.mem_append, List.mem_filter] at hz
          exact (hm z).2 (hz.imp id And.left)
      have hlen2 : (comL xs ys xs.length).length = (ys.filter fun y => decide (y ∈ xs)).length :=
        Nat.le_antisymm (nodup_le ncom fun z hz => List.mem_filter.2 ⟨((hcom z).1 hz).2, by simp [((hcom z).1 hz).1]⟩) (nodup_le (ny.filter _) fun z hz => (hcom z).2 ⟨by simpa using (List.mem_filter.1 hz).2, (List.mem_filter.1 hz).1⟩)
      have hlen3 : (ys.filter fun y => decide (y ∈ xs)).length + (ys.filter fun y => !decide (y ∈ xs)).length = ys.length := by
        have : ∀ (p : Iss → Bool) (l : List Iss), (l.filter p).length + (l.filter fun y => !p y).length = l.length := fun p l => by
          induction l with
          | nil => rfl
          | cons a r ih =>
            cases hp : p a
            · rw [List.filter_cons_of_neg (by simp [hp]), List.filter_cons_of_pos (by simp [hp]), List.length_cons, List.length_cons]; omega
            · rw [List.filter_cons_of_pos hp, List.filter_cons_of_neg (by simp [hp]), List.length_cons, List.length_cons]; omega
        exact this _ _
      rw [List.length_append] at hlen1
      omega
    · rw [if_pos h4] at h0; exact absurd h0 h4
  · rw [merge_loud h1 h2 hc] at h0; cases h0
/-- What the issue with a name is in a register that holds it. -/
theorem at_in {xs : List Iss} (h : layE xs = 0) {x y : Iss} {ee : Int} (hx : x ∈ xs) (hq : AtQ xs x.d x.l y ee) : y = x ∧ ee = 0 := by
  rcases hq with ⟨a, -⟩ | ⟨-, b, -⟩ | ⟨-, k, b, -, c, e⟩
  · exact absurd h a
  · obtain ⟨j, hj, rfl⟩ := List.getElem_of_mem hx
    exact absurd ⟨rfl, rfl⟩ (b ⟨j, hj⟩)
  · subst c
    exact ⟨issue_2 h (List.getElem_mem _) hx b.1 b.2, e⟩
theorem at_out {xs : List Iss} (h : layE xs = 0) {d l : Int} {y : Iss} {ee : Int} (hx : hasN xs d l = false) (hq : AtQ xs d l y ee) : ee = 6 := by
  rcases hq with ⟨a, -⟩ | ⟨-, -, -, e⟩ | ⟨-, k, b, -, -, -⟩
  · exact absurd h a
  · exact e
  · rw [hasN_iff.2 ⟨xs[k], List.getElem_mem _, b.1, b.2⟩] at hx; cases hx
theorem hit_not {ys : List Iss} (h : layE ys = 0) {x y : Iss} (hy : y ∈ ys) (e1 : y.d = x.d) (e2 : y.l = x.l) : hitB ys x = !decide (x = y) := by
  obtain ⟨-, hr, -⟩ := layE_ok h
  rw [Bool.eq_iff_iff, hit_iff (right_lt hr).1]
  constructor
  · rintro ⟨z, hz, ha, hne⟩
    have : z = y := issue_2 h hz hy (by rw [← ha.1, e1]) (by rw [← ha.2, e2])
    subst this
    simp [hne]
  · intro hh
    exact ⟨y, hy, ⟨e1.symm, e2.symm⟩, by simpa using hh⟩
theorem hit_none {ys : List Iss} {x : Iss} (h : hasN ys x.d x.l = false) : hitB ys x = false := by
  unfold hitB; rw [h]; rfl
end Go.Proofs.Ythfpjeeedhahbaa
