/- Math for SheetSides: what merges is the same from both sides, once more, and with what was merged. -/
import Derived.Test.YthfpjeeedhahbaaVK
namespace Go.Proofs.Ythfpjeeedhahbaa
set_option linter.unusedVariables false
set_option linter.unusedSimpArgs false
open Go.RowKit

/-- Nothing clashes. -/
def calm (xs ys : List Iss) : Prop := ∀ x ∈ xs, ∀ y ∈ ys, isAs x y → x = y
theorem calm_symm {xs ys : List Iss} (h : calm xs ys) : calm ys xs := fun x hx y hy ha => (h y hy x hx ⟨ha.1.symm, ha.2.symm⟩).symm
theorem sorted_as {xs : List Iss} (h : xs.Pairwise ltN) {x y : Iss} (hx : x ∈ xs) (hy : y ∈ xs) (ha : isAs x y) : x = y := by
  obtain ⟨i, hi, rfl⟩ := List.getElem_of_mem hx
  obtain ⟨j, hj, rfl⟩ := List.getElem_of_mem hy
  rcases Nat.lt_trichotomy i j with hl | rfl | hl
  · have := List.pairwise_iff_getElem.1 h i j hi hj hl
    unfold ltN isAs at *; omega
  · rfl
  · have := List.pairwise_iff_getElem.1 h j i hj hi hl
    unfold ltN isAs at *; omega
theorem calm_self {xs : List Iss} (h : xs.Pairwise ltN) : calm xs xs := fun _ hx _ hy ha => sorted_as h hx hy ha
theorem clash_calm {xs ys : List Iss} (hy : ys.Pairwise ltN) : clashR xs ys xs.length = [] ↔ calm xs ys := by
  unfold clashR
  rw [List.take_length, List.map_eq_nil_iff, List.filter_eq_nil_iff]
  constructor
  · intro h x hx y hyy ha
    have h1 := h x hx
    have hh : hasN ys x.d x.l = true := hasN_iff.2 ⟨y, hyy, ha.1.symm, ha.2.symm⟩
    have hq : idxN ys x.d x.l < ys.length := of_decide_eq_true hh
    unfold hitB at h1
    rw [hh, Bool.true_and] at h1
    have h2 : sameI x (ys.getD (idxN ys x.d x.l) zeroI) = true := by
      cases e : sameI x (ys.getD (idxN ys x.d x.l) zeroI) with
      | true => rfl
      | false => exact absurd (by rw [e]; rfl) h1
    have h3 := sameI_iff.1 h2
    rw [getD_at hq] at h3
    have h4 := idxN_at hq
    have h5 : ys[idxN ys x.d x.l] = y := sorted_as hy (List.getElem_mem hq) hyy ⟨h4.1.trans ha.1, h4.2.trans ha.2⟩
    rw [h3, h5]
  · intro h x hx hb
    unfold hitB at hb
    cases hh : hasN ys x.d x.l with
    | false => rw [hh] at hb; simp at hb
    | true =>
      have hq : idxN ys x.d x.l < ys.length := of_decide_eq_true hh
      have h4 := idxN_at hq
      have h5 := h x hx _ (List.getElem_mem hq) ⟨h4.1.symm, h4.2.symm⟩
      rw [hh, Bool.true_and, getD_at hq, ← h5, sameI_iff.2 rfl] at hb
      simp at hb
theorem mem_calm {xs ys : List Iss} (hx : rightB zeroI xs = true) (hy : rightB zeroI ys = true) (hc : calm xs ys) (z : Iss) : z ∈ joinL xs ys ↔ z ∈ xs ∨ z ∈ ys := by
  obtain ⟨-, a2⟩ := join_spec xs ys zeroI zeroI hx hy (right_lt hy).2
  rw [a2 z]
  constructor
  · rintro (h | ⟨h, -⟩)
    · exact .inl h
    · exact .inr h
  · rintro (h | h)
    · exact .inl h
    · by_cases e : ∃ x ∈ xs, isAs x z
      · obtain ⟨x, hxx, ha⟩ := e
        have := hc x hxx z h ha
        subst this
        exact .inl hxx
      · exact .inr ⟨h, fun x hxx ha => e ⟨x, hxx, ha⟩⟩
theorem join_sorted {xs ys : List Iss} (hx : rightB zeroI xs = true) (hy : rightB zeroI ys = true) : (joinL xs ys).Pairwise ltN := (join_spec xs ys zeroI zeroI hx hy (right_lt hy).2).1
theorem join_comm {xs ys : List Iss} (hx : rightB zeroI xs = true) (hy : rightB zeroI ys = true) (hc : calm xs ys) : joinL xs ys = joinL ys xs :=
  sorted_one (join_sorted hx hy) (join_sorted hy hx) fun z => by rw [mem_calm hx hy hc, mem_calm hy hx (calm_symm hc), or_comm]
theorem join_self {xs : List Iss} (hx : rightB zeroI xs = true) : joinL xs xs = xs :=
  sorted_one (join_sorted hx hx) (right_lt hx).1 fun z => by rw [mem_calm hx hx (calm_self (right_lt hx).1)]; simp
theorem calm_join {xs ys : List Iss} (hx : rightB zeroI xs = true) (hy : rightB zeroI ys = true) (hc : calm xs ys) : calm (joinL xs ys) xs ∧ calm ys (joinL xs ys) := by
  constructor
  · intro a ha b hb he
    rcases (mem_calm hx hy hc a).1 ha with h | h
    · exact sorted_as (right_lt hx).1 h hb he
    · exact (hc b hb a h ⟨he.1.symm, he.2.symm⟩).symm
  · intro a ha b hb he
    rcases (mem_calm hx hy hc b).1 hb with h | h
    · exact (hc b h a ha ⟨he.1.symm, he.2.symm⟩).symm
    · exact sorted_as (right_lt hy).1 ha h he
theorem join_left2 {xs ys : List Iss} (hx : rightB zeroI xs = true) (hy : rightB zeroI ys = true) (hz : rightB zeroI (joinL xs ys) = true) (hc : calm xs ys) : joinL (joinL xs ys) xs = joinL xs ys :=
  sorted_one (join_sorted hz hx) (join_sorted hx hy) fun z => by
    rw [mem_calm hz hx (calm_join hx hy hc).1]
    constructor
    · rintro (h | h)
      · exact h
      · exact (mem_calm hx hy hc z).2 (.inl h)
    · exact .inl
theorem join_right2 {xs ys : List Iss} (hx : rightB zeroI xs = true) (hy : rightB zeroI ys = true) (hz : rightB zeroI (joinL xs ys) = true) (hc : calm xs ys) : joinL ys (joinL xs ys) = joinL xs ys :=
  sorted_one (join_sorted hy hz) (join_sorted hx hy) fun z => by
    rw [mem_calm hy hz (calm_join hx hy hc).2]
    constructor
    · rintro (h | h)
      · exact (mem_calm hx hy hc z).2 (.inr h)
      · exact h
    · exact .inr
theorem merge_calm {xs ys : List Iss} (h1 : layE xs = 0) (h2 : layE ys = 0) (hc : calm xs ys) : mergeE xs ys = if layE (joinL xs ys) ≠ 0 then ([], layE (joinL xs ys)) else (joinL xs ys, 0) := by
  have b1 : bothE xs ys = 0 := by unfold bothE; rw [if_neg (by simpa using h1)]; exact h2
  unfold mergeE
  rw [if_neg (by simpa using b1), if_neg (by simpa using (clash_calm (right_lt (layE_ok h2).2.1).1).2 hc)]
theorem merge_loud {xs ys : List Iss} (h1 : layE xs = 0) (h2 : layE ys = 0) (hc : ¬ calm xs ys) : mergeE xs ys = ([], 23) := by
  have b1 : bothE xs ys = 0 := by unfold bothE; rw [if_neg (by simpa using h1)]; exact h2
  unfold mergeE
  rw [if_neg (by simpa using b1), if_pos (fun h => hc ((clash_calm (right_lt (layE_ok h2).2.1).1).1 h))]
/-- What is merged is the same from both sides. -/
theorem merge_comm {xs ys : List Iss} (h1 : layE xs = 0) (h2 : layE ys = 0) : mergeE ys xs = mergeE xs ys := by
  by_cases hc : calm xs ys
  · rw [merge_calm h1 h2 hc, merge_calm h2 h1 (calm_symm hc), join_comm (layE_ok h2).2.1 (layE_ok h1).2.1 (calm_symm hc)]
  · rw [merge_loud h1 h2 hc, merge_loud h2 h1 (fun h => hc (calm_symm h))]
theorem merge_self {xs : List Iss} (h1 : layE xs = 0) : mergeE xs xs = (xs, 0) := by
  have hx := (layE_ok h1).2.1
  unfold mergeE
  rw [if_neg (by unfold bothE; simp [h1]), if_neg (by simpa using (clash_calm (right_lt hx).1).2 (calm_self (right_lt hx).1)), join_self hx, if_neg (by simpa using h1)]
theorem merge_again {xs ys z : List Iss} (h : mergeE xs ys = (z, 0)) (h1 : layE xs = 0) (h2 : layE ys = 0) : layE z = 0 ∧ mergeE z xs = (z, 0) ∧ mergeE ys z = (z, 0) := by
  have hx := (layE_ok h1).2.1
  have hy := (layE_ok h2).2.1
  have b1 : bothE xs ys = 0 := by unfold bothE; rw [if_neg (by simpa using h1)]; exact h2
  unfold mergeE at h
  rw [if_neg (by simpa using b1)] at h
  by_cases hcl : clashR xs ys xs.length = []
  · rw [if_neg (by simpa using hcl)] at h
    have hc := (clash_calm (right_lt hy).1).1 hcl
    by_cases hl : layE (joinL xs ys) = 0
    · rw [if_neg (by simpa using hl)] at h
      injection h with e1 e2
      subst e1
      have hz := (layE_ok hl).2.1
      have hcc := calm_join hx hy hc
      refine ⟨hl, ?_, ?_⟩
      · unfold mergeE
        rw [if_neg (by unfold bothE; simp [h1, hl]), if_neg (by simpa using (clash_calm (right_lt hx).1).2 hcc.1), join_left2 hx hy hz hc, if_neg (by simpa using hl)]
      · unfold mergeE
        rw [if_neg (by unfold bothE; simp [h2, hl]), if_neg (by simpa using (clash_calm (right_lt hz).1).2 hcc.2), join_right2 hx hy hz hc, if_neg (by simpa using hl)]
    · rw [if_pos hl] at h
      injection h with e1 e2
      exact absurd e2 hl
  · rw [if_pos hcl] at h
    injection h with e1 e2
    exact absurd e2 (by decide)
def ltP (a b : Int × Int) : Prop := a.1 < b.1 ∨ (a.1 = b.1 ∧ a.2 < b.2)
theorem pairs_one : ∀ {a b : List (Int × Int)}, a.Pairwise ltP → b.Pairwise ltP → (∀ z, z ∈ a ↔ z ∈ b) → a = b
  | [], [], _, _, _ => rfl
  | [], y :: b, _, _, h => absurd ((h y).2 (List.mem_cons_self ..)) (by simp)
  | x :: a, [], _, _, h => absurd ((h x).1 (List.mem_cons_self ..)) (by simp)
  | x :: a, y :: b, ha, hb, h => by
    have irr : ∀ z, ¬ ltP z z := fun z h => by unfold ltP at h; omega
    have tr : ∀ {x y z}, ltP x y → ltP y z → ltP x z := fun h1 h2 => by unfold ltP at *; omega
    have hxy : x = y := by
      rcases List.mem_cons.1 ((h x).1 (List.mem_cons_self ..)) with e | h1
      · exact e
      · rcases List.mem_cons.1 ((h y).2 (List.mem_cons_self ..)) with e | h2
        · exact e.symm
        · exact absurd (tr (List.rel_of_pairwise_cons ha h2) (List.rel_of_pairwise_cons hb h1)) (irr _)
    subst hxy
    congr 1
    refine pairs_one ha.of_cons hb.of_cons fun z => ⟨fun hz => ?_, fun hz => ?_⟩
    · rcases List.mem_cons.1 ((h z).1 (List.mem_cons_of_mem _ hz)) with rfl | h1
      · exact absurd (List.rel_of_pairwise_cons ha hz) (irr _)
      · exact h1
    · rcases List.mem_cons.1 ((h z).2 (List.mem_cons_of_mem _ hz)) with rfl | h1
      · exact absurd (List.rel_of_pairwise_cons hb hz) (irr _)
      · exact h1
theorem clash_pairs {xs ys : List Iss} (hx : xs.Pairwise ltN) : (clashR xs ys xs.length).Pairwise ltP := by
  unfold clashR
  rw [List.take_length, List.pairwise_map]
  exact (hx.filter _).imp fun h => h
theorem hit_iff {ys : List Iss} (hy : ys.Pairwise ltN) (x : Iss) : hitB ys x = true ↔ ∃ y ∈ ys, isAs x y ∧ x ≠ y := by
  have h := clash_calm (xs := [x]) hy
  unfold clashR at h
  rw [List.take_length, List.map_eq_nil_iff, List.filter_eq_nil_iff] at h
  constructor
  · intro hh
    apply Classical.byContradiction
    intro hn
    have hc : calm [x] ys := fun x' hx' y hyy ha => by
      rw [List.mem_singleton] at hx'
      subst hx'
      exact Classical.byContradiction fun hne => hn ⟨y, hyy, ha, hne⟩
    exact h.2 hc x (List.mem_singleton.2 rfl) hh
  · rintro ⟨y, hyy, ha, hne⟩
    apply Classical.byContradiction
    intro hn
    exact hne (h.1 (fun a ha2 => by rw [List.mem_singleton] at ha2; subst ha2; exact hn) x (List.mem_singleton.2 rfl) y hyy ha)
theorem clash_comm {xs ys : List Iss} (hx : xs.Pairwise ltN) (hy : ys.Pairwise ltN) : clashR ys xs ys.length = clashR xs ys xs.length := by
  have hm : ∀ {xs ys : List Iss}, xs.Pairwise ltN → ys.Pairwise ltN → ∀ p, p ∈ clashR xs ys xs.length → p ∈ clashR ys xs ys.length := by
    intro xs ys hx hy p hp
    unfold clashR at hp ⊢
    rw [List.take_length] at hp ⊢
    obtain ⟨x, hxf, rfl⟩ := List.mem_map.1 hp
    obtain ⟨hxx, hh⟩ := List.mem_filter.1 hxf
    obtain ⟨y, hyy, ha, hne⟩ := (hit_iff hy x).1 hh
    refine List.mem_map.2 ⟨y, List.mem_filter.2 ⟨hyy, (hit_iff hx y).2 ⟨x, hxx, ⟨ha.1.symm, ha.2.symm⟩, fun e => hne e.symm⟩⟩, ?_⟩
    rw [ha.1, ha.2]
  exact pairs_one (clash_pairs hy) (clash_pairs hx) fun z => ⟨hm hy hx z, hm hx hy z⟩
theorem clashE_comm {xs ys : List Iss} (h1 : layE xs = 0) (h2 : layE ys = 0) : clashE ys xs = clashE xs ys := by
  have b1 : bothE xs ys = 0 := by unfold bothE; rw [if_neg (by simpa using h1)]; exact h2
  have b2 : bothE ys xs = 0 := by unfold bothE; rw [if_neg (by simpa using h2)]; exact h1
  unfold clashE
  rw [b1, b2, if_neg (by simp), if_neg (by simp), clash_comm (right_lt (layE_ok h1).2.1).1 (right_lt (layE_ok h2).2.1).1]
end Go.Proofs.Ythfpjeeedhahbaa
