/- SheetTurned's mathematics: what differs there and back. -/
import Derived.Test.YthfpjeeedhahbaaHY
import Derived.Test.YthfpjeeedhahbaaVF
import Derived.Test.YthfpjeeedhahbaaHK
import Derived.Test.YthfpjeeedhahbaaUJ
namespace Go.Proofs.Ythfpjeeedhahbaa
set_option linter.unusedVariables false
set_option linter.unusedSimpArgs false
open Go.RowKit

theorem issue_1 {xs : List Iss} (h : layE xs = 0) {x y : Iss} (hx : x ∈ xs) (hy : y ∈ xs) (hd : x.d = y.d) (hl : x.l = y.l) : x = y := by
  obtain ⟨-, h2, -⟩ := layE_ok h
  have hp := (right_lt h2).1
  obtain ⟨i, hi, rfl⟩ := List.getElem_of_mem hx
  obtain ⟨j, hj, rfl⟩ := List.getElem_of_mem hy
  rcases Nat.lt_trichotomy i j with e | e | e
  · have := List.pairwise_iff_getElem.1 hp i j hi hj e
    unfold ltN at this
    omega
  · subst e; rfl
  · have := List.pairwise_iff_getElem.1 hp j i hj hi e
    unfold ltN at this
    omega
theorem found_is {xs : List Iss} (h : layE xs = 0) {x : Iss} (hx : x ∈ xs) : hasN xs x.d x.l = true ∧ xs.getD (idxN xs x.d x.l) zeroI = x := by
  have h1 : hasN xs x.d x.l = true := hasN_iff.2 ⟨x, hx, rfl, rfl⟩
  have h2 : idxN xs x.d x.l < xs.length := of_decide_eq_true h1
  have h3 := idxN_at h2
  refine ⟨h1, ?_⟩
  rw [List.getD_eq_getElem?_getD, List.getElem?_eq_getElem h2]
  exact issue_1 h (List.getElem_mem h2) hx h3.1 h3.2
theorem differ_ok {xs : List Iss} (h : layE xs = 0) {x y : Iss} (hx : x ∈ xs) (hy : y ∈ xs) (e : y.d = x.d) : differE xs x.d x.l y.l = (changesL (numbersL xs) (countI x.items) (countI y.items), diffL x.dims y.dims, 0) := by
  obtain ⟨h1, h2⟩ := found_is h hx
  obtain ⟨h3, h4⟩ := found_is h hy
  rw [e] at h3 h4
  unfold differE
  rw [if_neg (by simpa using h), h1, h3, if_pos (show (true && true) = true from rfl), h2, h4]
theorem diff_comm {α : Type} [DecidableEq α] (a b : List α) : diffL b a = diffL a b := by
  unfold diffL diffJ
  rw [Nat.max_comm]
  congr 1
  refine List.filter_congr fun i _ => ?_
  rw [Bool.eq_iff_iff]
  simp only [decide_eq_true_eq]
  exact ⟨fun h e => h e.symm, fun h e => h e.symm⟩
theorem diff_in {α : Type} [DecidableEq α] {a b : List α} {i : Nat} (h : i < max a.length b.length) : (i : Int) ∈ diffL a b ↔ a[i]? ≠ b[i]? := by
  unfold diffL diffJ
  rw [List.mem_map]
  constructor
  · rintro ⟨j, hj, e⟩
    obtain ⟨h1, h2⟩ := List.mem_filter.1 hj
    have : j = i := by
      have : (j : Int) = (i : Int) := e
      omega
    subst this
    simpa using h2
  · intro h2
    exact ⟨i, List.mem_filter.2 ⟨List.mem_range.2 h, by simpa using h2⟩, rfl⟩
theorem changes_comm (zs : List Int) (ca cb : Int → Int) : changesL zs cb ca = (changesL zs ca cb).map fun z => (z.1, z.2.2, z.2.1) := by
  unfold changesL
  rw [List.map_map]
  have h1 : (zs.filter fun z => decide (cb z ≠ ca z)) = zs.filter fun z => decide (ca z ≠ cb z) := List.filter_congr fun z _ => by
    rw [Bool.eq_iff_iff]
    simp only [decide_eq_true_eq]
    exact ⟨fun h e => h e.symm, fun h e => h e.symm⟩
  rw [h1]
  rfl
theorem changes_sorted {zs : List Int} (h : zs.Pairwise (· < ·)) (ca cb : Int → Int) : (changesL zs ca cb).Pairwise fun a b => a.1 < b.1 := by
  unfold changesL
  rw [List.pairwise_map]
  exact h.filter _
theorem changes_mem {zs : List Int} {ca cb : Int → Int} {z : D3} : z ∈ changesL zs ca cb ↔ z.1 ∈ zs ∧ z.2.1 = ca z.1 ∧ z.2.2 = cb z.1 ∧ ca z.1 ≠ cb z.1 := by
  unfold changesL
  rw [List.mem_map]
  constructor
  · rintro ⟨y, hy, rfl⟩
    obtain ⟨h1, h2⟩ := List.mem_filter.1 hy
    exact ⟨h1, rfl, rfl, by simpa using h2⟩
  · rintro ⟨h1, h2, h3, h4⟩
    refine ⟨z.1, List.mem_filter.2 ⟨h1, by simpa using h4⟩, ?_⟩
    obtain ⟨a, b, c⟩ := z
    simp only at h2 h3
    rw [h2, h3]
/-- What is counted when i changes have gone. -/
def turnS (c : List D3) (ca cb : Int → Int) (i : Nat) (y : Int) : Int := if y ∈ (c.take i).map (·.1) then cb y else ca y
theorem turn_zero (c : List D3) (ca cb : Int → Int) : turnS c ca cb 0 = ca := by
  funext y; simp [turnS]
theorem turn_at {zs : List Int} {ca cb : Int → Int} (hp : zs.Pairwise (· < ·)) {i : Nat} (hi : i < (changesL zs ca cb).length) : turnS (changesL zs ca cb) ca cb i ((changesL zs ca cb)[i]).1 = ((changesL zs ca cb)[i]).2.1 := by
  have h1 := changes_mem.1 (List.getElem_mem hi)
  unfold turnS
  rw [if_neg, h1.2.1]
  intro hm
  obtain ⟨z, hz, e⟩ := List.mem_map.1 hm
  obtain ⟨j, hj, rfl⟩ := List.getElem_of_mem hz
  rw [List.length_take] at hj
  have h2 := List.pairwise_iff_getElem.1 (changes_sorted hp ca cb) j i (by omega) hi (by omega)
  rw [List.getElem_take] at e
  omega
theorem turn_next {zs : List Int} {ca cb : Int → Int} {i : Nat} (hi : i < (changesL zs ca cb).length) : (fun y => if y = ((changesL zs ca cb)[i]).1 then ((changesL zs ca cb)[i]).2.2 else turnS (changesL zs ca cb) ca cb i y) = turnS (changesL zs ca cb) ca cb (i + 1) := by
  have h1 := changes_mem.1 (List.getElem_mem hi)
  funext y
  unfold turnS
  have hmem : y ∈ ((changesL zs ca cb).take (i + 1)).map (·.1) ↔ y ∈ ((changesL zs ca cb).take i).map (·.1) ∨ y = ((changesL zs ca cb)[i]).1 := by
    rw [List.take_succ_eq_append_getElem hi, List.map_append, List.mem_append]; simp
  by_cases e : y = ((changesL zs ca cb)[i]).1
  · rw [if_pos e, if_pos (hmem.2 (.inr e)), h1.2.2.1, e]
  · rw [if_neg e]
    by_cases e2 : y ∈ ((changesL zs ca cb).take i).map (·.1)
    · rw [if_pos e2, if_pos (hmem.2 (.inl e2))]
    · rw [if_neg e2, if_neg (fun h => (hmem.1 h).elim e2 e)]
theorem turn_end {zs : List Int} {ca cb : Int → Int} (h0 : ∀ y, y ∉ zs → ca y = cb y) : turnS (changesL zs ca cb) ca cb (changesL zs ca cb).length = cb := by
  funext y
  unfold turnS
  rw [List.take_length]
  split
  · rfl
  · rename_i h
    by_cases hy : y ∈ zs
    · by_cases e : ca y = cb y
      · exact e
      · exact absurd (List.mem_map.2 ⟨(y, ca y, cb y), changes_mem.2 ⟨hy, rfl, rfl, e⟩, rfl⟩) h
    · exact h0 y hy
theorem count_snoc {l : List (Int × Int)} {it : Int × Int} (h : ∀ p ∈ l, p.1 ≠ it.1) (y : Int) : countI (l ++ [it]) y = if y = it.1 then it.2 else countI l y := by
  induction l with
  | nil =>
    rw [List.nil_append, countI, countI, countI]
    by_cases e : it.1 = y
    · rw [if_pos e, if_pos e.symm]
    · rw [if_neg e, if_neg (fun e2 => e e2.symm)]
  | cons p r ih =>
    rw [List.cons_append, countI, countI, ih (fun q hq => h q (List.mem_cons_of_mem _ hq))]
    by_cases e : p.1 = y
    · have h1 := h p (by simp)
      rw [if_pos e, if_pos e, if_neg (fun e2 => h1 (e.trans e2))]
    · rw [if_neg e, if_neg e]
theorem count_take {il : List (Int × Int)} (h : il.Pairwise fun a b => a.1 < b.1) {j : Nat} (hj : j < il.length) : (fun y => if y = (il[j]).1 then (il[j]).2 else countI (il.take j) y) = countI (il.take (j + 1)) := by
  funext y
  rw [List.take_succ_eq_append_getElem hj, count_snoc (fun p hp => by
    obtain ⟨k, hk, rfl⟩ := List.getElem_of_mem hp
    rw [List.length_take] at hk
    rw [List.getElem_take]
    have := List.pairwise_iff_getElem.1 h k j (by omega) hj (by omega)
    omega)]
theorem count_elem {il : List (Int × Int)} (h : il.Pairwise fun a b => a.1 < b.1) {j : Nat} (hj : j < il.length) : countI il (il[j]).1 = (il[j]).2 :=
  countI_at hj rfl (fun p hp => by
    have := List.pairwise_iff_getElem.1 h p j (by omega) hj hp
    omega)
theorem count_out {il : List (Int × Int)} {zs : List Int} (h : ∀ it ∈ il, it.1 ∈ zs) {y : Int} (hy : y ∉ zs) : countI il y = 0 :=
  countI_no (fun p hp e => hy (e ▸ h _ (List.getElem_mem hp)))
theorem count_len {zs : List Int} (hp : zs.Pairwise (· < ·)) : ∀ {il : List (Int × Int)}, il.Pairwise (fun a b => a.1 < b.1) → (∀ it ∈ il, it.1 ∈ zs ∧ 1 ≤ it.2) → (zs.filter fun z => decide (0 < countI il z)).length = il.length
  | [], _, _ => by
    have : (zs.filter fun z => decide (0 < countI [] z)) = [] := List.filter_eq_nil_iff.2 fun z _ => by simp [countI]
    rw [this]; rfl
  | it :: r, h, hz => by
    have h1 := List.pairwise_cons.1 h
    have h2 := count_len hp h1.2 (fun z hz' => hz z (List.mem_cons_of_mem _ hz'))
    have h3 := hz it (by simp)
    have h4 : countI r it.1 = 0 := countI_no (fun p hp' e => by have := h1.1 _ (List.getElem_mem hp'); omega)
    rw [count_add hp h3.1 (p := fun z => decide (0 < countI r z)) (q := fun z => decide (0 < countI (it :: r) z)) (by simp [countI]; omega) (fun y e => by
      rw [countI, if_neg (fun e2 => e e2.symm)]), h4, if_neg (by simp), h2, List.length_cons]
/-- A number is struck out: it is set to 0, and taken away. -/
theorem CMap.strike {w : World} {b n : Nat} {zs : List Int} {S : Int → Int} (h : CMap w b n zs S) (hn : n < 1000000) (hp : zs.Pairwise (· < ·)) {x : Int} (hz : x ∈ zs) (hx : NIn x) (h0 : 0 < S x) (ty : TypeId) :
    ∃ w1 w2, (Instr.mapUpdate 100 (.map (some b)) (.int .i64 x) (.int .i64 0)).run Try.prog w = .ok () w1 ∧ (Builtin.delete_ #[100, 3] ty #[.map (some b), .int .i64 x]).run Try.prog w1 = .ok (.tuple #[]) w2 ∧ CMap w2 b (n + 1) zs (fun y => if y = x then 0 else S y) ∧ (∃ K m S', KMap w1 b (n + 1) K m S') ∧ w.mapTurned w1 b ∧ w1.mapTurned w2 b := by
  obtain ⟨w1, r1, k1, t1⟩ := KMap.put h hn hx (v := 0) (by unfold NIn; omega)
  obtain ⟨w2, r2, k2, t2⟩ := k1.del hx ty
  refine ⟨w1, w2, r1, r2, k2.ext (fun y _ => ?_) (fun y _ => ?_) ?_, ⟨_, _, _, k1⟩, t1, t2⟩
  · by_cases e : y = x
    · simp [e]
    · simp [e]
  · by_cases e : y = x
    · simp [e]
    · simp [e]
  · have h1 := count_add hp hz (p := fun z => decide (0 < if z = x then 0 else S z)) (q := fun z => decide (0 < S z)) (by simp [h0]) (fun y e => by simp [e])
    rw [if_neg (by simp)] at h1
    simp only [decide_true, Bool.true_or, if_true, h0]
    omega
end Go.Proofs.Ythfpjeeedhahbaa
