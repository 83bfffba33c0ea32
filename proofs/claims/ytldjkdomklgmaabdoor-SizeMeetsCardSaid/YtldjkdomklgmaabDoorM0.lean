/- What sizes have in common: lists. -/
import Derived.Test.YtldjkdomklgmaabDoorV1
namespace Go.Proofs.YtldjkdomklgmaabDoor
set_option linter.unusedVariables false
set_option linter.unusedSimpArgs false
open Go.RowKit

theorem meetS_snoc (m : D3) : ∀ (ds : List D3) (lo hi : Int), meetS lo hi (ds ++ [m]) = (if (meetS lo hi ds).1 < m.2.1 then m.2.1 else (meetS lo hi ds).1, if m.2.2 < (meetS lo hi ds).2 then m.2.2 else (meetS lo hi ds).2)
  | [], lo, hi => rfl
  | d :: ds, lo, hi => meetS_snoc m ds _ _
theorem meetS_ge : ∀ (ds : List D3) (lo hi : Int), lo ≤ (meetS lo hi ds).1 ∧ (meetS lo hi ds).2 ≤ hi
  | [], lo, hi => ⟨Int.le_refl _, Int.le_refl _⟩
  | d :: ds, lo, hi => by
    have h := meetS_ge ds (if lo < d.2.1 then d.2.1 else lo) (if d.2.2 < hi then d.2.2 else hi)
    show lo ≤ (meetS (if lo < d.2.1 then d.2.1 else lo) (if d.2.2 < hi then d.2.2 else hi) ds).1 ∧ _
    refine ⟨Int.le_trans ?_ h.1, Int.le_trans h.2 ?_⟩ <;> split <;> omega
theorem meetS_mem : ∀ (ds : List D3) (lo hi : Int), ∀ d ∈ ds, d.2.1 ≤ (meetS lo hi ds).1 ∧ (meetS lo hi ds).2 ≤ d.2.2
  | [], _, _, d, h => absurd h (by simp)
  | x :: ds, lo, hi, d, h => by
    rcases List.mem_cons.1 h with rfl | h
    · have h := meetS_ge ds (if lo < d.2.1 then d.2.1 else lo) (if d.2.2 < hi then d.2.2 else hi)
      show d.2.1 ≤ (meetS (if lo < d.2.1 then d.2.1 else lo) (if d.2.2 < hi then d.2.2 else hi) ds).1 ∧ _
      refine ⟨Int.le_trans ?_ h.1, Int.le_trans h.2 ?_⟩ <;> split <;> omega
    · exact meetS_mem ds _ _ d h
theorem meetS_is : ∀ (ds : List D3) (lo hi : Int), ((meetS lo hi ds).1 = lo ∨ ∃ d ∈ ds, (meetS lo hi ds).1 = d.2.1) ∧ ((meetS lo hi ds).2 = hi ∨ ∃ d ∈ ds, (meetS lo hi ds).2 = d.2.2)
  | [], _, _ => ⟨.inl rfl, .inl rfl⟩
  | x :: ds, lo, hi => by
    obtain ⟨h1, h2⟩ := meetS_is ds (if lo < x.2.1 then x.2.1 else lo) (if x.2.2 < hi then x.2.2 else hi)
    refine ⟨?_, ?_⟩
    · rcases h1 with h1 | ⟨d, hd, h1⟩
      · by_cases hx : lo < x.2.1
        · rw [if_pos hx] at h1; exact .inr ⟨x, by simp, by show (meetS (if lo < x.2.1 then x.2.1 else lo) _ ds).1 = _; rw [if_pos hx]; exact h1⟩
        · rw [if_neg hx] at h1; exact .inl (by show (meetS (if lo < x.2.1 then x.2.1 else lo) _ ds).1 = _; rw [if_neg hx]; exact h1)
      · exact .inr ⟨d, by simp [hd], h1⟩
    · rcases h2 with h2 | ⟨d, hd, h2⟩
      · by_cases hx : x.2.2 < hi
        · rw [if_pos hx] at h2; exact .inr ⟨x, by simp, by show (meetS _ (if x.2.2 < hi then x.2.2 else hi) ds).2 = _; rw [if_pos hx]; exact h2⟩
        · rw [if_neg hx] at h2; exact .inl (by show (meetS _ (if x.2.2 < hi then x.2.2 else hi) ds).2 = _; rw [if_neg hx]; exact h2)
      · exact .inr ⟨d, by simp [hd], h2⟩
/-- Lists with the same members have the same in common. -/
theorem meetS_same {xs ds : List D3} (h : ∀ d, d ∈ xs ↔ d ∈ ds) (lo hi : Int) : meetS lo hi xs = meetS lo hi ds := by
  have key : ∀ {xs ds : List D3}, (∀ d, d ∈ xs → d ∈ ds) → (meetS lo hi xs).1 ≤ (meetS lo hi ds).1 ∧ (meetS lo hi ds).2 ≤ (meetS lo hi xs).2 := by
    intro xs ds h
    obtain ⟨h1, h2⟩ := meetS_is xs lo hi
    refine ⟨?_, ?_⟩
    · rcases h1 with e | ⟨d, hd, e⟩
      · rw [e]; exact (meetS_ge ds lo hi).1
      · rw [e]; exact (meetS_mem ds lo hi d (h d hd)).1
    · rcases h2 with e | ⟨d, hd, e⟩
      · rw [e]; exact (meetS_ge ds lo hi).2
      · rw [e]; exact (meetS_mem ds lo hi d (h d hd)).2
  have a := key (xs := xs) (ds := ds) fun d hd => (h d).1 hd
  have b := key (xs := ds) (ds := xs) fun d hd => (h d).2 hd
  exact Prod.ext (by omega) (by omega)

/-- Whether a number is one of all sizes. -/
def commonB (n : Int) (ds : List D3) : Bool := ds.all fun d => decide (d.2.1 ≤ n ∧ n ≤ d.2.2)
theorem commonB_iff {n : Int} {ds : List D3} : commonB n ds = true ↔ ∀ d ∈ ds, d.2.1 ≤ n ∧ n ≤ d.2.2 := by
  simp only [commonB, List.all_eq_true, decide_eq_true_eq]
theorem commonB_snoc (n : Int) (ds : List D3) (d : D3) : commonB n (ds ++ [d]) = (commonB n ds && decide (d.2.1 ≤ n ∧ n ≤ d.2.2)) := by
  simp [commonB, List.all_append]
theorem common_meet {n : Int} {ds : List D3} (h0 : ds ≠ []) (hv : ∀ d ∈ ds, okD d.1 d.2.1 d.2.2 = true) : commonB n ds = true ↔ (meetS 0 1000000000 ds).1 ≤ n ∧ n ≤ (meetS 0 1000000000 ds).2 := by
  rw [commonB_iff]
  constructor
  · intro h
    obtain ⟨h1, h2⟩ := meetS_is ds 0 1000000000
    obtain ⟨x, xs, rfl⟩ := List.exists_cons_of_ne_nil h0
    have hx := h x (by simp)
    obtain ⟨-, -, v1, v2, v3⟩ := okD_iff.1 (hv x (by simp))
    refine ⟨?_, ?_⟩
    · rcases h1 with e | ⟨d, hd, e⟩
      · rw [e]; omega
      · rw [e]; exact (h d hd).1
    · rcases h2 with e | ⟨d, hd, e⟩
      · rw [e]; omega
      · rw [e]; exact (h d hd).2
  · intro h d hd
    have := meetS_mem ds 0 1000000000 d hd
    omega
theorem bad_of {ds : List D3} (hv : ∀ d ∈ ds, okD d.1 d.2.1 d.2.2 = true) : badD ds = false :=
  badD_no fun k hk => hv _ (List.getElem_mem hk)
theorem meetR_go {ds : List D3} (h0 : ds ≠ []) (hl : ds.length ≤ 20) (hv : ∀ d ∈ ds, okD d.1 d.2.1 d.2.2 = true) :
    meetR ds = if (meetS 0 1000000000 ds).2 < (meetS 0 1000000000 ds).1 then ((0, 0), 6) else (meetS 0 1000000000 ds, 0) := by
  unfold meetR
  rw [if_neg (by omega), if_neg (by rw [bad_of hv]; simp), if_neg (by simpa using h0)]

/-- The list turned: from its element t on, round and round. -/
def rotD (ds : List D3) (t k : Nat) : List D3 := (List.range k).map fun i => ds.getD ((i + t) % ds.length) (0, 0, 0)
theorem rotD_snoc (ds : List D3) (t k : Nat) : rotD ds t (k + 1) = rotD ds t k ++ [ds.getD ((k + t) % ds.length) (0, 0, 0)] := by
  simp [rotD, List.range_succ]
theorem rotD_mem (ds : List D3) (t : Nat) (h : 0 < ds.length) (d : D3) : d ∈ rotD ds t ds.length ↔ d ∈ ds := by
  unfold rotD
  rw [List.mem_map]
  constructor
  · rintro ⟨i, -, rfl⟩
    have hlt := Nat.mod_lt (i + t) h
    rw [List.getD_eq_getElem?_getD, List.getElem?_eq_getElem hlt]
    exact List.getElem_mem hlt
  · intro hd
    obtain ⟨j, hj, rfl⟩ := List.getElem_of_mem hd
    refine ⟨(j + (ds.length - t % ds.length)) % ds.length, List.mem_range.2 (Nat.mod_lt _ h), ?_⟩
    have e : ((j + (ds.length - t % ds.length)) % ds.length + t) % ds.length = j := by
      have ht := Nat.mod_lt t h
      rw [Nat.mod_add_mod, ← Nat.add_mod_mod _ t, show j + (ds.length - t % ds.length) + t % ds.length = j + ds.length by omega, Nat.add_mod_right, Nat.mod_eq_of_lt hj]
    rw [e, List.getD_eq_getElem?_getD, List.getElem?_eq_getElem hj]
    rfl
def cells3 (ds : List D3) : List Value := ds.flatMap fun d => [.int .i64 d.1, .int .i64 d.2.1, .int .i64 d.2.2]
theorem cells3_snoc (ds : List D3) (d : D3) : cells3 (ds ++ [d]) = cells3 ds ++ [.int .i64 d.1, .int .i64 d.2.1, .int .i64 d.2.2] := by simp [cells3]
theorem cells3_length : ∀ (ds : List D3), (cells3 ds).length = ds.length * 3
  | [] => rfl
  | d :: ds => by have := cells3_length ds; simp only [cells3, List.flatMap_cons, List.length_append, List.length_cons, List.length_nil] at *; omega
theorem cells3_at : ∀ (ds : List D3) (i : Nat) (h : i < ds.length), (cells3 ds)[i * 3]? = some (.int .i64 (ds[i].1)) ∧ (cells3 ds)[i * 3 + 1]? = some (.int .i64 (ds[i].2.1)) ∧ (cells3 ds)[i * 3 + 2]? = some (.int .i64 (ds[i].2.2))
  | [], i, h => absurd h (by simp)
  | d :: ds, 0, _ => by simp [cells3]
  | d :: ds, i + 1, h => by
    have := cells3_at ds i (by simpa using h)
    have e : cells3 (d :: ds) = .int .i64 d.1 :: .int .i64 d.2.1 :: .int .i64 d.2.2 :: cells3 ds := rfl
    rw [e, show (i + 1) * 3 = i * 3 + 3 by omega]
    simpa using this
theorem cells3_one (ds : List D3) : ∀ x ∈ cells3 ds, x.oneCell' = true := by
  intro x hx
  obtain ⟨d, -, hd⟩ := List.mem_flatMap.1 hx
  simp at hd
  rcases hd with rfl | rfl | rfl <;> rfl
end Go.Proofs.YtldjkdomklgmaabDoor
