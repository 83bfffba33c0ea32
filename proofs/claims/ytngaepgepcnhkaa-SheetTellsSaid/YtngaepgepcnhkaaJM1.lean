/- Chains: the program's rounds and the reference's. -/
import Derived.Test.YtngaepgepcnhkaaK17
import Derived.Test.YtngaepgepcnhkaaJM0
namespace Go.Proofs.Ytngaepgepcnhkaa
set_option linter.unusedVariables false
set_option linter.unusedSimpArgs false
open Go.RowKit

theorem bump_le {g : Int → Int} {d u v y : Int} : bump g d u y ≤ v ↔ g y ≤ v ∧ (y = d → u ≤ v) := by
  unfold bump
  by_cases h : y = d
  · rw [if_pos h]; constructor
    · intro h2; exact ⟨by omega, fun _ => by omega⟩
    · rintro ⟨h2, h3⟩; have := h3 h; omega
  · rw [if_neg h]; exact ⟨fun h2 => ⟨h2, fun e => absurd e h⟩, fun h2 => h2.1⟩
theorem itemsG_le {f : Int → Int} {d v y : Int} : ∀ {l : List (Int × Int)} {g : Int → Int}, itemsG f d g l y ≤ v ↔ g y ≤ v ∧ (y = d → ∀ it ∈ l, 1 + f it.1 ≤ v)
  | [], g => by simp [itemsG]
  | it :: r, g => by
    have ih := itemsG_le (f := f) (d := d) (v := v) (y := y) (l := r) (g := bump g d (1 + f it.1))
    rw [bump_le] at ih
    show itemsG f d (bump g d (1 + f it.1)) r y ≤ v ↔ _
    rw [ih]
    constructor
    · rintro ⟨⟨h1, h2⟩, h3⟩
      refine ⟨h1, fun e z hz => ?_⟩
      rcases List.mem_cons.1 hz with rfl | hz
      · exact h2 e
      · exact h3 e z hz
    · rintro ⟨h1, h2⟩
      exact ⟨⟨h1, fun e => h2 e it (by simp)⟩, fun e z hz => h2 e z (List.mem_cons_of_mem _ hz)⟩
theorem issG_le {f g : Int → Int} {x : Iss} {v y : Int} : issG f g x y ≤ v ↔ g y ≤ v ∧ (x.d = y → 1 ≤ v ∧ ∀ it ∈ x.items, 1 + f it.1 ≤ v) := by
  unfold issG
  rw [itemsG_le, bump_le]
  constructor
  · rintro ⟨⟨h1, h2⟩, h3⟩
    exact ⟨h1, fun e => ⟨h2 e.symm, h3 e.symm⟩⟩
  · rintro ⟨h1, h2⟩
    exact ⟨⟨h1, fun e => (h2 e.symm).1⟩, fun e => (h2 e.symm).2⟩
theorem foldG_le {f : Int → Int} {v y : Int} : ∀ {xs : List Iss} {g : Int → Int}, xs.foldl (issG f) g y ≤ v ↔ g y ≤ v ∧ ∀ x ∈ xs, x.d = y → 1 ≤ v ∧ ∀ it ∈ x.items, 1 + f it.1 ≤ v
  | [], g => by simp
  | x :: r, g => by
    rw [List.foldl_cons, foldG_le, issG_le]
    constructor
    · rintro ⟨⟨h1, h2⟩, h3⟩
      refine ⟨h1, fun z hz => ?_⟩
      rcases List.mem_cons.1 hz with rfl | hz
      · exact h2
      · exact h3 z hz
    · rintro ⟨h1, h2⟩
      exact ⟨⟨h1, h2 x (by simp)⟩, fun z hz => h2 z (List.mem_cons_of_mem _ hz)⟩
theorem depF_le {xs : List Iss} {k : Nat} {v y : Int} : depF xs (k + 1) y ≤ v ↔ 0 ≤ v ∧ ∀ x ∈ xs, x.d = y → 1 ≤ v ∧ ∀ it ∈ x.items, 1 + depF xs k it.1 ≤ v := foldG_le
theorem depF_mono {xs : List Iss} : ∀ (k : Nat) (y : Int), depF xs k y ≤ depF xs (k + 1) y
  | 0, y => (depF_bd xs 1 y).1
  | k + 1, y => by
    have h := depF_le.1 (Int.le_refl (depF xs (k + 1 + 1) y))
    rw [depF_le]
    refine ⟨h.1, fun x hx e => ⟨(h.2 x hx e).1, fun it hit => ?_⟩⟩
    have := (h.2 x hx e).2 it hit
    have := depF_mono (xs := xs) k it.1
    omega
theorem depF_monos {xs : List Iss} {k m : Nat} (h : k ≤ m) (y : Int) : depF xs k y ≤ depF xs m y := by
  induction m with
  | zero => rw [show k = 0 by omega]; exact Int.le_refl _
  | succ m ih =>
    by_cases e : k = m + 1
    · subst e; exact Int.le_refl _
    · exact Int.le_trans (ih (by omega)) (depF_mono m y)
theorem depF_stable {xs : List Iss} : ∀ (k : Nat) (y : Int), depF xs (k + 1) y ≤ k → ∀ m, depF xs m y ≤ k
  | 0, y, h, m => by
    cases m with
    | zero => exact Int.le_refl _
    | succ m =>
      rw [depF_le] at h ⊢
      exact ⟨h.1, fun x hx e => absurd (h.2 x hx e).1 (by simp)⟩
  | k + 1, y, h, m => by
    cases m with
    | zero => show (0 : Int) ≤ _; omega
    | succ m =>
      rw [depF_le] at h ⊢
      refine ⟨h.1, fun x hx e => ⟨(h.2 x hx e).1, fun it hit => ?_⟩⟩
      have h1 := (h.2 x hx e).2 it hit
      have := depF_stable (xs := xs) k it.1 (by omega) m
      omega
theorem needB_iff {xs : List Iss} {d : Int} {S : Int → Bool} : needB xs d S = true ↔ ∃ x ∈ xs, x.d = d ∧ ∃ it ∈ x.items, S it.1 = true := by
  unfold needB
  simp only [List.any_eq_true, Bool.and_eq_true, decide_eq_true_eq]
/-- Each number has an issue; items are numbers. -/
structure Shut (xs : List Iss) (zs : List Int) : Prop where
  has : ∀ y ∈ zs, ∃ x ∈ xs, x.d = y
  mem : ∀ x ∈ xs, ∀ it ∈ x.items, it.1 ∈ zs
theorem wait_iff {xs : List Iss} {zs : List Int} (h : Shut xs zs) : ∀ (k : Nat) (y : Int), y ∈ zs → (waitW xs zs k y = true ↔ (k : Int) < depF xs (k + 1) y)
  | 0, y, hy => by
    simp only [waitW, decide_eq_true_eq]
    constructor
    · intro _
      obtain ⟨x, hx, e⟩ := h.has y hy
      have := ((depF_le.1 (Int.le_refl (depF xs (0 + 1) y))).2 x hx e).1
      omega
    · intro _; exact hy
  | k + 1, y, hy => by
    rw [waitW, Bool.and_eq_true, needB_iff]
    constructor
    · rintro ⟨-, x, hx, e, it, hit, hw⟩
      have h1 := (wait_iff h k it.1 (h.mem x hx it hit)).1 hw
      have h2 := ((depF_le.1 (Int.le_refl (depF xs (k + 1 + 1) y))).2 x hx e).2 it hit
      omega
    · intro hd
      have hex : ∃ x ∈ xs, x.d = y ∧ ∃ it ∈ x.items, (k : Int) < depF xs (k + 1) it.1 := by
        apply Classical.byContradiction
        intro hn
        have : depF xs (k + 1 + 1) y ≤ (k : Int) + 1 := by
          rw [depF_le]
          refine ⟨by omega, fun x hx e => ⟨by omega, fun it hit => ?_⟩⟩
          apply Classical.byContradiction
          intro h3
          exact hn ⟨x, hx, e, it, hit, by omega⟩
        omega
      obtain ⟨x, hx, e, it, hit, hk⟩ := hex
      have hw := (wait_iff h k it.1 (h.mem x hx it hit)).2 hk
      refine ⟨?_, x, hx, e, it, hit, hw⟩
      rw [wait_iff h k y hy]
      have h2 := ((depF_le.1 (Int.le_refl (depF xs (k + 1) y))).2 x hx e).2 it hit
      have h3 : (k : Int) ≤ depF xs k it.1 := by
        cases k with
        | zero => exact Int.le_refl _
        | succ j =>
          rw [waitW, Bool.and_eq_true] at hw
          have := (wait_iff h j it.1 (h.mem x hx it hit)).1 hw.1
          omega
      omega
theorem depW_cases {xs : List Iss} {zs : List Int} {y : Int} (hy : y ∈ zs) : ∀ n : Nat, (depW xs zs n y = 0 ∧ waitW xs zs n y = true) ∨ ∃ k < n, depW xs zs n y = k + 1 ∧ waitW xs zs k y = true ∧ waitW xs zs (k + 1) y = false
  | 0 => .inl ⟨rfl, by simp [waitW, hy]⟩
  | n + 1 => by
    rw [depW]
    rcases depW_cases hy n with ⟨h1, h2⟩ | ⟨k, hk, h1, h2, h3⟩
    · by_cases e : needB xs y (waitW xs zs n) = true
      · left
        rw [if_neg (by unfold goesW; rw [h2, e]; decide)]
        exact ⟨h1, by rw [waitW, h2, e]; rfl⟩
      · rw [Bool.not_eq_true] at e
        right
        rw [if_pos (by unfold goesW; rw [h2, e]; rfl)]
        exact ⟨n, by omega, rfl, h2, by rw [waitW, h2, e]; rfl⟩
    · right
      have hst : ∀ m, k + 1 ≤ m → waitW xs zs m y = false := by
        intro m hm
        induction m with
        | zero => omega
        | succ m ih =>
          by_cases e : k + 1 = m + 1
          · rw [← e]; exact h3
          · rw [waitW, ih (by omega)]; rfl
      rw [if_neg (by unfold goesW; rw [hst n (by omega)]; simp)]
      exact ⟨k, by omega, h1, h2, h3⟩
/-- The reference's depth is the round in which a drawing goes. -/
theorem dep_same {xs : List Iss} {zs : List Int} (h : Shut xs zs) {y : Int} (hy : y ∈ zs) (n : Nat) : depF xs (n + 1) y = if depW xs zs n y = 0 then (n : Int) + 1 else depW xs zs n y := by
  rcases depW_cases (xs := xs) hy n with ⟨h1, h2⟩ | ⟨k, hk, h1, h2, h3⟩
  · rw [if_pos h1]
    have := (wait_iff h n y hy).1 h2
    have := (depF_bd xs (n + 1) y).2
    omega
  · rw [if_neg (by omega), h1]
    have a1 := (wait_iff h k y hy).1 h2
    have a2 : ¬ (((k + 1 : Nat) : Int) < depF xs (k + 1 + 1) y) := fun e => by
      rw [(wait_iff h (k + 1) y hy).2 e] at h3; cases h3
    have a3 := depF_stable (xs := xs) (k + 1) y (by omega) (n + 1)
    have a4 := depF_monos (xs := xs) (show k + 1 ≤ n + 1 by omega) y
    omega
theorem depW_le {xs : List Iss} {zs : List Int} {y : Int} (hy : y ∈ zs) (n : Nat) : 0 ≤ depW xs zs n y ∧ depW xs zs n y ≤ n := by
  rcases depW_cases (xs := xs) hy n with ⟨h1, h2⟩ | ⟨k, hk, h1, h2, h3⟩ <;> omega

/-- The greatest of some numbers from 0 on. -/
def mostL (l : List Int) : Int := l.foldl max 0
theorem foldmax_le {v : Int} : ∀ {l : List Int} {m : Int}, l.foldl max m ≤ v ↔ m ≤ v ∧ ∀ x ∈ l, x ≤ v
  | [], m => by simp
  | x :: r, m => by
    rw [List.foldl_cons, foldmax_le]
    constructor
    · rintro ⟨h1, h2⟩
      refine ⟨by omega, fun z hz => ?_⟩
      rcases List.mem_cons.1 hz with rfl | hz
      · omega
      · exact h2 z hz
    · rintro ⟨h1, h2⟩
      have := h2 x (by simp)
      exact ⟨by omega, fun z hz => h2 z (List.mem_cons_of_mem _ hz)⟩
theorem mostL_le {l : List Int} {v : Int} : mostL l ≤ v ↔ 0 ≤ v ∧ ∀ x ∈ l, x ≤ v := foldmax_le
theorem maxL_le {l : List Int} {v : Int} (h : 0 < l.length) : maxL l ≤ v ↔ ∀ x ∈ l, x ≤ v := by
  unfold maxL
  rw [foldmax_le]
  constructor
  · exact fun h => h.2
  · intro h2
    refine ⟨?_, h2⟩
    cases l with
    | nil => simp at h
    | cons a r => exact h2 a (by simp)
/-- What the reference's Check says behind listed. -/
def circR (n : Nat) (l : List Int) : Int := if (n : Int) < mostL l then 21 else if 6 < mostL l then 20 else 0
theorem circ_same {xs : List Iss} {zs : List Int} (h : Shut xs zs) (hn : 0 < zs.length) : circR zs.length (zs.map (depF xs (zs.length + 1))) = if (0 : Int) ∈ chainsL xs zs then 21 else if 6 < maxL (chainsL xs zs) then 20 else 0 := by
  unfold circR
  by_cases h0 : (0 : Int) ∈ chainsL xs zs
  · rw [if_pos h0, if_pos]
    unfold chainsL at h0
    obtain ⟨y, hy, e⟩ := List.mem_map.1 h0
    have h1 := dep_same h hy zs.length
    rw [if_pos e] at h1
    have h2 := (mostL_le (l := zs.map (depF xs (zs.length + 1)))).1 (Int.le_refl _)
    have := h2.2 _ (List.mem_map.2 ⟨y, hy, rfl⟩)
    omega
  · rw [if_neg h0]
    have he : zs.map (depF xs (zs.length + 1)) = chainsL xs zs := by
      unfold chainsL
      apply List.map_congr_left
      intro y hy
      rw [dep_same h hy, if_neg]
      intro e
      exact h0 (List.mem_map.2 ⟨y, hy, e⟩)
    rw [he, if_neg]
    · have hv : ∀ v : Int, 0 ≤ v → (mostL (chainsL xs zs) ≤ v ↔ maxL (chainsL xs zs) ≤ v) := by
        intro v hv
        rw [mostL_le, maxL_le (by simpa [chainsL] using hn)]
        exact ⟨fun h => h.2, fun h => ⟨hv, h⟩⟩
      have h6 := hv 6 (by omega)
      by_cases e : 6 < maxL (chainsL xs zs)
      · rw [if_pos e, if_pos (by omega)]
      · rw [if_neg e, if_neg (by omega)]
    · have : mostL (chainsL xs zs) ≤ (zs.length : Int) := by
        rw [mostL_le]
        refine ⟨by omega, fun v hv => ?_⟩
        unfold chainsL at hv
        obtain ⟨y, hy, rfl⟩ := List.mem_map.1 hv
        exact (depW_le hy _).2
      omega
end Go.Proofs.Ytngaepgepcnhkaa
