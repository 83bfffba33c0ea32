/- SheetAbove's mathematics: what is above a drawing is what needs it, or needs one that does: just those in whose trees it is. -/
import Derived.Test.YtmhlbdighceogaaGreatHY
namespace Go.Proofs.YtmhlbdighceogaaGreat
set_option linter.unusedVariables false
set_option linter.unusedSimpArgs false
open Go.RowKit

section
variable {xs : List Iss} {zs : List Int} {q rk : Int → Nat}
theorem tree_has (K : Kit xs zs q rk) (d : Int) : ∀ (k : Nat) (z : Int), z ∈ zs → rk z ≤ k → ∀ dep c, (∃ b ∈ treeL xs q k dep z c, b.2.1 = d) ↔ z = d ∨ abv xs q d k z = true
  | 0, z, hz, h, _, _ => by have := K.pos z hz; omega
  | k + 1, z, hz, h, dep, c => by
    have hzd : (xs.getD (q z) zeroI).d = z := by rw [K.get hz]; exact K.d_ z hz (K.lt z hz)
    rw [treeL, abv_iff]
    constructor
    · rintro ⟨b, hb, e⟩
      rcases List.mem_cons.1 hb with rfl | hb
      · exact .inl (hzd.symm.trans e)
      · obtain ⟨it, hit, hb2⟩ := List.mem_flatMap.1 hb
        have h4 := (K.itm hz).2.2 it hit
        exact .inr ⟨it, hit, (tree_has K d k it.1 h4.1.1 (by omega) (dep + 1) it.2).1 ⟨b, hb2, e⟩⟩
    · rintro (e | ⟨it, hit, h1⟩)
      · exact ⟨_, List.mem_cons_self, hzd.trans e⟩
      · have h4 := (K.itm hz).2.2 it hit
        obtain ⟨b, hb, e⟩ := (tree_has K d k it.1 h4.1.1 (by omega) (dep + 1) it.2).2 h1
        exact ⟨b, List.mem_cons_of_mem _ (List.mem_flatMap.2 ⟨it, hit, hb⟩), e⟩
theorem tree_tail (K : Kit xs zs q rk) (d : Int) {z : Int} (hz : z ∈ zs) (dep c : Int) : (∃ i : Nat, 0 < i ∧ ∃ h : i < (treeL xs q 6 dep z c).length, ((treeL xs q 6 dep z c)[i]).2.1 = d) ↔ needA xs q d z = true := by
  have hr := K.le z hz
  have h1 : needA xs q d z = true ↔ ∃ it ∈ (xs.getD (q z) zeroI).items, it.1 = d ∨ abv xs q d 5 it.1 = true := abv_iff
  rw [h1]
  have h2 : treeL xs q 6 dep z c = (dep, (xs.getD (q z) zeroI).d, (xs.getD (q z) zeroI).l, c) :: (xs.getD (q z) zeroI).items.flatMap fun y => treeL xs q 5 (dep + 1) y.1 y.2 := rfl
  rw [h2]
  constructor
  · rintro ⟨i, h0, hi, e⟩
    obtain ⟨j, rfl⟩ : ∃ j, i = j + 1 := ⟨i - 1, by omega⟩
    rw [List.getElem_cons_succ] at e
    obtain ⟨it, hit, hb⟩ := List.mem_flatMap.1 (List.getElem_mem (by simpa using hi))
    have h4 := (K.itm hz).2.2 it hit
    exact ⟨it, hit, (tree_has K d 5 it.1 h4.1.1 (by omega) (dep + 1) it.2).1 ⟨_, hb, e⟩⟩
  · rintro ⟨it, hit, h3⟩
    have h4 := (K.itm hz).2.2 it hit
    obtain ⟨b, hb, e⟩ := (tree_has K d 5 it.1 h4.1.1 (by omega) (dep + 1) it.2).2 h3
    obtain ⟨j, hj, rfl⟩ := List.getElem_of_mem (List.mem_flatMap.2 ⟨it, hit, hb⟩ : b ∈ (xs.getD (q z) zeroI).items.flatMap fun y => treeL xs q 5 (dep + 1) y.1 y.2)
    exact ⟨j + 1, by omega, by simpa using hj, by rw [List.getElem_cons_succ]; exact e⟩
end
/-- What is above a drawing, told. -/
theorem above_told {xs : List Iss} {ls : List Int} {d x : Int} (h : layE xs = 0) (hl : lettersB xs (numbersL xs) ls = true) (hd : d ∈ numbersL xs) (hx : x ∈ numbersL xs) :
    (x ∈ (aboveE xs ls d).1 ↔ ∃ it ∈ (xs.getD (qOf xs (numbersL xs) ls x) zeroI).items, it.1 = d ∨ it.1 ∈ (aboveE xs ls d).1) ∧ ((treeE xs ls x).2 = 4 ∨ (treeE xs ls x).2 = 0 ∧ ((∃ i : Nat, 0 < i ∧ ∃ h : i < (treeE xs ls x).1.length, ((treeE xs ls x).1[i]).2.1 = d) ↔ x ∈ (aboveE xs ls d).1)) ∧ (aboveE xs ls d).1.Pairwise (· < ·) ∧ ∀ n ∈ (aboveE xs ls d).1, n ∈ numbersL xs := by
  have K := kit_of h hl
  have ha : aboveE xs ls d = (overL xs (numbersL xs) (qOf xs (numbersL xs) ls) d, 0) := by
    unfold aboveE
    rw [if_neg (by rw [ask_ok h hl hd]; simp)]
  have hm : ∀ y ∈ numbersL xs, (y ∈ (aboveE xs ls d).1 ↔ needA xs (qOf xs (numbersL xs) ls) d y = true) := fun y hy => by
    rw [ha]
    simp only [overL, List.mem_filter]
    exact ⟨fun h => h.2, fun h => ⟨hy, h⟩⟩
  refine ⟨?_, ?_, ?_, fun n hn => ?_⟩
  · rw [hm x hx, need_iff K hx]
    constructor
    · rintro ⟨it, hit, h1⟩
      exact ⟨it, hit, h1.imp id fun h2 => (hm it.1 ((K.itm hx).2.2 it hit).1.1).2 h2⟩
    · rintro ⟨it, hit, h1⟩
      exact ⟨it, hit, h1.imp id fun h2 => (hm it.1 ((K.itm hx).2.2 it hit).1.1).1 h2⟩
  · have e : treeE xs ls x = if 500 < (treeL xs (qOf xs (numbersL xs) ls) 6 0 x 1).length then ([], 4) else (treeL xs (qOf xs (numbersL xs) ls) 6 0 x 1, 0) := by
      unfold treeE
      rw [if_neg (by rw [ask_ok h hl hx]; simp)]
    rw [e]
    by_cases h5 : 500 < (treeL xs (qOf xs (numbersL xs) ls) 6 0 x 1).length
    · rw [if_pos h5]; exact .inl rfl
    · rw [if_neg h5]
      refine .inr ⟨rfl, ?_⟩
      rw [hm x hx]
      exact tree_tail K d hx 0 1
  · rw [ha]
    exact (numbers_strict (layE_ok h).2.1).filter _
  · rw [ha] at hn
    exact (List.mem_filter.1 hn).1
end Go.Proofs.YtmhlbdighceogaaGreat
