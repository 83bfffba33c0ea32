/- What SizeNever asks of lists of units. -/
import Derived.Test.YtldjkdomklgmaaaDoorF9
namespace Go.Proofs.YtldjkdomklgmaaaDoor
set_option linter.unusedVariables false
set_option linter.unusedSimpArgs false
open Go.RowKit

theorem foldD_append : ∀ (us vs : List Int) (d : D3), foldD (us ++ vs) d = (foldD us d).bind fun x => foldD vs x
  | [], vs, d => rfl
  | u :: us, vs, d => by
    show (if (stepD u d).2.2 < (stepD u d).2.1 then none else foldD (us ++ vs) (stepD u d)) = (if (stepD u d).2.2 < (stepD u d).2.1 then none else foldD us (stepD u d)).bind _
    by_cases h : (stepD u d).2.2 < (stepD u d).2.1
    · rw [if_pos h, if_pos h]; rfl
    · rw [if_neg h, if_neg h]; exact foldD_append us vs _
theorem redraw_fold {us : List Int} {n l u : Int} (h : okD n l u = true) (hl : us.length ≤ 20) (hu : ∀ x ∈ us, x = 1 ∨ x = 2) :
    redrawS us n l u = match foldD us (n, l, u) with | none => ((0, 0, 0), 6) | some x => (x, 0) := by
  unfold redrawS
  rw [if_neg (by rw [h]; simp), if_neg (by omega), if_neg (by rw [allU_yes hu]; simp)]
  cases foldD us (n, l, u) <;> rfl
theorem convS_fold {un n l u : Int} (h : okD n l u = true) (hu : un = 1 ∨ un = 2) : convS un n l u = match foldD [un] (n, l, u) with | none => ((0, 0, 0), 6) | some x => (x, 0) :=
  redraw_fold h (by simp) (by simpa using hu)
/-- One round of the law: what Convert and Redraw return of the units so far and one more. -/
theorem never_round {us : List Int} {un st n l u a b c sum : Int} (hst : (st = 100 ∧ un = 1) ∨ (st = 254 ∧ un = 2)) (h : okD n l u = true) (hl : us.length < 20) (hu : ∀ x ∈ us, x = 1 ∨ x = 2) (hf : foldD us (n, l, u) = some (a, b, c)) (hok : okD a b c = true)
    (h1 : l ≤ b) (h2 : c ≤ u) (h3 : b - l ≤ sum) (h4 : u - c ≤ sum) :
    (convS un a b c = ((0, 0, 0), 6) ∧ foldD (us ++ [un]) (n, l, u) = none) ∨
    ∃ x y z, convS un a b c = ((x, y, z), 0) ∧ foldD (us ++ [un]) (n, l, u) = some (x, y, z) ∧ okD x y z = true ∧ exactS st x y z = true ∧ convS un x y z = ((x, y, z), 0) ∧ (exactS st a b c = true → x = a ∧ y = b ∧ z = c) ∧ l ≤ y ∧ z ≤ u ∧ y ≤ z ∧ y - l < sum + st ∧ u - z < sum + st := by
  have hun : un = 1 ∨ un = 2 := by omega
  have hs : stepU un = st := by rcases hst with ⟨rfl, rfl⟩ | ⟨rfl, rfl⟩ <;> rfl
  have hst' : st = 100 ∨ st = 254 := by omega
  obtain ⟨-, -, o3, o4, o5⟩ := okD_iff.1 hok
  rw [foldD_append, hf]
  simp only [Option.bind_some]
  obtain ⟨x, y, z, e, hv, ⟨rfl, hx, hy, hz, hyz, hok2⟩ | ⟨rfl, rfl, rfl, rfl, hx⟩⟩ := conv_spec hun hok
  · rw [hs] at hx hy hz
    refine .inr ⟨x, y, z, hv, ?_, hok2, by rw [hx, hy, hz]; exact exact_again hst', ?_, ?_, ?_, ?_, hyz, ?_, ?_⟩
    · have := convS_fold hok hun
      rw [hv] at this
      cases hq : foldD [un] (a, b, c) with
      | none => rw [hq] at this; simp at this
      | some q => rw [hq] at this; simp only [Prod.mk.injEq] at this; rw [← this.1]
    · exact conv_exact hst hok2 (by rw [hx, hy, hz]; exact exact_again hst')
    · intro hex
      obtain ⟨e1, e2, e3⟩ := (exactS_iff hst' hok).1 hex
      rw [hx, hy, hz]; exact ⟨e1, e2, e3⟩
    · have := (upS_bd (st := st) o3 hst').1; omega
    · have := (downS_bd (st := st) (n := c) (by omega) hst').2.1; omega
    · have := (upS_bd (st := st) o3 hst').2; omega
    · have := (downS_bd (st := st) (n := c) (by omega) hst').2.2; omega
  · refine .inl ⟨hv, ?_⟩
    show (if (stepD un (a, b, c)).2.2 < (stepD un (a, b, c)).2.1 then none else foldD [] (stepD un (a, b, c))) = none
    exact if_pos hx
/-- Whatever comes behind a step that has no sizes. -/
theorem never_more {us vs : List Int} {n l u : Int} (h : okD n l u = true) (hl : (us ++ vs).length ≤ 20) (hu : ∀ x ∈ us ++ vs, x = 1 ∨ x = 2) (hf : foldD us (n, l, u) = none) : redrawS (us ++ vs) n l u = ((0, 0, 0), 6) := by
  rw [redraw_fold h hl hu, foldD_append, hf]
  rfl
end Go.Proofs.YtldjkdomklgmaaaDoor
