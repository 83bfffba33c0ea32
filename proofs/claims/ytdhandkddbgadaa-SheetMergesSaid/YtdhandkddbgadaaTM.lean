/-
  SheetMerges, whatever the two registers: the law returns true, and its arguments read behind the call as they read before. No condition.
-/
import Derived.Test.YtdhandkddbgadaaLO
import Derived.Test.YtdhandkddbgadaaVP
namespace Go.Proofs.Ytdhandkddbgadaa
set_option linter.unusedVariables false
set_option linter.unusedSimpArgs false
open Go.ChangeShapes Go.WideShapes Go.ChangeAt Go.RowKit

theorem merges_any {vI vJ : Value} {xs ys : List Iss} (w : World) (h : IssuesAt w vI xs) (h2 : IssuesAt w vJ ys) (hm : xs.length ≤ maxLen) (hm2 : ∀ x ∈ xs, x.items.length ≤ maxLen ∧ x.dims.length ≤ maxLen) (hm3 : ys.length ≤ maxLen) (hm4 : ∀ x ∈ ys, x.items.length ≤ maxLen ∧ x.dims.length ≤ maxLen) :
    Calls Try.prog 6 #[.agg #[vI], .agg #[vJ]] w fun e w' => e = .returned (.bool true) ∧ Below w.heap.size w w' := by
  obtain ⟨A, c, b, off, vi, vd, rfl, hA, hc⟩ := h.row
  obtain ⟨B, e, b2, off2, ui, ud, rfl, hB, hd⟩ := h2.row
  have hx : maxLen = 9223372036854775807 := by decide
  rw [hx] at hm hm3
  have hm5 : ∀ x ∈ xs, x.items.length ≤ 9223372036854775807 ∧ x.dims.length ≤ 9223372036854775807 := fun x h => by rw [← hx]; exact hm2 x h
  have hm6 : ∀ x ∈ ys, x.items.length ≤ 9223372036854775807 ∧ x.dims.length ≤ 9223372036854775807 := fun x h => by rw [← hx]; exact hm4 x h
  cases hg : greatB xs with
  | true => exact merges_great A B c b off e b2 off2 xs ys vi vd ui ud w hm hm5 hm3 hm6 hA hB hc hd (by rw [hg]; rfl)
  | false =>
    cases hg2 : greatB ys with
    | true => exact merges_great A B c b off e b2 off2 xs ys vi vd ui ud w hm hm5 hm3 hm6 hA hB hc hd (by rw [hg, hg2]; rfl)
    | false => exact merges_small A B c b off e b2 off2 xs ys vi vd ui ud w hm hm5 hm3 hm6 hA hB hc hd hg hg2
set_option maxRecDepth 100000 in
theorem merges_lifted (os : Os) (started : os.Started) (H : Type) (enc : TypeId × Value → H) :
    ReturnsInHanded {} Try.checked os 6 .any (Rows.sheetMergesSpec.pre6 enc Try.prog Try.f6 Rows.sheetMergesRow.domain false) (Rows.sheetMergesSpec.post enc Try.prog Try.f6 false true false false) := by
  refine returnsInHanded_of_change (C := Try.checked) law_own started (by kernel_rfl) Try.func6
    (ChangeSpec.witness6 (enc := enc) (C := Try.checked) false ⟨#[], #[.agg #[.slice none 0 0], .agg #[.slice none 0 0]], []⟩ 8 (by kernel_rfl) (by kernel_rfl) (by kernel_rfl) (by kernel_rfl)) ?_
  intro W base args ds gs before hval0 hW hcnd _
  have hval : ∀ (j : Nat) t v, Try.f6.params[j]? = some t → args[j]? = some v → Value.okWide Try.prog W .any base t v := hval0
  have hW' := hW
  obtain ⟨p, q, hA0, hV, rfl, hfz, hnd⟩ := hW
  have hA : DataW.TrodAll enc Try.prog W 0 (fun _ => true) true Try.f6.params.toList args.toList ds p := hA0
  rw [Try.params6] at hA hval
  obtain ⟨v0, vs0, d0, ds0, p0, q0, hargs, rfl, rfl, h0, r0⟩ := trodAll_cons hA
  obtain ⟨v1, vs1, d1, ds1, p1, q1, rfl, rfl, rfl, h1, r1⟩ := trodAll_cons r0
  obtain ⟨rfl, rfl, rfl⟩ := trodAll_nil r1
  obtain rfl : args = #[v0, v1] := by cases args; simp_all
  obtain ⟨rfl, rfl⟩ := trodVars_none hV
  have hb : ∀ W' : World, Below W.heap.size W W' → Rows.sheetMergesSpec.post enc Try.prog Try.f6 false true false false W #[v0, v1] (.bool true) W' := fun W' hB => by
    have hlt : ∀ x, x ∈ p0 ∨ x ∈ p1 → x.block < W.heap.size := fun x hx => hW'.lt x (by simpa using hx)
    refine ⟨_, _, _, [], p0 ++ p1, [], hW', ?_, ?_, ?_, hB.frame _, fun h => by cases h⟩
    · exact trodAll_mk1 (shut_bool Try.underlying4 _)
    · exact trodAll_mk2 (Below.trod law_laidOut (by kernel_rfl) (by decide) h0 hB fun x hx => hlt x (by simp [hx])) (Below.trod law_laidOut (by kernel_rfl) (by decide) h1 hB fun x hx => hlt x (by simp [hx]))
    · rfl
  obtain ⟨xs, vI, rfl, hI, hm, hm2⟩ := open_reg (hval 0 24 v0 rfl rfl) h0
  obtain ⟨ys, vJ, rfl, hJ, hm3, hm4⟩ := open_reg (hval 1 24 v1 rfl rfl) h1
  refine (merges_any W hI hJ hm hm2 hm3 hm4).mono fun e W' ⟨he, hB⟩ => ?_
  subst he
  exact ⟨_, rfl, hb W' hB⟩

/-- The given statement. -/
theorem SheetMerges_proved : Rows.SheetMergesSaid :=
  OpenClaim.holds_of_wide 6 Try.f6 rfl rfl rfl rfl rfl rfl rfl ⟨rfl, rfl, rfl, rfl, rfl⟩ rfl rfl rfl rfl rfl (by kernel_rfl) Try.func6 (by kernel_rfl)
    (of_decide_eq_true (by kernel_rfl)) (by unfold Func.isWrapper; first | (rw [if_pos (by decide +kernel)]; kernel_rfl) | (rw [if_neg (by decide +kernel)]; exact ⟨rfl, rfl⟩))
    (fun os started H enc _ => merges_lifted os started H enc)
#print axioms SheetMerges_proved
end Go.Proofs.Ytdhandkddbgadaa
