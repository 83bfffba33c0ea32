/-
  SheetUses, whatever the register, the letters, the drawing and the two letters: the law returns true, and its arguments read behind the call as they read before. No condition.
-/
import Derived.Test.YtnmcpkmiomknmaaLO
import Derived.Test.YtnmcpkmiomknmaaUN
namespace Go.Proofs.Ytnmcpkmiomknmaa
set_option linter.unusedVariables false
set_option linter.unusedSimpArgs false
open Go.ChangeShapes Go.WideShapes Go.ChangeAt Go.RowKit

theorem uses_any {vI vL : Value} {xs : List Iss} {ls : List Int} (d f t : Int) (w : World) (h : IssuesAt w vI xs) (hm : xs.length ≤ maxLen) (hm2 : ∀ x ∈ xs, x.items.length ≤ maxLen ∧ x.dims.length ≤ maxLen) (hL : IntsAt w vL ls) (hn : NilOk vL) (hll : ls.length ≤ maxLen) :
    Calls Try.prog 5 #[.agg #[vI], vL, .int .i64 d, .int .i64 f, .int .i64 t] w fun e w' => e = .returned (.bool true) ∧ Below w.heap.size w w' := by
  obtain ⟨A, c, b, off, vi, vd, rfl, hA, hc⟩ := h.row
  have hx : maxLen = 9223372036854775807 := by decide
  rw [hx] at hm hll
  have hm3 : ∀ x ∈ xs, x.items.length ≤ 9223372036854775807 ∧ x.dims.length ≤ 9223372036854775807 := fun x h => by rw [← hx]; exact hm2 x h
  by_cases hg : greatB xs = true ∨ 80 < ls.length
  · exact uses_great A c b off xs vi vd ls vL d f t w hm hm3 hA hc hL hll hg
  · exact uses_small A c b off xs vi vd ls vL d f t w hm hm3 hA hc hL hn (by rw [← Bool.not_eq_true]; exact fun e => hg (.inl e)) (Nat.le_of_not_lt fun e => hg (.inr e))
set_option maxRecDepth 100000 in
theorem uses_lifted (os : Os) (started : os.Started) (H : Type) (enc : TypeId × Value → H) :
    ReturnsInHanded {} Try.checked os 5 .any (Rows.sheetUsesSpec.pre6 enc Try.prog Try.f5 Rows.sheetUsesRow.domain false) (Rows.sheetUsesSpec.post enc Try.prog Try.f5 false true false false) := by
  refine returnsInHanded_of_change (C := Try.checked) law_own started (by kernel_rfl) Try.func5
    (ChangeSpec.witness6 (enc := enc) (C := Try.checked) false ⟨#[], #[.agg #[.slice none 0 0], .slice none 0 0, .int .i64 0, .int .i64 0, .int .i64 0], []⟩ 8 (by kernel_rfl) (by kernel_rfl) (by kernel_rfl) (by kernel_rfl)) ?_
  intro W base args ds gs before hval0 hW hcnd _
  have hval : ∀ (j : Nat) t v, Try.f5.params[j]? = some t → args[j]? = some v → Value.okWide Try.prog W .any base t v := hval0
  have hW' := hW
  obtain ⟨p, q, hA0, hV, rfl, hfz, hnd⟩ := hW
  have hA : DataW.TrodAll enc Try.prog W 0 (fun _ => true) true Try.f5.params.toList args.toList ds p := hA0
  rw [Try.params5] at hA hval
  obtain ⟨v0, vs0, d0, ds0, p0, q0, hargs, rfl, rfl, h0, r0⟩ := trodAll_cons hA
  obtain ⟨v1, vs1, d1, ds1, p1, q1, rfl, rfl, rfl, h1, r1⟩ := trodAll_cons r0
  obtain ⟨v2, vs2, d2, ds2, p2, q2, rfl, rfl, rfl, h2, r2⟩ := trodAll_cons r1
  obtain ⟨v3, vs3, d3, ds3, p3, q3, rfl, rfl, rfl, h3, r3⟩ := trodAll_cons r2
  obtain ⟨v4, vs4, d4, ds4, p4, q4, rfl, rfl, rfl, h4, r4⟩ := trodAll_cons r3
  obtain ⟨rfl, rfl, rfl⟩ := trodAll_nil r4
  obtain rfl : args = #[v0, v1, v2, v3, v4] := by cases args; simp_all
  obtain ⟨rfl, rfl⟩ := trodVars_none hV
  have hb : ∀ W' : World, Below W.heap.size W W' → Rows.sheetUsesSpec.post enc Try.prog Try.f5 false true false false W #[v0, v1, v2, v3, v4] (.bool true) W' := fun W' hB => by
    have hlt : ∀ x, x ∈ p0 ∨ x ∈ p1 ∨ x ∈ p2 ∨ x ∈ p3 ∨ x ∈ p4 → x.block < W.heap.size := fun x hx => hW'.lt x (by simpa using hx)
    refine ⟨_, _, _, [], p0 ++ (p1 ++ (p2 ++ (p3 ++ p4))), [], hW', ?_, ?_, ?_, hB.frame _, fun h => by cases h⟩
    · exact trodAll_mk1 (shut_bool Try.underlying4 _)
    · exact ⟨p0, _, Below.trod law_laidOut (by kernel_rfl) (by decide) h0 hB fun x hx => hlt x (by simp [hx]), trodAll_mk4 (Below.trod law_laidOut (by kernel_rfl) (by decide) h1 hB fun x hx => hlt x (by simp [hx])) (Below.trod law_laidOut (by kernel_rfl) (by decide) h2 hB fun x hx => hlt x (by simp [hx])) (Below.trod law_laidOut (by kernel_rfl) (by decide) h3 hB fun x hx => hlt x (by simp [hx])) (Below.trod law_laidOut (by kernel_rfl) (by decide) h4 hB fun x hx => hlt x (by simp [hx])), rfl⟩
    · rfl
  obtain ⟨xs, vI, rfl, hI, hm, hm2⟩ := open_reg (hval 0 24 v0 rfl rfl) h0
  obtain ⟨ls, hL, hn, hll⟩ := open_list (hval 1 29 v1 rfl rfl) h1
  obtain ⟨dd, rfl, -, -, -⟩ := open_int Try.underlying3 (hval 2 3 v2 rfl rfl) h2
  obtain ⟨ff, rfl, -, -, -⟩ := open_int Try.underlying3 (hval 3 3 v3 rfl rfl) h3
  obtain ⟨tt, rfl, -, -, -⟩ := open_int Try.underlying3 (hval 4 3 v4 rfl rfl) h4
  refine (uses_any dd ff tt W hI hm hm2 hL hn hll).mono fun e W' ⟨he, hB⟩ => ?_
  subst he
  exact ⟨_, rfl, hb W' hB⟩

/-- The given statement. -/
theorem SheetUses_proved : Rows.SheetUsesSaid :=
  OpenClaim.holds_of_wide 5 Try.f5 rfl rfl rfl rfl rfl rfl rfl ⟨rfl, rfl, rfl, rfl, rfl⟩ rfl rfl rfl rfl rfl (by kernel_rfl) Try.func5 (by kernel_rfl)
    (of_decide_eq_true (by kernel_rfl)) (by unfold Func.isWrapper; first | (rw [if_pos (by decide +kernel)]; kernel_rfl) | (rw [if_neg (by decide +kernel)]; exact ⟨rfl, rfl⟩))
    (fun os started H enc _ => uses_lifted os started H enc)
#print axioms SheetUses_proved
end Go.Proofs.Ytnmcpkmiomknmaa
