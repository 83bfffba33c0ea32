/-
  SizeNever, whatever the size and the list of units: the law returns true, and its arguments read behind the call as they read before. No condition beyond the card's own.
-/
import Derived.Test.YtldjkdomklgmaaaDoorK0
import Derived.Test.YtldjkdomklgmaaaDoorK2
import Derived.Test.YtldjkdomklgmaaaDoorCards
import Derived.Test.YtldjkdomklgmaaaDoorTie
import Derived.SevenTiedAt
import Derived.Test.YtldjkdomklgmaaaDoorW2
namespace Go.Proofs.YtldjkdomklgmaaaDoor
set_option linter.unusedVariables false
set_option linter.unusedSimpArgs false
open Go.ChangeShapes Go.WideShapes Go.ChangeAt Go.RowKit

set_option maxRecDepth 100000 in
theorem sizeNever_lifted (os : Os) (started : os.Started) (H : Type) (enc : TypeId × Value → H) :
    ReturnsInHanded {} Tryd.checked os 6 .any (fun w args => (Rows.sizeNeverSpec.pre enc Tryd.prog Tryd.f6 [] false w args ∧ laidMetH Tryd.prog lawLaid w) ∧ sizedMet enc Tryd.prog Tryd.f6 (OpenSpec.ofChange Rows.sizeNeverSpec) false w args)
      (Rows.sizeNeverSpec.post enc Tryd.prog Tryd.f6 false true false false) := by
  refine lift_law (C := Tryd.checked) (X := fun w _ => laidMetH Tryd.prog lawLaid w) (fun _ _ _ hh h => h.of_heap hh) law_own started (by kernel_rfl) Tryd.func6
    (ChangeSpec.witness_shaped (enc := enc) (C := Tryd.checked) (os := os) (X := fun w _ => laidMetH Tryd.prog lawLaid w) false (World.laidAll Tryd.prog os lawLaid) #[.agg #[.int .i64 0, .int .i64 0, .int .i64 0], .slice none 0 0] 8 (World.laidAll_os _ _ _)
      (witness_shape os _) (by kernel_rfl) (by kernel_rfl) (by kernel_rfl) (witness_laid os _)) ?_
  intro W base args ds gs before hval0 hW hL hsh
  have hE : Env W := env_of hL hsh
  have hval : ∀ (j : Nat) t v, Tryd.f6.params[j]? = some t → args[j]? = some v → Value.okWide Tryd.prog W .any base t v := hval0
  have hW' := hW
  obtain ⟨p, q, hA0, hV, rfl, hfz, hnd⟩ := hW
  have hA : DataW.TrodAll enc Tryd.prog W 0 (fun _ => true) true Tryd.f6.params.toList args.toList ds p := hA0
  rw [Tryd.params6] at hA hval
  obtain ⟨v0, v1, d0, d1, p0, p1, rfl, rfl, rfl, h0, h1⟩ := trodAll_two hA
  obtain ⟨rfl, rfl⟩ := trodVars_none hV
  have hb : ∀ W' : World, Below W.heap.size W W' → Rows.sizeNeverSpec.post enc Tryd.prog Tryd.f6 false true false false W #[v0, v1] (.bool true) W' := fun W' hB => by
    have hlt : ∀ x, x ∈ p0 ∨ x ∈ p1 → x.block < W.heap.size := fun x hx => hW'.lt x (by simpa using hx)
    refine ⟨_, _, _, [], p0 ++ (p1), [], hW', ?_, ?_, ?_, hB.frame _, fun h => by cases h⟩
    · exact trodAll_mk1 (shut_bool Tryd.underlying4 _)
    · exact trodAll_mk2 (Below.trod law_laidOut (by kernel_rfl) (by decide) h0 hB fun x hx => hlt x (.inl hx)) (Below.trod law_laidOut (by kernel_rfl) (by decide) h1 hB fun x hx => hlt x (.inr hx))
    · rfl
  obtain ⟨n0, l0, u0, rfl⟩ := open_dim (hval 0 28 v0 rfl rfl) h0
  refine (never_val v1 n0 l0 u0 W hE (open_units8 (hval 1 42 v1 rfl rfl) h1)).mono fun e W' ⟨he, hB⟩ => ?_
  subst he
  exact ⟨_, rfl, hb W' hB⟩

theorem sizeNever_row : Rows.SizeNeverSaid :=
  OpenClaim.holds_of_wide 6 Tryd.f6 rfl rfl rfl rfl rfl rfl rfl ⟨rfl, rfl, rfl, rfl, rfl⟩ rfl rfl rfl rfl rfl (by kernel_rfl) Tryd.func6 (by kernel_rfl)
    (of_decide_eq_true (by kernel_rfl)) (by unfold Func.isWrapper; first | (rw [if_pos (by decide +kernel)]; kernel_rfl) | (rw [if_neg (by decide +kernel)]; exact ⟨rfl, rfl⟩))
    (fun os started H enc _ => sizeNever_lifted os started H enc)

/-- The given statement: the tied card. -/
theorem SizeNever_proved : Rows.SizeNeverCardSaid :=
  Claim7.holds_tied_plain_at .later [] [.data, .data, .data, .data, .pinned] true Rows.sizeNeverCard.stood.harness true
    sizeNever_row (fun _ h => by cases h) (by kernel_rfl) (fun _ h => by cases h) sizeNever_row_tie rfl ⟨rfl, rfl⟩ (by kernel_rfl) rfl
    (fun f fn hf hfn => by
      obtain rfl : f = 6 := Option.some.inj ((show Tryd.prog.funcNamed "blueline/bluelinelaw01.SizeNever" = some 6 by kernel_rfl).symm.trans hf) |>.symm
      obtain rfl : fn = Tryd.f6 := (Option.some.inj (Tryd.func6.symm.trans hfn)).symm
      exact ⟨by kernel_rfl, fun j t ht => by
        rw [Tryd.params6] at ht
        match j, ht with
        | 0, ht =>
          have e : 28 = t := (by simpa using ht)
          subst e
          exact (show Tryd.prog.wantsStandIn 28 = false by kernel_rfl)
        | 1, ht =>
          have e : 42 = t := (by simpa using ht)
          subst e
          exact (show Tryd.prog.wantsStandIn 42 = false by kernel_rfl)
        | j + 2, ht => simp at ht⟩)
    (by kernel_rfl)
#print axioms SizeNever_proved
end Go.Proofs.YtldjkdomklgmaaaDoor
