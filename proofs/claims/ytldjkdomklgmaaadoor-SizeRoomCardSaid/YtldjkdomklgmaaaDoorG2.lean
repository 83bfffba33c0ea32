/-
  SizeRoom, whatever the hole, the wanted clearance and the shaft: the law returns true, and its arguments read behind the call as they read before. No condition beyond the card's own.
-/
import Derived.Test.YtldjkdomklgmaaaDoorK0
import Derived.Test.YtldjkdomklgmaaaDoorCards
import Derived.Test.YtldjkdomklgmaaaDoorTie
import Derived.SevenTiedAt
import Derived.Test.YtldjkdomklgmaaaDoorF3
namespace Go.Proofs.YtldjkdomklgmaaaDoor
set_option linter.unusedVariables false
set_option linter.unusedSimpArgs false
open Go.ChangeShapes Go.WideShapes Go.ChangeAt Go.RowKit

set_option maxRecDepth 100000 in
theorem sizeRoom_lifted (os : Os) (started : os.Started) (H : Type) (enc : TypeId × Value → H) :
    ReturnsInHanded {} Tryd.checked os 11 .any (fun w args => (Rows.sizeRoomSpec.pre enc Tryd.prog Tryd.f11 [] false w args ∧ laidMetH Tryd.prog lawLaid w) ∧ sizedMet enc Tryd.prog Tryd.f11 (OpenSpec.ofChange Rows.sizeRoomSpec) false w args)
      (Rows.sizeRoomSpec.post enc Tryd.prog Tryd.f11 false true false false) := by
  refine lift_law (C := Tryd.checked) (X := fun w _ => laidMetH Tryd.prog lawLaid w) (fun _ _ _ hh h => h.of_heap hh) law_own started (by kernel_rfl) Tryd.func11
    (ChangeSpec.witness_shaped (enc := enc) (C := Tryd.checked) (os := os) (X := fun w _ => laidMetH Tryd.prog lawLaid w) false (World.laidAll Tryd.prog os lawLaid) #[.agg #[.int .i64 0, .int .i64 0, .int .i64 0], .agg #[.int .i64 0, .int .i64 0], .agg #[.int .i64 0, .int .i64 0, .int .i64 0]] 8 (World.laidAll_os _ _ _)
      (witness_shape os _) (by kernel_rfl) (by kernel_rfl) (by kernel_rfl) (witness_laid os _)) ?_
  intro W base args ds gs before hval0 hW hL hsh
  have hE : Env W := env_of hL hsh
  have hval : ∀ (j : Nat) t v, Tryd.f11.params[j]? = some t → args[j]? = some v → Value.okWide Tryd.prog W .any base t v := hval0
  have hW' := hW
  obtain ⟨p, q, hA0, hV, rfl, hfz, hnd⟩ := hW
  have hA : DataW.TrodAll enc Tryd.prog W 0 (fun _ => true) true Tryd.f11.params.toList args.toList ds p := hA0
  rw [Tryd.params11] at hA hval
  obtain ⟨v0, v1, v2, d0, d1, d2, p0, p1, p2, rfl, rfl, rfl, h0, h1, h2⟩ := trodAll_three hA
  obtain ⟨rfl, rfl⟩ := trodVars_none hV
  have hb : ∀ W' : World, Below W.heap.size W W' → Rows.sizeRoomSpec.post enc Tryd.prog Tryd.f11 false true false false W #[v0, v1, v2] (.bool true) W' := fun W' hB => by
    have hlt : ∀ x, x ∈ p0 ∨ x ∈ p1 ∨ x ∈ p2 → x.block < W.heap.size := fun x hx => hW'.lt x (by simpa using hx)
    refine ⟨_, _, _, [], p0 ++ (p1 ++ (p2)), [], hW', ?_, ?_, ?_, hB.frame _, fun h => by cases h⟩
    · exact trodAll_mk1 (shut_bool Tryd.underlying4 _)
    · exact trodAll_mk3 (Below.trod law_laidOut (by kernel_rfl) (by decide) h0 hB fun x hx => hlt x (.inl hx)) (Below.trod law_laidOut (by kernel_rfl) (by decide) h1 hB fun x hx => hlt x (.inr (.inl hx))) (Below.trod law_laidOut (by kernel_rfl) (by decide) h2 hB fun x hx => hlt x (.inr (.inr hx)))
    · rfl
  obtain ⟨n0, l0, u0, rfl⟩ := open_dim (hval 0 28 v0 rfl rfl) h0
  obtain ⟨a1, b1, rfl⟩ := open_span (hval 1 31 v1 rfl rfl) h1
  obtain ⟨n2, l2, u2, rfl⟩ := open_dim (hval 2 28 v2 rfl rfl) h2
  refine (roomy_any n0 l0 u0 a1 b1 n2 l2 u2 W hE).mono fun e W' ⟨he, hB⟩ => ?_
  subst he
  exact ⟨_, rfl, hb W' hB⟩

theorem sizeRoom_row : Rows.SizeRoomSaid :=
  OpenClaim.holds_of_wide 11 Tryd.f11 rfl rfl rfl rfl rfl rfl rfl ⟨rfl, rfl, rfl, rfl, rfl⟩ rfl rfl rfl rfl rfl (by kernel_rfl) Tryd.func11 (by kernel_rfl)
    (of_decide_eq_true (by kernel_rfl)) (by unfold Func.isWrapper; first | (rw [if_pos (by decide +kernel)]; kernel_rfl) | (rw [if_neg (by decide +kernel)]; exact ⟨rfl, rfl⟩))
    (fun os started H enc _ => sizeRoom_lifted os started H enc)

/-- The given statement: the tied card. -/
theorem SizeRoom_proved : Rows.SizeRoomCardSaid :=
  Claim7.holds_tied_plain_at .later [] [.data, .data, .data, .data, .pinned] true Rows.sizeRoomCard.stood.harness true
    sizeRoom_row (fun _ h => by cases h) (by kernel_rfl) (fun _ h => by cases h) sizeRoom_row_tie rfl ⟨rfl, rfl⟩ (by kernel_rfl) rfl
    (fun f fn hf hfn => by
      obtain rfl : f = 11 := Option.some.inj ((show Tryd.prog.funcNamed "blueline/bluelinelaw01.SizeRoom" = some 11 by kernel_rfl).symm.trans hf) |>.symm
      obtain rfl : fn = Tryd.f11 := (Option.some.inj (Tryd.func11.symm.trans hfn)).symm
      exact ⟨by kernel_rfl, fun j t ht => by
        rw [Tryd.params11] at ht
        match j, ht with
        | 0, ht =>
          have e : 28 = t := (by simpa using ht)
          subst e
          exact (show Tryd.prog.wantsStandIn 28 = false by kernel_rfl)
        | 1, ht =>
          have e : 31 = t := (by simpa using ht)
          subst e
          exact (show Tryd.prog.wantsStandIn 31 = false by kernel_rfl)
        | 2, ht =>
          have e : 28 = t := (by simpa using ht)
          subst e
          exact (show Tryd.prog.wantsStandIn 28 = false by kernel_rfl)
        | j + 3, ht => simp at ht⟩)
    (by kernel_rfl)
#print axioms SizeRoom_proved
end Go.Proofs.YtldjkdomklgmaaaDoor
