/- One operation of a region that draws its order, by hand, in one word each. -/
import Derived.Test.YtkjfceajakhlfaaHT
namespace Go.Proofs.Ytkjfceajakhlfaa
set_option linter.unusedVariables false
set_option linter.unusedSimpArgs false
open Go.RowKit

section
variable {md : Region.Mode} {l : List Oper} {Q : Exit → Act → World → Prop} {S : World → Prop} {fuel : Nat} {listed listed' : Array Bool} {a a' : Act} {w : World}
/-- An operation that only reads or reckons. -/
theorem take_z (i : Nat) {o : Oper} {rest : List Oper} {v : Value} (hk : wpAnyH Try.prog md l.toArray Q S fuel listed' a' w) (h : l.drop i = o :: rest := by rfl)
    (hy : ∀ w, S w → (execOp a.eval o).run Try.prog w = .ok (.value v) w := by (intro w hSw; (first | (obtain ⟨nn, rfl⟩ := hSw) | (try dsimp only at hSw)); go_simp; (try with_reducible rfl)))
    (hl : listed.setIfInBounds i true = listed' := by ((try simp only [List.setIfInBounds_toArray, List.set_cons_zero, List.set_cons_succ]); rfl))
    (ha : a.put o.dst v = a' := by ((try simp only [Act.put, List.setIfInBounds_toArray, List.set_cons_zero, List.set_cons_succ]); rfl))
    (hs : Region.noSelect l.toArray = true := by kernel_rfl) (hf : Region.free md l.toArray listed i = true := by kernel_rfl) (hr : (Region.ready md l.toArray listed).contains i = true := by kernel_rfl)
    (hQ : ∀ c a w, Q (.panic c) (a.put o.dst v) w → Q (.panic c) a w := by exact fun _ _ _ h => h) (hw : Region.wanted o (yielded l.toArray a.tmps) = true := by rfl) (hS : S w := by assumption) : wpAnyH Try.prog md l.toArray Q S (fuel + 1) listed a w := by
  subst hl ha
  exact take_at h hs hf hr hQ (Or.inl ⟨hw, hy⟩) hS hk
/-- An operation that is passed over. -/
theorem skip_z (i : Nat) {o : Oper} {rest : List Oper} (hk : wpAnyH Try.prog md l.toArray Q S fuel listed' a' w) (h : l.drop i = o :: rest := by rfl)
    (hl : listed.setIfInBounds i true = listed' := by ((try simp only [List.setIfInBounds_toArray, List.set_cons_zero, List.set_cons_succ]); rfl))
    (ha : a.put o.dst undef = a' := by ((try simp only [Act.put, List.setIfInBounds_toArray, List.set_cons_zero, List.set_cons_succ]); rfl))
    (hs : Region.noSelect l.toArray = true := by kernel_rfl) (hf : Region.free md l.toArray listed i = true := by kernel_rfl) (hr : (Region.ready md l.toArray listed).contains i = true := by kernel_rfl)
    (hQ : ∀ c a w, Q (.panic c) (a.put o.dst undef) w → Q (.panic c) a w := by exact fun _ _ _ h => h) (hw : Region.wanted o (yielded l.toArray a.tmps) = false := by rfl) (hS : S w := by assumption) : wpAnyH Try.prog md l.toArray Q S (fuel + 1) listed a w := by
  subst hl ha
  exact take_at h hs hf hr hQ (Or.inr ⟨hw, rfl⟩) hS hk
end
end Go.Proofs.Ytkjfceajakhlfaa
