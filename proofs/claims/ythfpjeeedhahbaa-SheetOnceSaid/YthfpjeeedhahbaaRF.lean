/- A register that is handed in, opened: its slice has the room that it says. -/
import Derived.Test.YthfpjeeedhahbaaLO
import Derived.Test.YthfpjeeedhahbaaVG
namespace Go.Proofs.Ythfpjeeedhahbaa
set_option linter.unusedVariables false
set_option linter.unusedSimpArgs false
open Go.RowKit Go.WideShapes Go.ChangeShapes Go.ChangeAt

theorem cap_open {H : Type} {enc : TypeId × Value → H} {W : World} {fuel : Nat} {v : Value} {y : DataW H × List MemPlace} (h : DataW.trod enc Try.prog W 0 (fun _ => true) true fuel 22 [v] = some y) : CapOk v := by
  intro A n c e
  rcases DataW.trod_slice Try.underlying22 h with ⟨h1, -⟩ | ⟨a, len, cap, el, rest, m, -, h1, -, -, hc, -⟩
  · injection h1 with h1 h2
    rw [e] at h1
    injection h1 with e1 e2 e3
    omega
  · injection h1 with h1 h2
    rw [e] at h1
    injection h1 with e1 e2 e3
    omega
set_option maxRecDepth 100000 in
theorem open_regC {H : Type} {enc : TypeId × Value → H} {W : World} {base : Nat} {v : Value} {d : DataW H} {p : List MemPlace} (hv : Value.okWide Try.prog W .any base 24 v) (h : DataW.Trod enc Try.prog W 0 (fun _ => true) true 24 v d p) :
    ∃ xs vI, v = .agg #[vI] ∧ IssuesAt W vI xs ∧ CapOk vI ∧ xs.length ≤ maxLen ∧ ∀ x ∈ xs, x.items.length ≤ maxLen ∧ x.dims.length ≤ maxLen := by
  obtain ⟨xs, vI, rfl, h1, h2, h3⟩ := open_reg hv h
  refine ⟨xs, vI, rfl, h1, ?_, h2, h3⟩
  obtain ⟨fuel, hf⟩ := h
  obtain ⟨ys, m, -, -, hlen, hxl, hg⟩ := DataW.trod_struct Try.underlying24 hf
  have g0 : DataW.trod enc Try.prog W 0 (fun _ => true) true m 22 (List.take (Try.prog.cellsOf 22) (List.drop 0 [vI])) = ys[0]? := hg 0 _ rfl
  rw [show Try.prog.cellsOf 22 = 1 from by kernel_rfl] at g0
  have hx : ys.length = 1 := hxl
  match ys, hx with
  | [y0], _ => exact cap_open g0
end Go.Proofs.Ythfpjeeedhahbaa
