/- A list of units that is an argument, opened, with their bounds. -/
import Derived.Test.YtldjkdomklgmaaaDoorK0
import Derived.Test.YtldjkdomklgmaaaDoorC1
import Derived.Test.YtldjkdomklgmaaaDoorA2
import Derived.Deep.Slices
import Derived.Carry
namespace Go.Proofs.YtldjkdomklgmaaaDoor
set_option linter.unusedVariables false
set_option linter.unusedSimpArgs false
open Go.ChangeShapes Go.WideShapes Go.ChangeAt Go.RowKit

theorem cells_u8 : Tryd.prog.cellsOf 5 = 1 := by kernel_rfl
theorem add_none (b o k : Nat) : (⟨b, o, none⟩ : Addr).add k = ⟨b, o + k, none⟩ := by unfold Addr.add; split <;> simp_all
/-- A cell that is read lies at an address that names a cell. -/
theorem spot_none {W : World} {a : Addr} {v : Value} (h : W.cell? a = some v) : a = ⟨a.block, a.off, none⟩ := by
  obtain ⟨b, o, s⟩ := a
  cases s with
  | none => rfl
  | some x =>
    exfalso
    unfold World.cell? at h
    split at h <;> simp at h

set_option maxRecDepth 100000 in
/-- A list of units, opened: nil, or cells that hold them. -/
theorem open_units8 {H : Type} {enc : TypeId × Value → H} {W : World} {base : Nat} {v : Value} {d : DataW H} {p : List MemPlace} (hv : Value.okWide Tryd.prog W .any base 42 v) (h : DataW.Trod enc Tryd.prog W 0 (fun _ => true) true 42 v d p) :
    v = .slice none 0 0 ∨ ∃ (ad : Addr) (us : List Int) (c : Nat), v = .slice (some ad) us.length c ∧ (0 < us.length → ad = ⟨ad.block, ad.off, none⟩) ∧ cellsU W ad.block ad.off us ∧ ∀ x ∈ us, 0 ≤ x ∧ x ≤ 255 := by
  obtain ⟨a, len, cap, rfl⟩ := okWide_slice Tryd.underlying42 hv
  obtain ⟨fuel, hf⟩ := h
  rcases open_ints Tryd.underlying42 Tryd.underlying5 cells_u8 hf with ⟨hcs, -⟩ | ⟨ad, len', cap', zs, hcs, -, hl, hm, hz, -, hcell, hwf⟩
  · left
    simpa [Value.cells] using hcs
  · right
    simp only [Value.cells, List.cons.injEq, Value.slice.injEq, and_true] at hcs
    obtain ⟨rfl, rfl, rfl⟩ := hcs
    simp only [if_true] at hz
    have hlen : (zs.take len).length = len := by simp; omega
    have hcl : ∀ i (hi : i < len), W.cell? (ad.add i) = some (.int .u8 ((zs.take len)[i]'(by omega))) := fun i hi => by
      rw [hcell i (by omega)]
      simp [List.getD, show i < zs.length by omega]
    refine ⟨ad, zs.take len, cap, by rw [hlen], fun h => ?_, fun i hi => ?_, fun x hx => ?_⟩
    · have := hcl 0 (by omega)
      exact spot_none (by simpa [Addr.add] using this)
    · have h1 := hcl i (by omega)
      have h0 := spot_none (by simpa [Addr.add] using hcl 0 (by omega))
      rw [← h1]
      obtain ⟨b, o, s⟩ := ad
      simp only [Addr.mk.injEq, true_and] at h0
      subst h0
      congr 1
      unfold Addr.add
      by_cases e : i = 0
      · subst e; rfl
      · rw [if_neg e]

    · have h := hwf x (List.mem_of_mem_take hx)
      simpa [Lit.wf, IntKind.min, IntKind.max, IntKind.signed, IntKind.bits] using h
end Go.Proofs.YtldjkdomklgmaaaDoor
