/- Lists of sizes in memory. -/
import Derived.Test.YtkjfceajakhlfaaBase
namespace Go.Proofs.Ytkjfceajakhlfaa
set_option linter.unusedVariables false
set_option linter.unusedSimpArgs false
open Go.RowKit

abbrev D3 := Int × Int × Int

def cellsD (w : World) (b off : Nat) (ds : List D3) : Prop :=
  ∀ i (h : i < ds.length), w.cell? ⟨b, off + i * 3, none⟩ = some (.int .i64 ds[i].1) ∧ w.cell? ⟨b, off + i * 3 + 1, none⟩ = some (.int .i64 ds[i].2.1) ∧ w.cell? ⟨b, off + i * 3 + 2, none⟩ = some (.int .i64 ds[i].2.2)

end Go.Proofs.Ytkjfceajakhlfaa
