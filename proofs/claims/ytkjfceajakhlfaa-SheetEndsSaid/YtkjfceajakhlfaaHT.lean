/- One operation of a region that draws its order, by hand. -/
import Derived.Test.YtkjfceajakhlfaaBase
import Derived.Deep.RegionHeld3
namespace Go.Proofs.Ytkjfceajakhlfaa
set_option linter.unusedVariables false
set_option linter.unusedSimpArgs false
open Go.RowKit

section
variable {md : Region.Mode} {l : List Oper} {Q : Exit → Act → World → Prop} {S : World → Prop} {fuel : Nat} {listed : Array Bool} {a : Act} {w : World}
theorem at_drop {i : Nat} {o : Oper} {rest : List Oper} (h : l.drop i = o :: rest) : l.toArray[i]? = some o := by
  have h2 : l[i]? = some o := by rw [← List.head?_drop, h]; rfl
  simpa using h2
/-- One operation of a drawn region, by hand. -/
theorem take_at {i : Nat} {o : Oper} {rest : List Oper} {v : Value} (h : l.drop i = o :: rest) (hs : Region.noSelect l.toArray = true) (hf : Region.free md l.toArray listed i = true) (hr : (Region.ready md l.toArray listed).contains i = true)
    (hQ : ∀ c a w, Q (.panic c) (a.put o.dst v) w → Q (.panic c) a w) (hy : YieldsIf Try.prog l.toArray S o v a) (hS : S w) (hk : wpAnyH Try.prog md l.toArray Q S fuel (listed.setIfInBounds i true) (a.put o.dst v) w) : wpAnyH Try.prog md l.toArray Q S (fuel + 1) listed a w :=
  wpAnyH_take (at_drop h) hs hf hr hQ hy hS hk
theorem cons_at {i : Nat} {o : Oper} {rest : List Oper} {rs : List Nat} (h : l.drop i = o :: rest)
    (hk : ∀ K' : Act → World → Prop, Go.Shut (∀ a w, S w → (S w → wpAnyH Try.prog md l.toArray Q S fuel (listed.setIfInBounds i true) a w) → K' a w) → if Region.wanted o (yielded l.toArray a.tmps) = true then Oper.wp Try.prog o a w K' Q else K' (a.put o.dst undef) w)
    (hs : AllReadyH Try.prog md l.toArray Q S fuel listed a w rs) : AllReadyH Try.prog md l.toArray Q S fuel listed a w (i :: rs) :=
  AllReadyH.cons (at_drop h) hk hs
end
theorem keep_nw {w : World} {o : Obj} {v : Value} {p : Addr} (h : w.cell? p = some v) : (w.alloc o).cell? p = some v := by
  rw [World.cell?_of_block (Below.heap_alloc w o p.block (World.block_lt_of_cell? w _ h))]
  exact h
end Go.Proofs.Ytkjfceajakhlfaa
