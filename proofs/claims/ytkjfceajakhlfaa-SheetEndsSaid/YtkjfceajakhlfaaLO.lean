/- OP: Arguments of the laws of layer 2, opened. OQ: Lists of numbers among a law's arguments, opened. -/
import Derived.Test.YtkjfceajakhlfaaRows
import Derived.Test.YtkjfceajakhlfaaLA
import Derived.ProofKit
import Derived.OpenShut
import Derived.Lib.SmallJoins
import Derived.Deep.Slices
import Derived.Carry
namespace Go.Proofs.Ytkjfceajakhlfaa
set_option linter.unusedVariables false
set_option linter.unusedSimpArgs false
section
open Go.ChangeShapes Go.WideShapes Go.ChangeAt Go.RowKit

theorem law_own : ownKnob Try.prog.godebug = none := by kernel_rfl
theorem law_laidOut : laidOutB Try.prog = true := by kernel_rfl
theorem cells_int : Try.prog.cellsOf 3 = 1 := by kernel_rfl
theorem cells_kind : Try.prog.cellsOf 5 = 1 := by kernel_rfl
theorem cells_item : Try.prog.cellsOf 52 = 2 := by kernel_rfl
theorem cells_dim3 : Try.prog.cellsOf 54 = 3 := by kernel_rfl
theorem cells_issue : Try.prog.cellsOf 45 = 5 := by kernel_rfl
theorem cells_items : Try.prog.cellsOf 42 = 1 := by kernel_rfl
theorem cells_dims : Try.prog.cellsOf 43 = 1 := by kernel_rfl
/-- A cell that is read lies at an address that names a cell. -/
theorem spot_cell {W : World} {a : Addr} {v : Value} (h : W.cell? a = some v) : a = ⟨a.block, a.off, none⟩ := by
  obtain ⟨b, o, s⟩ := a
  cases s with
  | none => rfl
  | some x =>
    exfalso
    unfold World.cell? at h
    split at h <;> simp at h
theorem add_cell (b o k : Nat) : (⟨b, o, none⟩ : Addr).add k = ⟨b, o + k, none⟩ := by unfold Addr.add; split <;> simp_all
/-- A list's row, opened by what its elements are. -/
theorem row_open {α : Type} [Inhabited α] {H : Type} {enc : TypeId × Value → H} {W : World} {t e : TypeId} (nC : Nat) (ht : Try.prog.underlying t = some (.slice e)) (hce : Try.prog.cellsOf e = nC) (hpos : 0 < nC) (dec : List Value → α → Prop)
    (hd : ∀ fuel cs (y : DataW H × List MemPlace), DataW.trod enc Try.prog W 0 (fun _ => true) true fuel e cs = some y → ∃ x, dec cs x) {fuel : Nat} {v : Value} {y : DataW H × List MemPlace} (hv : ∃ a l c, v = .slice a l c) (h : DataW.trod enc Try.prog W 0 (fun _ => true) true fuel t v.cells.toList = some y) :
    v = .slice none 0 0 ∨ ∃ (b off : Nat) (ad : Addr) (l : List α) (c : Nat), v = .slice (some ad) l.length c ∧ l.length ≤ maxLen ∧ (0 < l.length → ad = ⟨b, off, none⟩) ∧ ∀ i (h : i < l.length), ∃ cs, dec cs l[i] ∧ cs.length = nC ∧ ∀ j, j < nC → W.cell? ⟨b, off + i * nC + j, none⟩ = cs[j]? := by
  obtain ⟨a, len, cap, rfl⟩ := hv
  rcases Go.Deep.open_slice ht h with ⟨hcs, -⟩ | ⟨ad, len', cap', m, n, D, Pl, hcs, -, hl, hmx, hm, -, hi⟩
  · left
    simpa [Value.cells] using hcs
  · right
    simp only [Value.cells, List.cons.injEq, Value.slice.injEq, and_true] at hcs
    obtain ⟨rfl, rfl, rfl⟩ := hcs
    rw [hce] at hi
    have hml : len ≤ m := by rw [hm]; simpa using hl
    have hex : ∀ i, ∃ x : α, i < len → ∃ cs, dec cs x ∧ cs.length = nC ∧ ∀ j, j < nC → W.cell? (ad.add (i * nC + j)) = cs[j]? := by
      intro i
      by_cases h : i < len
      · obtain ⟨cs, hc, ht⟩ := hi i (by omega)
        obtain ⟨x, hx⟩ := hd _ _ _ ht
        obtain ⟨-, hcl, hat⟩ := World.cells?_some hc
        exact ⟨x, fun _ => ⟨cs, hx, hcl, fun j hj => by rw [← hat j hj, Go.Deep.add_add]⟩⟩
      · exact ⟨default, fun h' => absurd h' h⟩
    obtain ⟨f, hf⟩ := Classical.skolem.1 hex
    have hlen : ((List.range len).map f).length = len := by simp
    have hspot : 0 < len → ad = ⟨ad.block, ad.off, none⟩ := fun h0 => by
      obtain ⟨cs, -, h1, h2⟩ := hf 0 h0
      have h3 := h2 0 hpos
      rw [List.getElem?_eq_getElem (by omega)] at h3
      exact spot_cell (by simpa [Addr.add] using h3)
    refine ⟨ad.block, ad.off, ad, (List.range len).map f, cap, by rw [hlen], by rw [hlen]; omega, fun h => hspot (by omega), fun i hi => ?_⟩
    obtain ⟨cs, h1, h2, h3⟩ := hf i (by omega)
    refine ⟨cs, by simpa using h1, h2, fun j hj => ?_⟩
    rw [← h3 j hj]
    have h4 := hspot (by omega)
    obtain ⟨b, o, s⟩ := ad
    simp only [Addr.mk.injEq, true_and] at h4
    subst h4
    rw [add_cell, Nat.add_assoc]
/-- One int of a struct's cells. -/
theorem int_one {H : Type} {enc : TypeId × Value → H} {W : World} {fuel : Nat} {t : TypeId} {k : IntKind} {cs : List Value} {z : DataW H × List MemPlace} (ht : Try.prog.underlying t = some (.int k)) (h : DataW.trod enc Try.prog W 0 (fun _ => true) true fuel t cs = some z) : ∃ n, cs = [.int k n] ∧ (Lit.int k n).wf = true := by
  obtain ⟨n, h1, -, h2⟩ := DataW.trod_int ht h
  exact ⟨n, h1, h2⟩
set_option maxRecDepth 100000 in
theorem item_cells {H : Type} {enc : TypeId × Value → H} {W : World} (fuel : Nat) (cs : List Value) (y : DataW H × List MemPlace) (h : DataW.trod enc Try.prog W 0 (fun _ => true) true fuel 52 cs = some y) : ∃ x : Int × Int, cs = [.int .i64 x.1, .int .i64 x.2] := by
  obtain ⟨xs, m, -, -, hlen, hxl, hg⟩ := DataW.trod_struct Try.underlying52 h
  rw [cells_item] at hlen
  match cs, hlen with
  | [c0, c1], _ =>
    have g0 : DataW.trod enc Try.prog W 0 (fun _ => true) true m 3 (List.take (Try.prog.cellsOf 3) (List.drop 0 [c0, c1])) = xs[0]? := hg 0 _ rfl
    have g1 : DataW.trod enc Try.prog W 0 (fun _ => true) true m 3 (List.take (Try.prog.cellsOf 3) (List.drop 1 [c0, c1])) = xs[1]? := hg 1 _ rfl
    rw [cells_int] at g0 g1
    have hx : xs.length = 2 := hxl
    match xs, hx with
    | [x0, x1], _ =>
      obtain ⟨n0, e0, -⟩ := int_one Try.underlying3 g0
      obtain ⟨n1, e1, -⟩ := int_one Try.underlying3 g1
      simp at e0 e1
      exact ⟨(n0, n1), by rw [e0, e1]⟩
set_option maxRecDepth 100000 in
theorem dim3_cells {H : Type} {enc : TypeId × Value → H} {W : World} (fuel : Nat) (cs : List Value) (y : DataW H × List MemPlace) (h : DataW.trod enc Try.prog W 0 (fun _ => true) true fuel 54 cs = some y) : ∃ x : D3, cs = [.int .i64 x.1, .int .i64 x.2.1, .int .i64 x.2.2] := by
  obtain ⟨xs, m, -, -, hlen, hxl, hg⟩ := DataW.trod_struct Try.underlying54 h
  rw [cells_dim3] at hlen
  match cs, hlen with
  | [c0, c1, c2], _ =>
    have g0 : DataW.trod enc Try.prog W 0 (fun _ => true) true m 3 (List.take (Try.prog.cellsOf 3) (List.drop 0 [c0, c1, c2])) = xs[0]? := hg 0 _ rfl
    have g1 : DataW.trod enc Try.prog W 0 (fun _ => true) true m 3 (List.take (Try.prog.cellsOf 3) (List.drop 1 [c0, c1, c2])) = xs[1]? := hg 1 _ rfl
    have g2 : DataW.trod enc Try.prog W 0 (fun _ => true) true m 3 (List.take (Try.prog.cellsOf 3) (List.drop 2 [c0, c1, c2])) = xs[2]? := hg 2 _ rfl
    rw [cells_int] at g0 g1 g2
    have hx : xs.length = 3 := hxl
    match xs, hx with
    | [x0, x1, x2], _ =>
      obtain ⟨n0, e0, -⟩ := int_one Try.underlying3 g0
      obtain ⟨n1, e1, -⟩ := int_one Try.underlying3 g1
      obtain ⟨n2, e2, -⟩ := int_one Try.underlying3 g2
      simp at e0 e1 e2
      exact ⟨(n0, n1, n2), by rw [e0, e1, e2]⟩
theorem slice_form {H : Type} {enc : TypeId × Value → H} {W : World} {fuel : Nat} {t e : TypeId} {v : Value} {y : DataW H × List MemPlace} (ht : Try.prog.underlying t = some (.slice e)) (h : DataW.trod enc Try.prog W 0 (fun _ => true) true fuel t [v] = some y) : ∃ a l c, v = .slice a l c := by
  rcases Go.Deep.open_slice ht h with ⟨hcs, -⟩ | ⟨ad, len', cap', m, n, D, Pl, hcs, -⟩
  · simp at hcs; exact ⟨_, _, _, hcs⟩
  · simp at hcs; exact ⟨_, _, _, hcs⟩
theorem items_open {H : Type} {enc : TypeId × Value → H} {W : World} {fuel : Nat} {v : Value} {y : DataW H × List MemPlace} (h : DataW.trod enc Try.prog W 0 (fun _ => true) true fuel 42 [v] = some y) : ∃ l, ItemsAt W v l ∧ NilOk v ∧ l.length ≤ maxLen := by
  have hv := slice_form Try.underlying42 h
  have hc : v.cells.toList = [v] := by obtain ⟨a, l, c, rfl⟩ := hv; rfl
  rcases row_open 2 Try.underlying42 cells_item (by decide) (fun cs (x : Int × Int) => cs = [.int .i64 x.1, .int .i64 x.2]) item_cells hv (by rw [hc]; exact h) with rfl | ⟨b, off, ad, l, c, rfl, hm, ha, hi⟩
  · exact ⟨[], ⟨none, 0, 0, 0, rfl, fun h => absurd h (by simp), fun i h => absurd h (by simp)⟩, fun n c e => by injection e with _ _ e; exact e.symm, by unfold maxLen; simp⟩
  · refine ⟨l, ⟨some ad, c, b, off, rfl, fun h => by rw [ha h], fun i hl => ?_⟩, (fun n c e => by injection e with e; cases e), hm⟩
    obtain ⟨cs, rfl, -, hj⟩ := hi i hl
    exact ⟨hj 0 (by omega), hj 1 (by omega)⟩
theorem dims_open {H : Type} {enc : TypeId × Value → H} {W : World} {fuel : Nat} {v : Value} {y : DataW H × List MemPlace} (h : DataW.trod enc Try.prog W 0 (fun _ => true) true fuel 43 [v] = some y) : ∃ l, DimsAt W v l ∧ NilOk v ∧ l.length ≤ maxLen := by
  have hv := slice_form Try.underlying43 h
  have hc : v.cells.toList = [v] := by obtain ⟨a, l, c, rfl⟩ := hv; rfl
  rcases row_open 3 Try.underlying43 cells_dim3 (by decide) (fun cs (x : D3) => cs = [.int .i64 x.1, .int .i64 x.2.1, .int .i64 x.2.2]) dim3_cells hv (by rw [hc]; exact h) with rfl | ⟨b, off, ad, l, c, rfl, hm, ha, hi⟩
  · exact ⟨[], ⟨none, 0, 0, 0, rfl, fun h => absurd h (by simp), fun i h => absurd h (by simp)⟩, fun n c e => by injection e with _ _ e; exact e.symm, by unfold maxLen; simp⟩
  · refine ⟨l, ⟨some ad, c, b, off, rfl, fun h => by rw [ha h], fun i hl => ?_⟩, (fun n c e => by injection e with e; cases e), hm⟩
    obtain ⟨cs, rfl, -, hj⟩ := hi i hl
    exact ⟨hj 0 (by omega), hj 1 (by omega), hj 2 (by omega)⟩
instance : Inhabited Iss := ⟨zeroI⟩
/-- An issue's cells, read. -/
def IssIs (W : World) (cs : List Value) (x : Iss) : Prop := (x.items.length ≤ maxLen ∧ x.dims.length ≤ maxLen) ∧ ∃ vi vd, cs = [.int .i64 x.d, .int .i64 x.l, .int .u8 x.k, vi, vd] ∧ (0 ≤ x.k ∧ x.k ≤ 255) ∧ ItemsAt W vi x.items ∧ DimsAt W vd x.dims ∧ NilOk vi ∧ NilOk vd
set_option maxRecDepth 100000 in
theorem issue_cells {H : Type} {enc : TypeId × Value → H} {W : World} (fuel : Nat) (cs : List Value) (y : DataW H × List MemPlace) (h : DataW.trod enc Try.prog W 0 (fun _ => true) true fuel 45 cs = some y) : ∃ x : Iss, IssIs W cs x := by
  obtain ⟨xs, m, -, -, hlen, hxl, hg⟩ := DataW.trod_struct Try.underlying45 h
  rw [cells_issue] at hlen
  match cs, hlen with
  | [c0, c1, c2, c3, c4], _ =>
    have g0 : DataW.trod enc Try.prog W 0 (fun _ => true) true m 3 (List.take (Try.prog.cellsOf 3) (List.drop 0 [c0, c1, c2, c3, c4])) = xs[0]? := hg 0 _ rfl
    have g1 : DataW.trod enc Try.prog W 0 (fun _ => true) true m 3 (List.take (Try.prog.cellsOf 3) (List.drop 1 [c0, c1, c2, c3, c4])) = xs[1]? := hg 1 _ rfl
    have g2 : DataW.trod enc Try.prog W 0 (fun _ => true) true m 5 (List.take (Try.prog.cellsOf 5) (List.drop 2 [c0, c1, c2, c3, c4])) = xs[2]? := hg 2 _ rfl
    have g3 : DataW.trod enc Try.prog W 0 (fun _ => true) true m 42 (List.take (Try.prog.cellsOf 42) (List.drop 3 [c0, c1, c2, c3, c4])) = xs[3]? := hg 3 _ rfl
    have g4 : DataW.trod enc Try.prog W 0 (fun _ => true) true m 43 (List.take (Try.prog.cellsOf 43) (List.drop 4 [c0, c1, c2, c3, c4])) = xs[4]? := hg 4 _ rfl
    rw [cells_int] at g0 g1
    rw [cells_kind] at g2
    rw [cells_items] at g3
    rw [cells_dims] at g4
    have hx : xs.length = 5 := hxl
    match xs, hx with
    | [x0, x1, x2, x3, x4], _ =>
      obtain ⟨n0, e0, -⟩ := int_one Try.underlying3 g0
      obtain ⟨n1, e1, -⟩ := int_one Try.underlying3 g1
      obtain ⟨n2, e2, hw⟩ := int_one Try.underlying5 g2
      simp at e0 e1 e2
      obtain ⟨il, hi1, hi2, hi3⟩ := items_open g3
      obtain ⟨dl, hd1, hd2, hd3⟩ := dims_open g4
      subst e0 e1 e2
      refine ⟨⟨n0, n1, n2, il, dl⟩, ⟨hi3, hd3⟩, c3, c4, rfl, ?_, hi1, hd1, hi2, hd2⟩
      simp [Lit.wf] at hw
      exact ⟨by have := hw.1; rw [show IntKind.u8.min = (0 : Int) from rfl] at this; exact this, by have := hw.2; rw [show IntKind.u8.max = (255 : Int) from rfl] at this; exact this⟩
theorem cells_reg : Try.prog.cellsOf 24 = 1 := by kernel_rfl
theorem cells_ref : Try.prog.cellsOf 26 = 2 := by kernel_rfl
theorem issues_open {H : Type} {enc : TypeId × Value → H} {W : World} {fuel : Nat} {v : Value} {y : DataW H × List MemPlace} (h : DataW.trod enc Try.prog W 0 (fun _ => true) true fuel 22 [v] = some y) : ∃ l, IssuesAt W v l ∧ l.length ≤ maxLen ∧ ∀ x ∈ l, x.items.length ≤ maxLen ∧ x.dims.length ≤ maxLen := by
  have hv := slice_form Try.underlying22 h
  have hc : v.cells.toList = [v] := by obtain ⟨a, l, c, rfl⟩ := hv; rfl
  rcases row_open (α := Iss) (W := W) 5 Try.underlying22 cells_issue (by decide) (IssIs W) issue_cells hv (by rw [hc]; exact h) with rfl | ⟨b, off, ad, l, c, rfl, hm, ha, hi⟩
  · exact ⟨[], ⟨none, 0, 0, 0, rfl, fun h => absurd h (by simp), fun i h => absurd h (by simp)⟩, by unfold maxLen; simp, fun x hx => by cases hx⟩
  · refine ⟨l, ⟨some ad, c, b, off, rfl, fun h => by rw [ha h], fun i hl => ?_⟩, hm, fun x hx => ?_⟩
    · obtain ⟨cs, ⟨-, vi, vd, rfl, h1, h2, h3, h4, h5⟩, -, hj⟩ := hi i hl
      exact ⟨vi, vd, hj 0 (by omega), hj 1 (by omega), hj 2 (by omega), hj 3 (by omega), hj 4 (by omega), h1, h2, h3, h4, h5⟩
    · obtain ⟨i, hl, rfl⟩ := List.getElem_of_mem hx
      obtain ⟨cs, ⟨h1, -⟩, -⟩ := hi i hl
      exact h1
set_option maxRecDepth 100000 in
/-- A register by value, opened. -/
theorem open_reg {H : Type} {enc : TypeId × Value → H} {W : World} {base : Nat} {v : Value} {d : DataW H} {p : List MemPlace} (hv : Value.okWide Try.prog W .any base 24 v) (h : DataW.Trod enc Try.prog W 0 (fun _ => true) true 24 v d p) :
    ∃ xs vI, v = .agg #[vI] ∧ IssuesAt W vI xs ∧ xs.length ≤ maxLen ∧ ∀ x ∈ xs, x.items.length ≤ maxLen ∧ x.dims.length ≤ maxLen := by
  obtain ⟨cs, rfl, hsz⟩ := okWide_struct Try.underlying24 hv
  rw [cells_reg] at hsz
  obtain ⟨fuel, hf⟩ := h
  obtain ⟨l⟩ := cs
  match l, hsz with
  | [vI], _ =>
    obtain ⟨xs, m, -, -, hlen, hxl, hg⟩ := DataW.trod_struct Try.underlying24 hf
    have g0 : DataW.trod enc Try.prog W 0 (fun _ => true) true m 22 (List.take (Try.prog.cellsOf 22) (List.drop 0 [vI])) = xs[0]? := hg 0 _ rfl
    rw [show Try.prog.cellsOf 22 = 1 from by kernel_rfl] at g0
    have hx : xs.length = 1 := hxl
    match xs, hx with
    | [x0], _ =>
      obtain ⟨ys, h1, h2, h3⟩ := issues_open g0
      exact ⟨ys, vI, rfl, h1, h2, h3⟩
set_option maxRecDepth 100000 in
/-- A reference by value, opened. -/
theorem open_ref {H : Type} {enc : TypeId × Value → H} {W : World} {base : Nat} {v : Value} {d : DataW H} {p : List MemPlace} (hv : Value.okWide Try.prog W .any base 26 v) (h : DataW.Trod enc Try.prog W 0 (fun _ => true) true 26 v d p) :
    ∃ a b : Int, v = .agg #[.int .i64 a, .int .i64 b] := by
  obtain ⟨v0, v1, y0, y1, m, rfl, -, -, h0, h1⟩ := Go.Joins.open_agg2 Try.underlying26 (by kernel_rfl) cells_ref hv h
  obtain ⟨a, e0, -⟩ := DataW.trod_int Try.underlying3 h0
  obtain ⟨b, e1, -⟩ := DataW.trod_int Try.underlying3 h1
  simp only [List.cons.injEq, and_true] at e0 e1
  subst e0; subst e1
  exact ⟨a, b, rfl⟩
end
section
open Go.ChangeShapes Go.WideShapes Go.ChangeAt Go.RowKit

theorem one_int {H : Type} {enc : TypeId × Value → H} {W : World} (fuel : Nat) (cs : List Value) (y : DataW H × List MemPlace) (h : DataW.trod enc Try.prog W 0 (fun _ => true) true fuel 3 cs = some y) : ∃ x : Int, cs = [.int .i64 x] := by
  obtain ⟨n, e, -⟩ := int_one Try.underlying3 h
  exact ⟨n, e⟩
theorem ints_open {H : Type} {enc : TypeId × Value → H} {W : World} {fuel : Nat} {v : Value} {y : DataW H × List MemPlace} (hv : ∃ a l c, v = .slice a l c) (h : DataW.trod enc Try.prog W 0 (fun _ => true) true fuel 29 v.cells.toList = some y) : ∃ l, IntsAt W v l ∧ NilOk v ∧ l.length ≤ maxLen := by
  rcases row_open 1 Try.underlying29 cells_int (by decide) (fun cs (x : Int) => cs = [.int .i64 x]) one_int hv h with rfl | ⟨b, off, ad, l, c, rfl, hm, ha, hi⟩
  · exact ⟨[], ⟨none, 0, 0, 0, rfl, fun h => absurd h (by simp), fun i h => absurd h (by simp)⟩, fun n c e => by injection e with _ _ e; exact e.symm, by unfold maxLen; simp⟩
  · refine ⟨l, ⟨some ad, c, b, off, rfl, fun h => by rw [ha h], fun i hl => ?_⟩, (fun n c e => by injection e with e; cases e), hm⟩
    obtain ⟨cs, rfl, -, hj⟩ := hi i hl
    have := hj 0 (by omega)
    rw [Nat.mul_one, Nat.add_zero] at this
    exact this
set_option maxRecDepth 100000 in
/-- A list of numbers, opened. -/
theorem open_list {H : Type} {enc : TypeId × Value → H} {W : World} {base : Nat} {v : Value} {d : DataW H} {p : List MemPlace} (hv : Value.okWide Try.prog W .any base 29 v) (h : DataW.Trod enc Try.prog W 0 (fun _ => true) true 29 v d p) : ∃ ls, IntsAt W v ls ∧ NilOk v ∧ ls.length ≤ maxLen := by
  obtain ⟨fuel, hf⟩ := h
  exact ints_open (okWide_slice Try.underlying29 hv) hf
end
end Go.Proofs.Ytkjfceajakhlfaa
