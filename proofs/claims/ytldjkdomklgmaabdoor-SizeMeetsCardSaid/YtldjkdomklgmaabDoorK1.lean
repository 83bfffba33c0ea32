/- Lists that are arguments, opened. -/
import Derived.Test.YtldjkdomklgmaabDoorK0
import Derived.Test.YtldjkdomklgmaabDoorC1
import Derived.Test.YtldjkdomklgmaabDoorA2
import Derived.Deep.Slices
import Derived.Carry
namespace Go.Proofs.YtldjkdomklgmaabDoor
set_option linter.unusedVariables false
set_option linter.unusedSimpArgs false
open Go.ChangeShapes Go.WideShapes Go.ChangeAt Go.RowKit

theorem cells_u8 : Tryd.prog.cellsOf 5 = 1 := by kernel_rfl
theorem add_none (b o k : Nat) : (⟨b, o, none⟩ : Addr).add k = ⟨b, o + k, none⟩ := by unfold Addr.add; split <;> simp_all
/-- A cell that is read lies at an address that names a cell. -/
theorem spot_none {W : World} {a : Addr} {v : Value} (h : W.cell? a = some v) : a = ⟨a.block, a.off, none⟩ := by
  obtain ⟨b, o, s⟩ := a
  cases s with
  | none => rfl
  | some x =>
    exfalso
    unfold World.cell? at h
    split at h <;> simp at h

set_option maxRecDepth 100000 in
/-- A list of units, opened: nil, or cells that hold them. -/
theorem open_units {H : Type} {enc : TypeId × Value → H} {W : World} {base : Nat} {v : Value} {d : DataW H} {p : List MemPlace} (hv : Value.okWide Tryd.prog W .any base 41 v) (h : DataW.Trod enc Tryd.prog W 0 (fun _ => true) true 41 v d p) :
    v = .slice none 0 0 ∨ ∃ (ad : Addr) (us : List Int) (c : Nat), v = .slice (some ad) us.length c ∧ (0 < us.length → ad = ⟨ad.block, ad.off, none⟩) ∧ cellsU W ad.block ad.off us := by
  obtain ⟨a, len, cap, rfl⟩ := okWide_slice Tryd.underlying41 hv
  obtain ⟨fuel, hf⟩ := h
  rcases open_ints Tryd.underlying41 Tryd.underlying5 cells_u8 hf with ⟨hcs, -⟩ | ⟨ad, len', cap', zs, hcs, -, hl, hm, hz, -, hcell, -⟩
  · left
    simpa [Value.cells] using hcs
  · right
    simp only [Value.cells, List.cons.injEq, Value.slice.injEq, and_true] at hcs
    obtain ⟨rfl, rfl, rfl⟩ := hcs
    simp only [if_true] at hz
    have hlen : (zs.take len).length = len := by simp; omega
    have hcl : ∀ i (hi : i < len), W.cell? (ad.add i) = some (.int .u8 ((zs.take len)[i]'(by omega))) := fun i hi => by
      rw [hcell i (by omega)]
      simp [List.getD, show i < zs.length by omega]
    refine ⟨ad, zs.take len, cap, by rw [hlen], fun h => ?_, fun i hi => ?_⟩
    · have := hcl 0 (by omega)
      exact spot_none (by simpa [Addr.add] using this)
    · have h1 := hcl i (by omega)
      have h0 := spot_none (by simpa [Addr.add] using hcl 0 (by omega))
      rw [← h1]
      obtain ⟨b, o, s⟩ := ad
      simp only [Addr.mk.injEq, true_and] at h0
      subst h0
      congr 1
      unfold Addr.add
      by_cases e : i = 0
      · subst e; rfl
      · rw [if_neg e]

set_option maxRecDepth 100000 in
/-- A size that reads in three cells. -/
theorem dim_cells {H : Type} {enc : TypeId × Value → H} {W : World} {n : Nat} {cs : List Value} {y : DataW H × List MemPlace} (h : DataW.trod enc Tryd.prog W 0 (fun _ => true) true n 24 cs = some y) :
    ∃ x0 x1 x2 : Int, cs = [.int .i64 x0, .int .i64 x1, .int .i64 x2] := by
  obtain ⟨xs, m, -, -, hlen, hxl, hg⟩ := DataW.trod_struct Tryd.underlying24 h
  rw [cells_dim] at hlen
  match cs, hlen with
  | [c0, c1, c2], _ =>
    have hci : Tryd.prog.cellsOf 3 = 1 := by kernel_rfl
    have g0 : DataW.trod enc Tryd.prog W 0 (fun _ => true) true m 3 (List.take (Tryd.prog.cellsOf 3) (List.drop 0 [c0, c1, c2])) = xs[0]? := hg 0 _ rfl
    have g1 : DataW.trod enc Tryd.prog W 0 (fun _ => true) true m 3 (List.take (Tryd.prog.cellsOf 3) (List.drop 1 [c0, c1, c2])) = xs[1]? := hg 1 _ rfl
    have g2 : DataW.trod enc Tryd.prog W 0 (fun _ => true) true m 3 (List.take (Tryd.prog.cellsOf 3) (List.drop 2 [c0, c1, c2])) = xs[2]? := hg 2 _ rfl
    rw [hci] at g0 g1 g2
    simp only [List.drop_zero, List.drop_succ_cons, List.take_succ_cons, List.take_zero] at g0 g1 g2
    have k : ∀ (c : Value) (z : Option (DataW H × List MemPlace)), DataW.trod enc Tryd.prog W 0 (fun _ => true) true m 3 [c] = z → z.isSome → ∃ i : Int, c = .int .i64 i := by
      intro c z hz hs
      obtain ⟨z', rfl⟩ := Option.isSome_iff_exists.1 hs
      obtain ⟨i, e, -⟩ := DataW.trod_int Tryd.underlying3 hz
      simp only [List.cons.injEq, and_true] at e
      exact ⟨i, e⟩
    have hx : xs.length = 3 := hxl
    obtain ⟨i0, rfl⟩ := k c0 _ g0 (by simp [hx])
    obtain ⟨i1, rfl⟩ := k c1 _ g1 (by simp [hx])
    obtain ⟨i2, rfl⟩ := k c2 _ g2 (by simp [hx])
    exact ⟨i0, i1, i2, rfl⟩
set_option maxRecDepth 100000 in
/-- A list of sizes, opened: nil, or cells that hold them. -/
theorem open_dims {H : Type} {enc : TypeId × Value → H} {W : World} {base : Nat} {v : Value} {d : DataW H} {p : List MemPlace} (hv : Value.okWide Tryd.prog W .any base 22 v) (h : DataW.Trod enc Tryd.prog W 0 (fun _ => true) true 22 v d p) :
    v = .slice none 0 0 ∨ ∃ (ad : Addr) (ds : List D3) (c : Nat), v = .slice (some ad) ds.length c ∧ (0 < ds.length → ad = ⟨ad.block, ad.off, none⟩) ∧ cellsD W ad.block ad.off ds := by
  obtain ⟨a, len, cap, rfl⟩ := okWide_slice Tryd.underlying22 hv
  obtain ⟨fuel, hf⟩ := h
  rcases Go.Deep.open_slice Tryd.underlying22 hf with ⟨hcs, -⟩ | ⟨ad, len', cap', m, n, D, Pl, hcs, -, hl, -, hm, -, hi⟩
  · left
    simpa [Value.cells] using hcs
  · right
    simp only [Value.cells, List.cons.injEq, Value.slice.injEq, and_true] at hcs
    obtain ⟨rfl, rfl, rfl⟩ := hcs
    rw [cells_dim] at hi
    have hml : len ≤ m := by rw [hm]; simpa using hl
    have hex : ∀ i, ∃ x : D3, i < len → W.cell? (ad.add (i * 3)) = some (.int .i64 x.1) ∧ W.cell? (ad.add (i * 3 + 1)) = some (.int .i64 x.2.1) ∧ W.cell? (ad.add (i * 3 + 2)) = some (.int .i64 x.2.2) := by
      intro i
      by_cases h : i < len
      · obtain ⟨cs, hc, ht⟩ := hi i (by omega)
        obtain ⟨x0, x1, x2, rfl⟩ := dim_cells ht
        obtain ⟨-, -, hat⟩ := World.cells?_some hc
        have a0 := hat 0 (by omega)
        have a1 := hat 1 (by omega)
        have a2 := hat 2 (by omega)
        rw [Go.Deep.add_add] at a0 a1 a2
        exact ⟨(x0, x1, x2), fun _ => ⟨by simpa using a0, by simpa using a1, by simpa using a2⟩⟩
      · exact ⟨(0, 0, 0), fun h' => absurd h' h⟩
    obtain ⟨f, hf⟩ := Classical.skolem.1 hex
    have hlen : ((List.range len).map f).length = len := by simp
    have hg : ∀ i (hi : i < ((List.range len).map f).length), ((List.range len).map f)[i] = f i := fun i hi => by simp
    refine ⟨ad, (List.range len).map f, cap, by rw [hlen], fun h => ?_, fun i hi => ?_⟩
    · have := (hf 0 (by omega)).1
      exact spot_none (by simpa [Addr.add] using this)
    · rw [hg]
      have h0 := spot_none (by simpa [Addr.add] using (hf 0 (by omega)).1)
      have h1 := hf i (by omega)
      obtain ⟨b, o, s⟩ := ad
      simp only [Addr.mk.injEq, true_and] at h0
      subst h0
      rw [add_none, add_none, add_none] at h1
      exact h1

end Go.Proofs.YtldjkdomklgmaabDoor
