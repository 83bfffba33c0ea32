/- Rows that a call owns: numbers, items, sizes, issues. -/
import Derived.Test.YtngaepgepcnhkaaJ3
import Derived.Deep.AppendLies
import Derived.Laws.AppendOwnNone
namespace Go.Proofs.Ytngaepgepcnhkaa
set_option linter.unusedVariables false
set_option linter.unusedSimpArgs false
open Go.RowKit

theorem own_form {w : World} {base : Nat} {e : TypeId} {size n : Nat} {v : Value} {xs : List Value} (h : w.ownsRow base e size v n xs) :
    ∃ A c g, v = .slice A n c ∧ (0 < n → base ≤ g ∧ A = some ⟨g, 0, none⟩ ∧ ∃ cur, Lies w g e cur ∧ ∀ j, j < n * size → cur[j]? = xs[j]?) := by
  rcases h.2 with ⟨rfl, rfl⟩ | ⟨g, cap, cur, rfl, hg, hh, hc, _, hs, ht⟩
  · exact ⟨none, 0, 0, rfl, fun h => by omega⟩
  · refine ⟨_, cap, g, rfl, fun _ => ⟨hg, rfl, cur, hh, fun j hj => ?_⟩⟩
    rw [← ht, List.getElem?_take_of_lt hj]
    simp
theorem own_after {w w' : World} {base : Nat} {e : TypeId} {size n : Nat} {v : Value} {xs : List Value} (h : w.ownsRow base e size v n xs) (hb : Below w.heap.size w w') : w'.ownsRow base e size v n xs := by
  refine ⟨h.1, ?_⟩
  rcases h.2 with h0 | ⟨g, cap, cur, hv, hg, hh, hr⟩
  · exact .inl h0
  · have hlt : g < w.heap.size := (Array.getElem?_eq_some_iff.1 hh).1
    exact .inr ⟨g, cap, cur, hv, hg, (hb.block g hlt).trans hh, hr⟩
theorem own_at {w w' : World} {base : Nat} {e : TypeId} {size n : Nat} {v : Value} {xs : List Value} (h : w.ownsRow base e size v n xs) (hk : ∀ g, v.ownBlock = some g → w'.heap[g]? = w.heap[g]?) : w'.ownsRow base e size v n xs := by
  refine ⟨h.1, ?_⟩
  rcases h.2 with h0 | ⟨g, cap, cur, hv, hg, hh, hr⟩
  · exact .inl h0
  · exact .inr ⟨g, cap, cur, hv, hg, (hk g (by rw [hv]; rfl)).trans hh, hr⟩
theorem own_less {w : World} {base base' : Nat} {e : TypeId} {size n : Nat} {v : Value} {xs : List Value} (h : w.ownsRow base e size v n xs) (hb : base' ≤ base) : w.ownsRow base' e size v n xs := by
  refine ⟨h.1, ?_⟩
  rcases h.2 with h0 | ⟨g, cap, cur, hv, hg, hr⟩
  · exact .inl h0
  · exact .inr ⟨g, cap, cur, hv, by omega, hr⟩
theorem own_put {w : World} {base : Nat} {e : TypeId} {size n : Nat} {v : Value} {xs : List Value} (h : w.ownsRow base e size v n xs) {p : Addr} (hp : p.block < base) (u : Value) : (w.setCell p u).ownsRow base e size v n xs :=
  own_at h fun k hk => Below.heap_setCell w p u k (by have := (h.lt k hk).1; omega)
/-- What an append to a row of one's own leaves below. -/
theorem below_own {w0 w w' : World} {B base : Nat} {e : TypeId} {size n : Nat} {v : Value} {xs : List Value} (hb : Below B w0 w) (h : w.ownsRow base e size v n xs) (hg : w.grownBy w' v.ownBlock) (hB : B ≤ base) (hs : B ≤ w.heap.size) : Below B w0 w' :=
  hb.grown hg hs (fun k e => by have := (h.lt k e).1; omega)
theorem lies_own {w w' : World} {base : Nat} {e t : TypeId} {size n g : Nat} {v : Value} {xs : List Value} {cs : Array Value} (hl : Lies w g t cs) (h : w.ownsRow base e size v n xs) (hg : w.grownBy w' v.ownBlock) (hne : e ≠ t) : Lies w' g t cs := by
  refine (hg.block g hl.lt ?_).trans hl
  rcases h.2 with ⟨rfl, _⟩ | ⟨g', cap, cur, rfl, _, hh, _⟩
  · simp [Value.ownBlock]
  · intro he
    obtain rfl : g = g' := by simpa [Value.ownBlock] using he
    have h2 := hl
    unfold Lies at h2
    rw [hh] at h2
    injection h2 with h2
    injection h2 with _ ht
    exact hne ht
theorem lies_below {w w' : World} {base : Nat} {e t : TypeId} {size n g : Nat} {v : Value} {xs : List Value} {cs : Array Value} (hl : Lies w g t cs) (h : w.ownsRow base e size v n xs) (hg : w.grownBy w' v.ownBlock) (hlt : g < base) : Lies w' g t cs :=
  (hg.block g hl.lt (fun e => by have := (h.lt g e.symm).1; omega)).trans hl

abbrev cellsN (l : List Int) : List Value := l.map fun x => .int .i64 x
def cellsI (l : List (Int × Int)) : List Value := l.flatMap fun x => [.int .i64 x.1, .int .i64 x.2]
def cellsS (l : List D3) : List Value := l.flatMap fun x => [.int .i64 x.1, .int .i64 x.2.1, .int .i64 x.2.2]
theorem cellsI_len (l : List (Int × Int)) : (cellsI l).length = l.length * 2 := by
  induction l with
  | nil => rfl
  | cons x r ih => unfold cellsI at *; simp only [List.flatMap_cons, List.length_append, ih, List.length_cons, List.length_nil]; omega
theorem cellsS_len (l : List D3) : (cellsS l).length = l.length * 3 := by
  induction l with
  | nil => rfl
  | cons x r ih => unfold cellsS at *; simp only [List.flatMap_cons, List.length_append, ih, List.length_cons, List.length_nil]; omega
theorem cellsI_at {l : List (Int × Int)} {i : Nat} (h : i < l.length) : (cellsI l)[i * 2]? = some (.int .i64 (l[i].1)) ∧ (cellsI l)[i * 2 + 1]? = some (.int .i64 (l[i].2)) := by
  induction l generalizing i with
  | nil => simp at h
  | cons x r ih =>
    cases i with
    | zero => exact ⟨rfl, rfl⟩
    | succ i =>
      have := ih (i := i) (by simpa using h)
      refine ⟨?_, ?_⟩
      · show (.int .i64 x.1 :: .int .i64 x.2 :: cellsI r)[(i + 1) * 2]? = _
        rw [show (i + 1) * 2 = i * 2 + 1 + 1 from by omega]
        exact this.1
      · show (.int .i64 x.1 :: .int .i64 x.2 :: cellsI r)[(i + 1) * 2 + 1]? = _
        rw [show (i + 1) * 2 + 1 = i * 2 + 1 + 1 + 1 from by omega]
        exact this.2
theorem cellsS_at {l : List D3} {i : Nat} (h : i < l.length) : (cellsS l)[i * 3]? = some (.int .i64 (l[i].1)) ∧ (cellsS l)[i * 3 + 1]? = some (.int .i64 (l[i].2.1)) ∧ (cellsS l)[i * 3 + 2]? = some (.int .i64 (l[i].2.2)) := by
  induction l generalizing i with
  | nil => simp at h
  | cons x r ih =>
    cases i with
    | zero => exact ⟨rfl, rfl, rfl⟩
    | succ i =>
      have := ih (i := i) (by simpa using h)
      refine ⟨?_, ?_, ?_⟩
      · show (.int .i64 x.1 :: .int .i64 x.2.1 :: .int .i64 x.2.2 :: cellsS r)[(i + 1) * 3]? = _
        rw [show (i + 1) * 3 = i * 3 + 1 + 1 + 1 from by omega]
        exact this.1
      · show (.int .i64 x.1 :: .int .i64 x.2.1 :: .int .i64 x.2.2 :: cellsS r)[(i + 1) * 3 + 1]? = _
        rw [show (i + 1) * 3 + 1 = i * 3 + 1 + 1 + 1 + 1 from by omega]
        exact this.2.1
      · show (.int .i64 x.1 :: .int .i64 x.2.1 :: .int .i64 x.2.2 :: cellsS r)[(i + 1) * 3 + 2]? = _
        rw [show (i + 1) * 3 + 2 = i * 3 + 2 + 1 + 1 + 1 from by omega]
        exact this.2.2
theorem cellsI_one (l : List (Int × Int)) : ∀ u ∈ cellsI l, u.oneCell' = true := by
  intro u hu
  obtain ⟨x, -, hx⟩ := List.mem_flatMap.1 hu
  simp at hx
  rcases hx with rfl | rfl <;> rfl
theorem cellsS_one (l : List D3) : ∀ u ∈ cellsS l, u.oneCell' = true := by
  intro u hu
  obtain ⟨x, -, hx⟩ := List.mem_flatMap.1 hu
  simp at hx
  rcases hx with rfl | rfl | rfl <;> rfl
theorem ints_of_own {w : World} {base : Nat} {v : Value} {l : List Int} (h : w.ownsRow base 3 1 v l.length (cellsN l)) : IntsAt w v l := by
  obtain ⟨A, c, g, hv, hc⟩ := own_form h
  refine ⟨A, c, g, 0, hv, fun h0 => (hc h0).2.1, fun i hi => ?_⟩
  obtain ⟨-, -, cur, hl, hcur⟩ := hc (by omega)
  rw [Nat.zero_add, hl.cell, hcur i (by omega)]
  simp [hi]
theorem items_of_own {w : World} {base : Nat} {v : Value} {l : List (Int × Int)} (h : w.ownsRow base 52 2 v l.length (cellsI l)) : ItemsAt w v l := by
  obtain ⟨A, c, g, hv, hc⟩ := own_form h
  refine ⟨A, c, g, 0, hv, fun h0 => (hc h0).2.1, fun i hi => ?_⟩
  obtain ⟨-, -, cur, hl, hcur⟩ := hc (by omega)
  rw [Nat.zero_add, hl.cell, hl.cell, hcur _ (by omega), hcur _ (by omega)]
  exact cellsI_at hi
theorem dims_of_own {w : World} {base : Nat} {v : Value} {l : List D3} (h : w.ownsRow base 54 3 v l.length (cellsS l)) : DimsAt w v l := by
  obtain ⟨A, c, g, hv, hc⟩ := own_form h
  refine ⟨A, c, g, 0, hv, fun h0 => (hc h0).2.1, fun i hi => ?_⟩
  obtain ⟨-, -, cur, hl, hcur⟩ := hc (by omega)
  rw [Nat.zero_add, hl.cell, hl.cell, hl.cell, hcur _ (by omega), hcur _ (by omega), hcur _ (by omega)]
  exact cellsS_at hi
theorem infoN : (Try.prog.info? 3).map (fun i => (i.zero, i.size, i.bytes)) = some (some (.int .i64 0), 1, 8) := by kernel_rfl
theorem infoI : (Try.prog.info? 52).map (fun i => (i.zero, i.size, i.bytes)) = some (some (.agg #[.int .i64 0, .int .i64 0]), 2, 16) := by kernel_rfl
theorem infoS : (Try.prog.info? 54).map (fun i => (i.zero, i.size, i.bytes)) = some (some (.agg #[.int .i64 0, .int .i64 0, .int .i64 0]), 3, 24) := by kernel_rfl
theorem news_at {w : World} {b off : Nat} {l : List Value} (h : ∀ j (hj : j < l.length), w.cell? ⟨b, off + j, none⟩ = some l[j]) : ∀ j u, l[j]? = some u → w.cell? ((⟨b, off, none⟩ : Addr).add j) = some u := by
  intro j u hj
  obtain ⟨hl, rfl⟩ := List.getElem?_eq_some_iff.1 hj
  have hx : (⟨b, off, none⟩ : Addr).add j = ⟨b, off + j, none⟩ := by unfold Addr.add; split <;> simp_all
  rw [hx]; exact h j hl
theorem newsI {w : World} {b off : Nat} {l : List (Int × Int)} (h : ∀ i (h : i < l.length), w.cell? ⟨b, off + i * 2, none⟩ = some (.int .i64 l[i].1) ∧ w.cell? ⟨b, off + i * 2 + 1, none⟩ = some (.int .i64 l[i].2)) : ∀ j u, (cellsI l)[j]? = some u → w.cell? ((⟨b, off, none⟩ : Addr).add j) = some u := by
  refine news_at fun j hj => ?_
  rw [cellsI_len] at hj
  have hi : j / 2 < l.length := by omega
  have h1 := h (j / 2) hi
  have h2 := cellsI_at hi
  rcases (by omega : j = j / 2 * 2 ∨ j = j / 2 * 2 + 1) with e | e
  · have h3 : (cellsI l)[j]? = some (.int .i64 (l[j / 2].1)) := by rw [← h2.1]; congr 1
    obtain ⟨hl, h4⟩ := List.getElem?_eq_some_iff.1 h3
    rw [h4]
    rw [show off + j = off + j / 2 * 2 from by omega]; exact h1.1
  · have h3 : (cellsI l)[j]? = some (.int .i64 (l[j / 2].2)) := by
      rw [← h2.2]; congr 1
    obtain ⟨hl, h4⟩ := List.getElem?_eq_some_iff.1 h3
    rw [h4]
    rw [show off + j = off + j / 2 * 2 + 1 from by omega]; exact h1.2
theorem newsS {w : World} {b off : Nat} {l : List D3} (h : cellsD w b off l) : ∀ j u, (cellsS l)[j]? = some u → w.cell? ((⟨b, off, none⟩ : Addr).add j) = some u := by
  refine news_at fun j hj => ?_
  rw [cellsS_len] at hj
  have hi : j / 3 < l.length := by omega
  have h1 := h (j / 3) hi
  have h2 := cellsS_at hi
  rcases (by omega : j = j / 3 * 3 ∨ j = j / 3 * 3 + 1 ∨ j = j / 3 * 3 + 2) with e | e | e
  · have h3 : (cellsS l)[j]? = some (.int .i64 (l[j / 3].1)) := by rw [← h2.1]; congr 1
    obtain ⟨hl, h4⟩ := List.getElem?_eq_some_iff.1 h3
    rw [h4]
    rw [show off + j = off + j / 3 * 3 from by omega]; exact h1.1
  · have h3 : (cellsS l)[j]? = some (.int .i64 (l[j / 3].2.1)) := by rw [← h2.2.1]; congr 1
    obtain ⟨hl, h4⟩ := List.getElem?_eq_some_iff.1 h3
    rw [h4]
    rw [show off + j = off + j / 3 * 3 + 1 from by omega]; exact h1.2.1
  · have h3 : (cellsS l)[j]? = some (.int .i64 (l[j / 3].2.2)) := by rw [← h2.2.2]; congr 1
    obtain ⟨hl, h4⟩ := List.getElem?_eq_some_iff.1 h3
    rw [h4]
    rw [show off + j = off + j / 3 * 3 + 2 from by omega]; exact h1.2.2
end Go.Proofs.Ytngaepgepcnhkaa
