/- A register whose row is one's own, and whose issues' rows are lent: what SheetBelow builds. -/
import Derived.Test.YtmhlbdighceogaaHG
import Derived.Test.YtmhlbdighceogaaVG
namespace Go.Proofs.Ytmhlbdighceogaa
set_option linter.unusedVariables false
set_option linter.unusedSimpArgs false
open Go.RowKit

/-- An issue whose rows lie anywhere. -/
def LentT (w : World) (r : Iss × Value × Value) : Prop := (0 ≤ r.1.k ∧ r.1.k ≤ 255) ∧ ItemsAt w r.2.1 r.1.items ∧ DimsAt w r.2.2 r.1.dims ∧ NilOk r.2.1 ∧ NilOk r.2.2
theorem LentT.after {w w' : World} {r : Iss × Value × Value} (h : LentT w r) (hb : Below w.heap.size w w') : LentT w' r := ⟨h.1, h.2.1.after hb, h.2.2.1.after hb, h.2.2.2⟩
theorem LentT.slices {w : World} {r : Iss × Value × Value} (h : LentT w r) : (∃ A n c, r.2.1 = .slice A n c) ∧ ∃ A n c, r.2.2 = .slice A n c := by
  obtain ⟨-, ⟨A, c, b, o, e, -⟩, ⟨A', c', b', o', e', -⟩, -⟩ := h
  exact ⟨⟨_, _, _, e⟩, _, _, _, e'⟩
def LentReg (w : World) (base : Nat) (v : Value) (rs : List (Iss × Value × Value)) : Prop := w.ownsRow base 45 5 v rs.length (cellsT rs) ∧ ∀ r ∈ rs, LentT w r
theorem LentReg.after {w w' : World} {base : Nat} {v : Value} {rs : List (Iss × Value × Value)} (h : LentReg w base v rs) (hb : Below w.heap.size w w') : LentReg w' base v rs := ⟨own_after h.1 hb, fun r hr => (h.2 r hr).after hb⟩
theorem LentReg.nil (w : World) (base : Nat) : LentReg w base (.slice none 0 0) [] := ⟨World.ownsRow_nil _ _ _ _, fun _ h => by cases h⟩
theorem LentReg.at_ {w : World} {base : Nat} {v : Value} {rs : List (Iss × Value × Value)} (h : LentReg w base v rs) : IssuesAt w v (rs.map (·.1)) := by
  obtain ⟨A, c, g, rfl, hf⟩ := own_form h.1
  refine ⟨A, c, g, 0, by rw [List.length_map], fun h0 => (hf (by simpa using h0)).2.1, fun i hi => ?_⟩
  have hi2 : i < rs.length := by simpa using hi
  obtain ⟨-, -, cur, hl, hcur⟩ := hf (by omega)
  have hcell : ∀ t, t < 5 → w.cell? ⟨g, 0 + i * 5 + t, none⟩ = (cellT rs[i])[t]? := fun t ht => by
    rw [hl.cell, Nat.zero_add, hcur _ (by omega), cellsT_at hi2 ht]
  obtain ⟨hk, h1, h2, h3, h4⟩ := h.2 rs[i] (List.getElem_mem hi2)
  have e1 : (rs.map (·.1))[i] = rs[i].1 := by simp
  rw [e1]
  exact ⟨_, _, hcell 0 (by omega), hcell 1 (by omega), hcell 2 (by omega), hcell 3 (by omega), hcell 4 (by omega), hk, h1, h2, h3, h4⟩
theorem LentReg.reg {w : World} {base : Nat} {v : Value} {rs : List (Iss × Value × Value)} (h : LentReg w base v rs) (hl : rs.length ≤ 1000) (hs : ∀ x ∈ rs.map (·.1), x.items.length ≤ 1000 ∧ x.dims.length ≤ 1000) : RegAt w v (rs.map (·.1)) := ⟨h.at_, by simpa using hl, hs⟩
/-- What is put behind has been kept, with all before it. -/
theorem LentReg.snoc {W' : World} {base : Nat} {v' : Value} {rs : List (Iss × Value × Value)} {r : Iss × Value × Value} (hr : ∀ q ∈ rs ++ [r], LentT W' q) (ho : W'.ownsRow base 45 5 v' (rs.length + 1) (cellsT rs ++ cellT r)) : LentReg W' base v' (rs ++ [r]) :=
  ⟨by rw [List.length_append, cellsT_snoc]; exact ho, hr⟩
/-- Of the first issues those that are in, with their rows. -/
def lentR (B : Int → Bool) (xs : List Iss) (vi vd : Nat → Value) : Nat → List (Iss × Value × Value)
  | 0 => []
  | j + 1 => lentR B xs vi vd j ++ if B (xs.getD j zeroI).d = true then [(xs.getD j zeroI, vi j, vd j)] else []
theorem lentR_len (B : Int → Bool) (xs : List Iss) (vi vd : Nat → Value) : ∀ j, (lentR B xs vi vd j).length ≤ j
  | 0 => Nat.le_refl _
  | j + 1 => by
    have := lentR_len B xs vi vd j
    rw [lentR, List.length_append]
    split
    · rw [List.length_singleton]; omega
    · rw [List.length_nil]; omega
theorem lentR_fst (B : Int → Bool) (xs : List Iss) (vi vd : Nat → Value) : ∀ j, j ≤ xs.length → (lentR B xs vi vd j).map (·.1) = lessL B (xs.take j)
  | 0, _ => by simp [lentR, lessL]
  | j + 1, h => by
    have ih := lentR_fst B xs vi vd j (by omega)
    have e : xs.getD j zeroI = xs[j] := by simp [List.getD_eq_getElem?_getD, show j < xs.length by omega]
    rw [lentR, List.map_append, ih, List.take_succ_eq_append_getElem (by omega), e]
    unfold lessL
    rw [List.filter_append]
    congr 1
    by_cases hB : B xs[j].d = true
    · rw [if_pos hB, List.filter_cons, if_pos hB]; rfl
    · rw [if_neg hB, List.filter_cons, if_neg hB]; rfl
theorem lentR_all {w : World} {b off : Nat} {B : Int → Bool} {xs : List Iss} {vi vd : Nat → Value} (hc : IssRow w b off xs vi vd) : ∀ j, j ≤ xs.length → ∀ r ∈ lentR B xs vi vd j, LentT w r
  | 0, _, r, hr => by cases hr
  | j + 1, h, r, hr => by
    rw [lentR, List.mem_append] at hr
    rcases hr with hr | hr
    · exact lentR_all hc j (by omega) r hr
    · split at hr
      · rw [List.mem_singleton] at hr
        subst hr
        have e : xs.getD j zeroI = xs[j] := by simp [List.getD_eq_getElem?_getD, show j < xs.length by omega]
        obtain ⟨-, -, -, -, -, hk, hit, hdt, hn1, hn2⟩ := hc j (by omega)
        rw [e]
        exact ⟨hk, hit, hdt, hn1, hn2⟩
      · cases hr
theorem lessL_all (B : Int → Bool) (xs : List Iss) (vi vd : Nat → Value) : (lentR B xs vi vd xs.length).map (·.1) = lessL B xs := by
  rw [lentR_fst B xs vi vd xs.length (Nat.le_refl _), List.take_length]
/-- The letters, one after another. -/
theorem ownL_nil (B : Int → Bool) (zs ls : List Int) : ownL B (zs.take 0) (ls.take 0) = [] := by simp [ownL]
theorem ownL_step {B : Int → Bool} : ∀ {zs ls : List Int} {j : Nat} (h1 : j < zs.length) (h2 : j < ls.length), ownL B (zs.take (j + 1)) (ls.take (j + 1)) = ownL B (zs.take j) (ls.take j) ++ if B zs[j] = true then [ls[j]] else []
  | [], _, _, h1, _ => by simp at h1
  | z :: r, [], _, _, h2 => by simp at h2
  | z :: r, l :: s, 0, _, _ => by
    simp only [List.take_succ_cons, List.take_zero, ownL, List.getElem_cons_zero, List.nil_append]
  | z :: r, l :: s, j + 1, h1, h2 => by
    have ih := ownL_step (B := B) (zs := r) (ls := s) (j := j) (by simpa using h1) (by simpa using h2)
    rw [List.take_succ_cons, List.take_succ_cons, ownL, List.take_succ_cons, List.take_succ_cons, ownL, ih]
    simp only [List.getElem_cons_succ]
    split <;> simp
end Go.Proofs.Ytmhlbdighceogaa
