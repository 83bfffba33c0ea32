/- slices.Collect over the issues of a drawing. -/
import Derived.Test.YtkjfceajakhlfaaVB
import Derived.Test.YtkjfceajakhlfaaUZ
namespace Go.Proofs.Ytkjfceajakhlfaa
set_option linter.unusedVariables false
set_option linter.unusedSimpArgs false
open Go.RowKit

theorem collect_any (dB nB : Nat) (A : Option Addr) (c b off : Nat) (vN vD : Value) (xs : List Iss) (vi vd : Nat → Value) (t : Int) (w : World) (hl : xs.length ≤ 1000) (hs : xs.Pairwise (fun x y => x.d ≤ y.d))
    (hd : Lies w dB 118 #[.slice A xs.length c, vN, vD]) (ht : Lies w nB 3 #[.int .i64 t]) (hA : 0 < xs.length → A = some ⟨b, off, none⟩) (hc : IssRow w b off xs vi vd) :
    Calls Try.prog 93 #[.func (.func 111) #[] #[.pointer (some ⟨dB, 0, none⟩), .pointer (some ⟨nB, 0, none⟩)]] w fun e w' => ∃ v, e = .returned v ∧ w'.ownsRow w.heap.size 45 5 v (idxs xs t).length (rowsF xs vi vd (idxs xs t)) ∧ Below w.heap.size w w' := by
  have HA := Lib.hid (appendSeq_any dB nB A c b off vN vD xs vi vd t w hl hs hd ht hA hc)
  clear hd ht hA hc hs hl
  go_enter Try.func93, Try.ntmps93
  go_wp2_with fail
  refine HA.out.mono ?_
  rintro e w1 ⟨v, rfl, ho, hb⟩
  have HO := Lib.hid ho
  obtain ⟨A5, c5, g5, rfl, -⟩ := own_form ho
  clear ho
  go_wp2_with fail
  go_ret
  exact ⟨_, rfl, HO.out, hb⟩
theorem rowsF_at {xs : List Iss} {vi vd : Nat → Value} : ∀ (ks : List (Fin xs.length)) (i : Nat) (h : i < ks.length) (s : Nat), s < 5 → (rowsF xs vi vd ks)[i * 5 + s]? = ([.int .i64 (xs[ks[i]].d), .int .i64 (xs[ks[i]].l), .int .u8 (xs[ks[i]].k), vi ks[i], vd ks[i]] : List Value)[s]?
  | [], _, h, _, _ => by simp at h
  | x :: r, 0, h, s, hs => by
    have e : rowsF xs vi vd (x :: r) = [.int .i64 (xs[x].d), .int .i64 (xs[x].l), .int .u8 (xs[x].k), vi x, vd x] ++ rowsF xs vi vd r := rfl
    rw [e, List.getElem?_append_left (by simp; omega)]
    simp
  | x :: r, i + 1, h, s, hs => by
    have e : rowsF xs vi vd (x :: r) = [.int .i64 (xs[x].d), .int .i64 (xs[x].l), .int .u8 (xs[x].k), vi x, vd x] ++ rowsF xs vi vd r := rfl
    rw [e, List.getElem?_append_right (by simp; omega), show (i + 1) * 5 + s - [.int .i64 (xs[x].d), .int .i64 (xs[x].l), .int .u8 (xs[x].k), vi x, vd x].length = i * 5 + s by simp; omega, rowsF_at r i (by simpa using h) s hs]
    simp
theorem ofD_idxs (xs : List Iss) (t : Int) : (idxs xs t).map (fun k => xs[k]) = ofD xs t := by
  unfold idxs ofD
  have hr : xs = (List.finRange xs.length).map fun k => xs[k] := by
    apply List.ext_getElem
    · simp
    · intro i h1 h2
      simp
  conv => rhs; rw [hr]
  rw [List.filter_map]
  rfl
/-- Rows that are told of one's own are rows of issues. -/
theorem rows_at {w : World} {base : Nat} {v : Value} {xs : List Iss} {vi vd : Nat → Value} {t : Int} (h : w.ownsRow base 45 5 v (idxs xs t).length (rowsF xs vi vd (idxs xs t))) {b off : Nat} (hc : IssRow w b off xs vi vd) :
    ∃ A c g, v = .slice A (ofD xs t).length c ∧ (0 < (ofD xs t).length → A = some ⟨g, 0, none⟩) ∧ IssRow w g 0 (ofD xs t) (fun i => vi (((idxs xs t).map (·.1)).getD i 0)) (fun i => vd (((idxs xs t).map (·.1)).getD i 0)) := by
  obtain ⟨A, c, g, hv, hg⟩ := own_form h
  have hl : (ofD xs t).length = (idxs xs t).length := by rw [← ofD_idxs]; simp
  refine ⟨A, c, g, by rw [hl]; exact hv, fun h0 => (hg (by omega)).2.1, fun i hi => ?_⟩
  have hi2 : i < (idxs xs t).length := by omega
  obtain ⟨-, -, cur, hlie, hcur⟩ := hg (by omega)
  have he : (ofD xs t)[i] = xs[(idxs xs t)[i]] := by simp only [← ofD_idxs, List.getElem_map]
  have hn : ((idxs xs t).map (·.1)).getD i 0 = ((idxs xs t)[i]).1 := by simp [List.getD_eq_getElem?_getD, List.getElem?_eq_getElem hi2]
  obtain ⟨-, -, -, -, -, hk, h5, h6, h7, h8⟩ := hc _ ((idxs xs t)[i]).2
  have hcell : ∀ s, s < 5 → w.cell? ⟨g, 0 + i * 5 + s, none⟩ = ([.int .i64 (xs[(idxs xs t)[i]].d), .int .i64 (xs[(idxs xs t)[i]].l), .int .u8 (xs[(idxs xs t)[i]].k), vi (idxs xs t)[i], vd (idxs xs t)[i]] : List Value)[s]? := fun s hs => by
    rw [hlie.cell, Nat.zero_add, hcur _ (by omega), rowsF_at _ i hi2 s hs]
  simp only [he, hn]
  exact ⟨hcell 0 (by omega), hcell 1 (by omega), hcell 2 (by omega), hcell 3 (by omega), hcell 4 (by omega), hk, h5, h6, h7, h8⟩
end Go.Proofs.Ytkjfceajakhlfaa
