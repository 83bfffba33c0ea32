/- The reference: Clash. -/
import Derived.Test.YthfpjeeedhahbaaUX
namespace Go.Proofs.Ythfpjeeedhahbaa
set_option linter.unusedVariables false
set_option linter.unusedSimpArgs false
open Go.RowKit

/-- What Clash tells. -/
def clashE (xs ys : List Iss) : List (Int × Int) × Int := if bothE xs ys ≠ 0 then ([], bothE xs ys) else (clashR xs ys xs.length, 0)
set_option maxRecDepth 100000 in
set_option maxHeartbeats 4000000 in
theorem rClash_any {vI vJ : Value} {xs ys : List Iss} {w : World} (h : RegAt w vI xs) (h2 : RegAt w vJ ys) : Calls Try.prog 47 #[.agg #[vI], .agg #[vJ]] w (UsesP (clashE xs ys) w) := by
  have HB := Lib.hid (fun W (hW : Below w.heap.size w W) => rBoth_any (h.after hW) (h2.after hW))
  have HC := Lib.hid (fun W (hW : Below w.heap.size w W) => rclash_any (h.after hW) (h2.after hW))
  obtain ⟨A, c, rfl⟩ := h.slice
  obtain ⟨B, e, rfl⟩ := h2.slice
  have LI := Lib.hid ((Lies.made w 24 #[.slice A xs.length c]).alloc (.cells #[.slice B ys.length e] 24))
  have LJ : Hid (Lies ((w.alloc (.cells #[.slice A xs.length c] 24)).alloc (.cells #[.slice B ys.length e] 24)) (w.heap.size + 1) 24 #[.slice B ys.length e]) := Lib.hid (Lies.new (by simp))
  clear h h2
  unfold clashE
  by_cases h0 : bothE xs ys = 0
  · rw [if_neg (by simpa using h0)]
    rw [h0] at HB
    clear h0
    obtain ⟨RR, hRR⟩ : ∃ RR : List (Int × Int) × Int, (clashR xs ys xs.length, (0 : Int)) = RR := ⟨_, rfl⟩
    rw [hRR]
    have HRR := Lib.hid hRR
    clear hRR
    generalize clashR xs ys xs.length = CL at *
    go_enter Try.func47, Try.ntmps47
    go_wp2_with fail
    refine (HB.out _ (by (repeat' (first | (with_reducible first | exact Below.refl _ _ | assumption | refine Below.alloc ?_ ?_ _ | refine Below.setCell ?_ ?_ _ | refine below_row ?_ ?_ _ | refine Below.drew ?_ | refine below_drewN ?_ _ | refine Below.trans ?_ (Below.mono (by assumption) ?_)) | exact Nat.le_refl _ | omega | (simp; done) | (simp; omega) | exact Below.size (by assumption))))).mono ?_
    rintro e1 w1 ⟨rfl, hb1⟩
    have s1 := hb1.size; try simp only [World.size_alloc, World.size_setCell, World.size_drew, setRow_size] at s1
    have LI1 := Lib.hid (LI.out.after hb1)
    have LJ1 := Lib.hid (LJ.out.after hb1)
    have x0 := LI1.out.cell 0
    have y0 := LJ1.out.cell 0
    have zx := LI1.out.lt
    have zy := LJ1.out.lt
    have hbw1 : Below w.heap.size w w1 := by (repeat' (first | (with_reducible first | exact Below.refl _ _ | assumption | refine Below.alloc ?_ ?_ _ | refine Below.setCell ?_ ?_ _ | refine below_row ?_ ?_ _ | refine Below.drew ?_ | refine below_drewN ?_ _ | refine Below.trans ?_ (Below.mono (by assumption) ?_)) | exact Nat.le_refl _ | omega | (simp; done) | (simp; omega) | exact Below.size (by assumption)))
    have hs1 := hbw1.size
    clear hb1
    go_wp2_with fail
    refine (HC.out _ (by (repeat' (first | (with_reducible first | exact Below.refl _ _ | assumption | refine Below.alloc ?_ ?_ _ | refine Below.setCell ?_ ?_ _ | refine below_row ?_ ?_ _ | refine Below.drew ?_ | refine below_drewN ?_ _ | refine Below.trans ?_ (Below.mono (by assumption) ?_)) | exact Nat.le_refl _ | omega | (simp; done) | (simp; omega) | exact Below.size (by assumption))))).mono ?_
    rintro e2 w2 ⟨v2, rfl, hown, hb2⟩
    have hbw2 : Below w.heap.size w w2 := by (repeat' (first | (with_reducible first | exact Below.refl _ _ | assumption | refine Below.alloc ?_ ?_ _ | refine Below.setCell ?_ ?_ _ | refine below_row ?_ ?_ _ | refine Below.drew ?_ | refine below_drewN ?_ _ | refine Below.trans ?_ (Below.mono (by assumption) ?_)) | exact Nat.le_refl _ | omega | (simp; done) | (simp; omega) | exact Below.size (by assumption)))
    have HO := Lib.hid (refs_of_own hown)
    obtain ⟨A5, c5, g5, rfl, -⟩ := own_form hown
    clear hown hb2
    go_wp2_with fail
    go_ret2
    obtain rfl := HRR.out
    exact ⟨_, rfl, HO.out, hbw2⟩
  · rw [if_pos h0]
    have hne : (bothE xs ys != 0) = true := by simpa using h0
    clear h0
    generalize bothE xs ys = be at *
    go_enter Try.func47, Try.ntmps47
    go_wp2_with fail
    refine (HB.out _ (by (repeat' (first | (with_reducible first | exact Below.refl _ _ | assumption | refine Below.alloc ?_ ?_ _ | refine Below.setCell ?_ ?_ _ | refine below_row ?_ ?_ _ | refine Below.drew ?_ | refine below_drewN ?_ _ | refine Below.trans ?_ (Below.mono (by assumption) ?_)) | exact Nat.le_refl _ | omega | (simp; done) | (simp; omega) | exact Below.size (by assumption))))).mono ?_
    rintro e1 w1 ⟨rfl, hb1⟩
    have s1 := hb1.size; try simp only [World.size_alloc, World.size_setCell, World.size_drew, setRow_size] at s1
    go_wp2_with fail
    go_ret2
    exact ⟨.slice none 0 0, rfl, refs_nil _, by (repeat' (first | (with_reducible first | exact Below.refl _ _ | assumption | refine Below.alloc ?_ ?_ _ | refine Below.setCell ?_ ?_ _ | refine below_row ?_ ?_ _ | refine Below.drew ?_ | refine below_drewN ?_ _ | refine Below.trans ?_ (Below.mono (by assumption) ?_)) | exact Nat.le_refl _ | omega | (simp; done) | (simp; omega) | exact Below.size (by assumption)))⟩
end Go.Proofs.Ythfpjeeedhahbaa
