/- The reference: within, Dim, Wanted. -/
import Derived.Test.YtjejjeomknkglaaDoorB1
import Derived.Test.YtjejjeomknkglaaDoorA3
namespace Go.Proofs.YtjejjeomknkglaaDoor
set_option linter.unusedVariables false
set_option linter.unusedSimpArgs false
open Go.RowKit

set_option maxHeartbeats 400000 in
theorem rwithin_any (n lo hi : Int) (w : World) :
    Calls Tryd.prog 43 #[.int .i64 n, .int .i64 lo, .int .i64 hi] w (Quietly (.bool (decide (lo ≤ n ∧ n ≤ hi))) w) := by
  obtain ⟨r, hr⟩ : ∃ r, decide (lo ≤ n ∧ n ≤ hi) = r := ⟨_, rfl⟩
  rw [hr]
  have HR := Lib.hid hr; clear hr
  by_cases h1 : lo ≤ n
  · by_cases h2 : n ≤ hi
    · obtain rfl : true = r := by rw [← HR.out]; simp [h1, h2]
      go_enter Tryd.func43, Tryd.ntmps43
      go_wp2
      go_ret
      exact ⟨rfl, 0, rfl⟩
    · obtain rfl : false = r := by rw [← HR.out]; simp [h2]
      have h2' : hi < n := by omega
      go_enter Tryd.func43, Tryd.ntmps43
      go_wp2
      go_ret
      exact ⟨rfl, 0, rfl⟩
  · obtain rfl : false = r := by rw [← HR.out]; simp [h1]
    have h1' : n < lo := by omega
    go_enter Tryd.func43, Tryd.ntmps43
    go_wp2
    go_ret
    exact ⟨rfl, 0, rfl⟩

set_option maxHeartbeats 1000000 in
theorem rDim_any (n l u : Int) (w : World) :
    Calls Tryd.prog 17 #[.agg #[.int .i64 n, .int .i64 l, .int .i64 u]] w fun e w' => e = .returned (.bool (okD n l u)) ∧ Below w.heap.size w w' := by
  have HN := Lib.hid (fun W => rwithin_any n 0 1000000000 W)
  have HU := Lib.hid (fun W => rwithin_any u 0 1000000000 W)
  have HL := Lib.hid (fun W => rwithin_any l 0 u W)
  have hk : okD n l u = (decide (0 ≤ n ∧ n ≤ 1000000000) && decide (0 ≤ u ∧ u ≤ 1000000000) && decide (0 ≤ l ∧ l ≤ u)) := by
    rw [Bool.eq_iff_iff]; simp [okD]; omega
  rw [hk]
  generalize decide (0 ≤ n ∧ n ≤ 1000000000) = a at *
  generalize decide (0 ≤ u ∧ u ≤ 1000000000) = b at *
  generalize decide (0 ≤ l ∧ l ≤ u) = c at *
  clear hk
  cases a <;> cases b
  all_goals
    go_enter Tryd.func17, Tryd.ntmps17
    go_wp2_with fail
    refine (HN.out _).mono ?_
    rintro e w1 ⟨rfl, k, rfl⟩
    go_wp2_with fail
    try
      refine (HU.out _).mono ?_
      rintro e w1 ⟨rfl, k2, rfl⟩
      go_wp2_with fail
    try
      refine (HL.out _).mono ?_
      rintro e w1 ⟨rfl, k3, rfl⟩
      go_wp2_with fail
    go_ret
    exact ⟨rfl, by (repeat' (first | (with_reducible exact Below.refl _ _) | (with_reducible assumption) | (with_reducible refine Below.alloc ?_ ?_ _) | (with_reducible refine Below.setCell ?_ ?_ _) | (with_reducible refine below_row ?_ ?_ _) | (with_reducible refine Below.drew ?_) | (with_reducible refine below_drewN ?_ _) | (with_reducible refine Below.trans ?_ (Below.mono (by assumption) ?_)) | (first | exact Nat.le_refl _ | omega | (simp; done) | (simp; omega))))⟩

end Go.Proofs.YtjejjeomknkglaaDoor
