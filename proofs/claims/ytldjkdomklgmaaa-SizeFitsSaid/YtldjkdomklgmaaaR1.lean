/- The reference: within, Dim, Step, above, Again. -/
import Derived.Test.YtldjkdomklgmaaaC4
import Derived.Test.YtldjkdomklgmaaaR0
import Derived.Deep.RegionHeld3
namespace Go.Proofs.Ytldjkdomklgmaaa
set_option linter.unusedVariables false
set_option linter.unusedSimpArgs false
open Go.RowKit

/-- The step of a unit; 0 if it is none. -/
def stepR (un : Int) : Int := if un = 1 then 100 else if un = 2 then 254 else 0
set_option maxHeartbeats 400000 in
theorem rStep_any (un : Int) (w : World) :
    Calls Try.prog 23 #[.int .u8 un] w (Quietly (.int .i64 (stepR un)) w) := by
  by_cases h1 : un = 1
  · subst h1
    go_enter Try.func23, Try.ntmps23
    go_wp2
    go_ret
    exact ⟨rfl, 0, rfl⟩
  · by_cases h2 : un = 2
    · subst h2
      go_enter Try.func23, Try.ntmps23
      go_wp2
      go_ret
      exact ⟨rfl, 0, rfl⟩
    · rw [show stepR un = 0 from by rw [stepR, if_neg h1, if_neg h2]]
      have b1 : (un == 1) = false := by simpa using h1
      have b2 : (un == 2) = false := by simpa using h2
      go_enter Try.func23, Try.ntmps23
      go_wp2
      go_ret
      exact ⟨rfl, 0, rfl⟩
set_option maxHeartbeats 400000 in
theorem rabove_any (n st : Int) (w : World) (h0 : 0 ≤ n) (h1 : n ≤ 1000000000000) (hst : st = 100 ∨ st = 254) :
    Calls Try.prog 35 #[.int .i64 n, .int .i64 st] w (Quietly (.int .i64 (upS st n)) w) := by
  rcases hst with rfl | rfl
  all_goals
    go_enter Try.func35, Try.ntmps35
    go_wp2
    go_ret
    exact ⟨ret_int rfl, 0, rfl⟩

theorem wq {u st : Int} (u0 : 0 ≤ u) (u1 : u ≤ 1000000000000) (hst : st = 100 ∨ st = 254) : IntKind.i64.wrap (IntKind.i64.wrap (u.tdiv st) * st) = downS st u := by
  obtain ⟨d0, d1, d2⟩ := downS_bd u0 hst
  unfold downS at *
  rw [Int.tdiv_eq_ediv_of_nonneg u0, IntWalk.i64_left, IntWalk.i64_left, IntWalk.wrap64_in (u / st) (by rcases hst with rfl | rfl <;> omega)]
  exact IntWalk.wrap64_in _ (by omega)

/-- Drawn again by a step. -/
def againR (st n l u : Int) (w : World) (e : Ending) (w' : World) : Prop :=
  e = .returned (.tuple #[.agg #[.int .i64 (nearS st n), .int .i64 (upS st l), .int .i64 (downS st u)], .bool (decide (upS st l ≤ downS st u))]) ∧ Below w.heap.size w w'

theorem mid1 (w : World) (n l u x y z : Int) (k : Nat) : ∃ W, (((w.alloc (.cells #[.int .i64 n, .int .i64 l, .int .i64 u] 23)).alloc (.cells #[.int .i64 0, .int .i64 0, .int .i64 0] 23)).drewN (1 + k)).alloc (.cells #[.int .i64 x, .int .i64 y, .int .i64 z] 23) = W ∧ Below w.heap.size w W ∧ Lies W (w.heap.size + 1) 23 #[.int .i64 0, .int .i64 0, .int .i64 0] ∧ Lies W (w.heap.size + 1 + 1) 23 #[.int .i64 x, .int .i64 y, .int .i64 z] := by
  refine ⟨_, rfl, ?_, (((Lies.new (by simp)).drewN _).alloc _), Lies.new (by simp)⟩
  (repeat' (first | (with_reducible exact Below.refl _ _) | (with_reducible assumption) | (with_reducible refine Below.alloc ?_ ?_ _) | (with_reducible refine Below.setCell ?_ ?_ _) | (with_reducible refine below_row ?_ ?_ _) | (with_reducible refine Below.drew ?_) | (with_reducible refine below_drewN ?_ _) | (with_reducible refine Below.trans ?_ (Below.mono (by assumption) ?_)) | (first | exact Nat.le_refl _ | omega | (simp; done) | (simp; omega))))
theorem mid2 (w : World) (n l u x y z : Int) (k : Nat) : ∃ W, ((((((w.alloc (.cells #[.int .i64 n, .int .i64 l, .int .i64 u] 23)).alloc (.cells #[.int .i64 0, .int .i64 0, .int .i64 0] 23)).alloc (.cells #[.int .i64 0, .int .i64 0, .int .i64 0] 23)).drewN (1 + k)).setCell ⟨w.heap.size + 1 + 1, 0, none⟩ (.int .i64 x)).setCell ⟨w.heap.size + 1 + 1, 1, none⟩ (.int .i64 y)).setCell ⟨w.heap.size + 1 + 1, 2, none⟩ (.int .i64 z) = W ∧ Below w.heap.size w W ∧ Lies W (w.heap.size + 1) 23 #[.int .i64 0, .int .i64 0, .int .i64 0] ∧ Lies W (w.heap.size + 1 + 1) 23 #[.int .i64 x, .int .i64 y, .int .i64 z] := by
  refine ⟨_, rfl, ?_, (((((Lies.new (by simp)).alloc _).drewN _).other (by simp) _).other (by simp) _).other (by simp) _, ((((Lies.new (cs := #[.int .i64 0, .int .i64 0, .int .i64 0]) (by simp)).drewN _).store 0 _).store 1 _).store 2 _⟩
  (repeat' (first | (with_reducible exact Below.refl _ _) | (with_reducible assumption) | (with_reducible refine Below.alloc ?_ ?_ _) | (with_reducible refine Below.setCell ?_ ?_ _) | (with_reducible refine below_row ?_ ?_ _) | (with_reducible refine Below.drew ?_) | (with_reducible refine below_drewN ?_ _) | (with_reducible refine Below.trans ?_ (Below.mono (by assumption) ?_)) | (first | exact Nat.le_refl _ | omega | (simp; done) | (simp; omega))))

set_option maxHeartbeats 2000000 in
theorem rAgain_any (n l u st : Int) (w : World) (n0 : 0 ≤ n) (n1 : n ≤ 1000000000) (l0 : 0 ≤ l) (l1 : l ≤ 1000000000) (u0 : 0 ≤ u) (u1 : u ≤ 1000000000) (hst : st = 100 ∨ st = 254) :
    Calls Try.prog 24 #[.agg #[.int .i64 n, .int .i64 l, .int .i64 u], .int .i64 st] w (againR st n l u w) := by
  have HA := Lib.hid (fun W => rabove_any l st W l0 (by omega) hst)
  have hn := nearS_cases st n
  obtain ⟨d0, d1, d2⟩ := downS_bd n0 hst
  obtain ⟨e0, e1, e2⟩ := downS_bd u0 hst
  obtain ⟨f0, f1⟩ := upS_bd l0 hst
  have g1 : n / st * st = downS st n := rfl
  have g2 : u / st * st = downS st u := rfl
  unfold againR
  generalize upS st l = y at *
  have hn' : (downS st n + st - n < n - downS st n ∧ downS st n + st ≤ 1000000000 ∧ nearS st n = downS st n + st) ∨ (downS st n + st - n < n - downS st n ∧ 1000000000 < downS st n + st ∧ nearS st n = downS st n) ∨ (n - downS st n ≤ downS st n + st - n ∧ downS st n + st ≤ 1000000000 ∧ nearS st n = downS st n) ∨ (n - downS st n ≤ downS st n + st - n ∧ 1000000000 < downS st n + st ∧ nearS st n = downS st n) := by omega
  have hq := wq u0 (by omega) hst
  clear hn
  generalize nearS st n = x at *
  generalize downS st u = z at *
  have HQ := Lib.hid hq
  clear hq
  have e1 : ¬ w.heap.size + 1 + 1 = w.heap.size := by omega
  have e2 : ¬ w.heap.size = w.heap.size + 1 + 1 := by omega
  have e3 : ¬ w.heap.size + 1 = w.heap.size := by omega
  have e4 : ¬ w.heap.size = w.heap.size + 1 := by omega
  rcases hst with rfl | rfl <;> rcases hn' with ⟨k1, k2, hn⟩ | ⟨k1, k2, hn⟩ | ⟨k1, k2, hn⟩ | ⟨k1, k2, hn⟩
  all_goals try (exfalso; omega)
  all_goals
    have HX := Lib.hid hn
    clear hn
    go_enter Try.func24, Try.ntmps24
    go_wp2_with fail
    go_region_held3 (fun W => W.cell? ⟨w.heap.size, 1, none⟩ = some (.int .i64 l) ∧ W.cell? ⟨w.heap.size, 2, none⟩ = some (.int .i64 u)) (go_keep)
      (first | (go_at_call 35; refine (HA.out _).mono ?_; rintro e w' ⟨rfl, k, rfl⟩))
    all_goals
      rename_i hHeld
      clear hHeld
      rw [← HX.out]
      simp only [HQ.out]
      first
        | (obtain ⟨W, hW, hb, L1, L2⟩ := mid1 w n l u x y z k; rw [hW])
        | (obtain ⟨W, hW, hb, L1, L2⟩ := mid2 w n l u x y z k; rw [hW])
      clear hW
      have H1 := Lib.hid L1
      have H2 := Lib.hid L2
      clear L1 L2
      obtain ⟨r0, r1, r2, f0, f1, f2⟩ := H1.out.c3
      obtain ⟨q0, q1, q2, g0, g1', g2'⟩ := H2.out.c3
      have z1 := H2.out.lt
      have e5 : ¬ w.heap.size + 1 + 1 = w.heap.size + 1 := by omega
      have e6 : ¬ w.heap.size + 1 = w.heap.size + 1 + 1 := by omega
      clear HX HQ HA
      go_wp2_with fail
      go_region_held3 (fun W => W.cell? ⟨w.heap.size + 1 + 1, 0, none⟩ = some (.int .i64 x) ∧ W.cell? ⟨w.heap.size + 1 + 1, 1, none⟩ = some (.int .i64 y) ∧ W.cell? ⟨w.heap.size + 1 + 1, 2, none⟩ = some (.int .i64 z)) (go_keep) (fail)
      rename_i hHeld
      clear hHeld
      go_wp2_with fail
      refine bodyPost_ret (results_cell_tmp Try.results24 _ _ (w.heap.size + 1) _ _ _ rfl ((((H1.out.store 0 _).store 1 _).store 2 _).drew) Try.underlying23 rfl (by kernel_rfl)) rfl ⟨rfl, ?_⟩
      (repeat' (first | (with_reducible exact Below.refl _ _) | (with_reducible assumption) | (with_reducible refine Below.alloc ?_ ?_ _) | (with_reducible refine Below.setCell ?_ ?_ _) | (with_reducible refine below_row ?_ ?_ _) | (with_reducible refine Below.drew ?_) | (with_reducible refine below_drewN ?_ _) | (with_reducible refine Below.trans ?_ (Below.mono (by assumption) ?_)) | (first | exact Nat.le_refl _ | omega | (simp; done) | (simp; omega))))
end Go.Proofs.Ytldjkdomklgmaaa
