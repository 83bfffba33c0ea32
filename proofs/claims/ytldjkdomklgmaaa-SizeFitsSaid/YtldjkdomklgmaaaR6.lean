/- The reference: room, Room. -/
import Derived.Test.YtldjkdomklgmaaaR5
namespace Go.Proofs.Ytldjkdomklgmaaa
set_option linter.unusedVariables false
set_option linter.unusedSimpArgs false
open Go.RowKit

theorem midE (w : World) (A B : Array Value) (tA tB : TypeId) (x y z : Int) : ∃ W, (((w.alloc (.cells A tA)).alloc (.cells B tB)).alloc (.cells #[.int .i64 0, .int .i64 0, .int .i64 0] 23)).alloc (.cells #[.int .i64 x, .int .i64 y, .int .i64 z] 23) = W ∧ Below w.heap.size w W ∧ Lies W (w.heap.size + 1 + 1) 23 #[.int .i64 0, .int .i64 0, .int .i64 0] ∧ Lies W (w.heap.size + 1 + 1 + 1) 23 #[.int .i64 x, .int .i64 y, .int .i64 z] := by
  refine ⟨_, rfl, ?_, ((Lies.new (by simp)).alloc _), Lies.new (by simp)⟩
  (repeat' (first | (with_reducible exact Below.refl _ _) | (with_reducible assumption) | (with_reducible refine Below.alloc ?_ ?_ _) | (with_reducible refine Below.setCell ?_ ?_ _) | (with_reducible refine below_row ?_ ?_ _) | (with_reducible refine Below.drew ?_) | (with_reducible refine below_drewN ?_ _) | (with_reducible refine Below.trans ?_ (Below.mono (by assumption) ?_)) | (first | exact Nat.le_refl _ | omega | (simp; done) | (simp; omega))))

set_option maxHeartbeats 2000000 in
theorem rroom_any (n l u lo hi : Int) (w : World) (h : okD n l u = true) (hw : wantS lo hi = true) :
    Calls Try.prog 32 #[.agg #[.int .i64 n, .int .i64 l, .int .i64 u], .agg #[.int .i64 lo, .int .i64 hi]] w fun e w' => e = .returned (.tuple #[.agg #[.int .i64 n, .int .i64 (roomLo u hi), .int .i64 (roomHi l lo)], .bool (decide (roomLo u hi ≤ roomHi l lo))]) ∧ Below w.heap.size w w' := by
  obtain ⟨h1, h2, h3, h4, h5⟩ := okD_iff.1 h
  have hww : -1000000000 ≤ lo ∧ lo ≤ hi ∧ hi ≤ 1000000000 := by simpa [wantS] using hw
  obtain ⟨w1', w2', w3'⟩ := hww
  clear h hw
  have e5 : ¬ w.heap.size + 1 + 1 + 1 = w.heap.size + 1 + 1 := by omega
  have e6 : ¬ w.heap.size + 1 + 1 = w.heap.size + 1 + 1 + 1 := by omega
  unfold roomHi roomLo
  by_cases x : hi < u <;> by_cases y : l - lo < 1000000000
  · rw [if_pos x, if_pos y]
    go_enter Try.func32, Try.ntmps32
    go_wp2_with fail
    obtain ⟨W, hW, hb, L1, L2⟩ := midE w #[.int .i64 n, .int .i64 l, .int .i64 u] #[.int .i64 lo, .int .i64 hi] 23 38 n (u - hi) (l - lo)
    rw [hW]
    have H1 := Lib.hid L1
    have H2 := Lib.hid L2
    clear hW L1 L2
    obtain ⟨r0, r1, r2, f0, f1, f2⟩ := H1.out.c3
    obtain ⟨q0, q1, q2, g0, g1, g2⟩ := H2.out.c3
    have z1 := H2.out.lt
    go_region_held3 (fun W => W.cell? ⟨w.heap.size + 1 + 1 + 1, 0, none⟩ = some (.int .i64 n) ∧ W.cell? ⟨w.heap.size + 1 + 1 + 1, 1, none⟩ = some (.int .i64 (u - hi)) ∧ W.cell? ⟨w.heap.size + 1 + 1 + 1, 2, none⟩ = some (.int .i64 (l - lo))) (go_keep) (fail)
    rename_i hHeld
    clear hHeld
    go_wp2_with fail
    refine bodyPost_ret (results_cell_tmp Try.results32 _ _ (w.heap.size + 1 + 1) _ _ _ rfl ((((H1.out.store 0 _).store 1 _).store 2 _).drew) Try.underlying23 rfl (by kernel_rfl)) rfl ⟨?_, ?_⟩
    · first | rfl | (simp; done)
    · (repeat' (first | (with_reducible exact Below.refl _ _) | (with_reducible assumption) | (with_reducible refine Below.alloc ?_ ?_ _) | (with_reducible refine Below.setCell ?_ ?_ _) | (with_reducible refine below_row ?_ ?_ _) | (with_reducible refine Below.drew ?_) | (with_reducible refine below_drewN ?_ _) | (with_reducible refine Below.trans ?_ (Below.mono (by assumption) ?_)) | (first | exact Nat.le_refl _ | omega | (simp; done) | (simp; omega))))
  · rw [if_pos x, if_neg y]
    go_enter Try.func32, Try.ntmps32
    go_wp2_with fail
    obtain ⟨W, hW, hb, L1, L2⟩ := midE w #[.int .i64 n, .int .i64 l, .int .i64 u] #[.int .i64 lo, .int .i64 hi] 23 38 n (u - hi) (1000000000)
    rw [hW]
    have H1 := Lib.hid L1
    have H2 := Lib.hid L2
    clear hW L1 L2
    obtain ⟨r0, r1, r2, f0, f1, f2⟩ := H1.out.c3
    obtain ⟨q0, q1, q2, g0, g1, g2⟩ := H2.out.c3
    have z1 := H2.out.lt
    go_region_held3 (fun W => W.cell? ⟨w.heap.size + 1 + 1 + 1, 0, none⟩ = some (.int .i64 n) ∧ W.cell? ⟨w.heap.size + 1 + 1 + 1, 1, none⟩ = some (.int .i64 (u - hi)) ∧ W.cell? ⟨w.heap.size + 1 + 1 + 1, 2, none⟩ = some (.int .i64 1000000000)) (go_keep) (fail)
    rename_i hHeld
    clear hHeld
    go_wp2_with fail
    refine bodyPost_ret (results_cell_tmp Try.results32 _ _ (w.heap.size + 1 + 1) _ _ _ rfl ((((H1.out.store 0 _).store 1 _).store 2 _).drew) Try.underlying23 rfl (by kernel_rfl)) rfl ⟨?_, ?_⟩
    · first | rfl | (simp; done)
    · (repeat' (first | (with_reducible exact Below.refl _ _) | (with_reducible assumption) | (with_reducible refine Below.alloc ?_ ?_ _) | (with_reducible refine Below.setCell ?_ ?_ _) | (with_reducible refine below_row ?_ ?_ _) | (with_reducible refine Below.drew ?_) | (with_reducible refine below_drewN ?_ _) | (with_reducible refine Below.trans ?_ (Below.mono (by assumption) ?_)) | (first | exact Nat.le_refl _ | omega | (simp; done) | (simp; omega))))
  · rw [if_neg x, if_pos y]
    go_enter Try.func32, Try.ntmps32
    go_wp2_with fail
    obtain ⟨W, hW, hb, L1, L2⟩ := midE w #[.int .i64 n, .int .i64 l, .int .i64 u] #[.int .i64 lo, .int .i64 hi] 23 38 n (0) (l - lo)
    rw [hW]
    have H1 := Lib.hid L1
    have H2 := Lib.hid L2
    clear hW L1 L2
    obtain ⟨r0, r1, r2, f0, f1, f2⟩ := H1.out.c3
    obtain ⟨q0, q1, q2, g0, g1, g2⟩ := H2.out.c3
    have z1 := H2.out.lt
    go_region_held3 (fun W => W.cell? ⟨w.heap.size + 1 + 1 + 1, 0, none⟩ = some (.int .i64 n) ∧ W.cell? ⟨w.heap.size + 1 + 1 + 1, 1, none⟩ = some (.int .i64 0) ∧ W.cell? ⟨w.heap.size + 1 + 1 + 1, 2, none⟩ = some (.int .i64 (l - lo))) (go_keep) (fail)
    rename_i hHeld
    clear hHeld
    go_wp2_with fail
    refine bodyPost_ret (results_cell_tmp Try.results32 _ _ (w.heap.size + 1 + 1) _ _ _ rfl ((((H1.out.store 0 _).store 1 _).store 2 _).drew) Try.underlying23 rfl (by kernel_rfl)) rfl ⟨?_, ?_⟩
    · first | rfl | (simp; done)
    · (repeat' (first | (with_reducible exact Below.refl _ _) | (with_reducible assumption) | (with_reducible refine Below.alloc ?_ ?_ _) | (with_reducible refine Below.setCell ?_ ?_ _) | (with_reducible refine below_row ?_ ?_ _) | (with_reducible refine Below.drew ?_) | (with_reducible refine below_drewN ?_ _) | (with_reducible refine Below.trans ?_ (Below.mono (by assumption) ?_)) | (first | exact Nat.le_refl _ | omega | (simp; done) | (simp; omega))))
  · rw [if_neg x, if_neg y]
    go_enter Try.func32, Try.ntmps32
    go_wp2_with fail
    obtain ⟨W, hW, hb, L1, L2⟩ := midE w #[.int .i64 n, .int .i64 l, .int .i64 u] #[.int .i64 lo, .int .i64 hi] 23 38 n (0) (1000000000)
    rw [hW]
    have H1 := Lib.hid L1
    have H2 := Lib.hid L2
    clear hW L1 L2
    obtain ⟨r0, r1, r2, f0, f1, f2⟩ := H1.out.c3
    obtain ⟨q0, q1, q2, g0, g1, g2⟩ := H2.out.c3
    have z1 := H2.out.lt
    go_region_held3 (fun W => W.cell? ⟨w.heap.size + 1 + 1 + 1, 0, none⟩ = some (.int .i64 n) ∧ W.cell? ⟨w.heap.size + 1 + 1 + 1, 1, none⟩ = some (.int .i64 0) ∧ W.cell? ⟨w.heap.size + 1 + 1 + 1, 2, none⟩ = some (.int .i64 1000000000)) (go_keep) (fail)
    rename_i hHeld
    clear hHeld
    go_wp2_with fail
    refine bodyPost_ret (results_cell_tmp Try.results32 _ _ (w.heap.size + 1 + 1) _ _ _ rfl ((((H1.out.store 0 _).store 1 _).store 2 _).drew) Try.underlying23 rfl (by kernel_rfl)) rfl ⟨?_, ?_⟩
    · first | rfl | (simp; done)
    · (repeat' (first | (with_reducible exact Below.refl _ _) | (with_reducible assumption) | (with_reducible refine Below.alloc ?_ ?_ _) | (with_reducible refine Below.setCell ?_ ?_ _) | (with_reducible refine below_row ?_ ?_ _) | (with_reducible refine Below.drew ?_) | (with_reducible refine below_drewN ?_ _) | (with_reducible refine Below.trans ?_ (Below.mono (by assumption) ?_)) | (first | exact Nat.le_refl _ | omega | (simp; done) | (simp; omega))))
end Go.Proofs.Ytldjkdomklgmaaa
