/- The reference: Share, a number that is no multiple of the step. -/
import Derived.Test.YtldjkdomklgmaaaS2
namespace Go.Proofs.Ytldjkdomklgmaaa
set_option linter.unusedVariables false
set_option linter.unusedSimpArgs false
open Go.RowKit

set_option maxHeartbeats 2000000 in
theorem rShare_step (nom lo hi un : Int) (w : World) (h1 : allIn 0 1000000000 [nom] = true) (h2 : wantS lo hi = true) (h3 : unitB un = true) (h4 : downS (stepU un) nom ≠ nom) :
    Calls Try.prog 18 #[.int .i64 nom, .agg #[.int .i64 lo, .int .i64 hi], .int .u8 un] w (Gives2 (noTwo 12) w) := by
  have HS := Lib.hid (fun W => rStep_any un W)
  have HN := Lib.hid (fun W => rwithin_any nom 0 1000000000 W)
  have HW := Lib.hid (fun W => rWanted_any lo hi W)
  rw [← in1, h1] at HN
  rw [h2] at HW
  rw [stepR_of h3] at HS
  obtain ⟨n0, n1⟩ : 0 ≤ nom ∧ nom ≤ 1000000000 := by simpa [allIn] using h1
  have hst := stepU_or un
  have hm : ¬ nom % stepU un = 0 := by unfold downS at h4; rcases hst with e | e <;> rw [e] at h4 ⊢ <;> omega
  generalize stepU un = st at *
  clear h1 h2 h3 h4
  rcases hst with rfl | rfl
  all_goals
    go_enter Try.func18, Try.ntmps18
    go_wp2_with fail
    refine (HS.out _).mono ?_
    rintro e w1 ⟨rfl, k1, rfl⟩
    go_wp2_with fail
    refine (HN.out _).mono ?_
    rintro e w1 ⟨rfl, k2, rfl⟩
    go_wp2_with fail
    refine (HW.out _).mono ?_
    rintro e w1 ⟨rfl, hb1⟩
    have s1 : w.heap.size + 1 + 1 + 1 ≤ w1.heap.size := by
      have t : (((w.alloc (.cells #[.int .i64 lo, .int .i64 hi] 38)).alloc (.cells #[.int .i64 0, .int .i64 0, .int .i64 0] 23)).alloc (.cells #[.int .i64 0, .int .i64 0, .int .i64 0] 23)).heap.size ≤ w1.heap.size := hb1.size
      simpa using t
    have LH := ((((Lies.new (u := w.alloc (.cells #[.int .i64 lo, .int .i64 hi] 38)) (t := 23) (cs := #[.int .i64 0, .int .i64 0, .int .i64 0]) rfl).alloc (.cells #[.int .i64 0, .int .i64 0, .int .i64 0] 23)).alloc (.cells #[.int .i64 lo, .int .i64 hi] 38)))
    have HH0 : Lies w1 (w.heap.size + 1) 23 #[.int .i64 0, .int .i64 0, .int .i64 0] := Lies.after (Lies.drewN ((Lies.new (u := w.alloc (.cells #[.int .i64 lo, .int .i64 hi] 38)) (by simp)).alloc (.cells #[.int .i64 0, .int .i64 0, .int .i64 0] 23)) _) hb1
    have HZ0 : Lies w1 (w.heap.size + 1 + 1) 23 #[.int .i64 0, .int .i64 0, .int .i64 0] := Lies.after (Lies.drewN (Lies.new (by simp)) _) hb1
    have HP0 : Lies w1 w.heap.size 38 #[.int .i64 lo, .int .i64 hi] := Lies.after (Lies.drewN (((Lies.made w 38 #[.int .i64 lo, .int .i64 hi]).alloc _).alloc _) _) hb1
    have HH := Lib.hid HH0
    have HZ := Lib.hid HZ0
    have HP := Lib.hid HP0
    have hbw : Below w.heap.size w w1 := by
      have hq : Below w.heap.size w (((w.alloc (.cells #[.int .i64 lo, .int .i64 hi] 38)).alloc (.cells #[.int .i64 0, .int .i64 0, .int .i64 0] 23)).alloc (.cells #[.int .i64 0, .int .i64 0, .int .i64 0] 23)) := by (repeat' (first | (with_reducible exact Below.refl _ _) | (with_reducible assumption) | (with_reducible refine Below.alloc ?_ ?_ _) | (with_reducible refine Below.setCell ?_ ?_ _) | (with_reducible refine below_row ?_ ?_ _) | (with_reducible refine Below.drew ?_) | (with_reducible refine below_drewN ?_ _) | (with_reducible refine Below.trans ?_ (Below.mono (by assumption) ?_)) | (first | exact Nat.le_refl _ | omega | (simp; done) | (simp; omega))))
      exact hq.trans (Below.trans (below_drewN (Below.refl _ _) _) (hb1.mono (show w.heap.size ≤ (((w.alloc (.cells #[.int .i64 lo, .int .i64 hi] 38)).alloc (.cells #[.int .i64 0, .int .i64 0, .int .i64 0] 23)).alloc (.cells #[.int .i64 0, .int .i64 0, .int .i64 0] 23)).heap.size by simp; omega)))
    clear hb1 HH0 HZ0 HP0 LH
    obtain ⟨a0, a1, a2, f0, f1, f2⟩ := HH.out.c3
    obtain ⟨d0, d1, d2, g0, g1, g2⟩ := HZ.out.c3
    obtain ⟨c0, c1, -, -⟩ := HP.out.c2
    go_wp2_with fail
    have FH := ((((((HH.out.store 0 (.int .i64 0)).store 1 (.int .i64 0)).store 2 (.int .i64 0)).other (p := ⟨w.heap.size + 1 + 1, 0, none⟩) (by simp) (.int .i64 0)).other (p := ⟨w.heap.size + 1 + 1, 1, none⟩) (by simp) (.int .i64 0)).other (p := ⟨w.heap.size + 1 + 1, 2, none⟩) (by simp) (.int .i64 0))
    have FS := ((((((HZ.out.other (p := ⟨w.heap.size + 1, 0, none⟩) (by simp) (.int .i64 0)).other (p := ⟨w.heap.size + 1, 1, none⟩) (by simp) (.int .i64 0)).other (p := ⟨w.heap.size + 1, 2, none⟩) (by simp) (.int .i64 0)).store 0 (.int .i64 0)).store 1 (.int .i64 0)).store 2 (.int .i64 0))
    refine bodyPost_ret (v := .tuple #[.agg #[.int .i64 0, .int .i64 0, .int .i64 0], .agg #[.int .i64 0, .int .i64 0, .int .i64 0], .int .i64 12]) (results_cct Try.results18 _ _ (w.heap.size + 1) (w.heap.size + 1 + 1) _ _ _ _ _ _ rfl rfl FH FS Try.underlying23 rfl (by kernel_rfl) Try.underlying23 rfl (by kernel_rfl)) rfl ⟨rfl, ?_⟩
    (repeat' (first | (with_reducible exact Below.refl _ _) | (with_reducible assumption) | (with_reducible refine Below.alloc ?_ ?_ _) | (with_reducible refine Below.setCell ?_ ?_ _) | (with_reducible refine below_row ?_ ?_ _) | (with_reducible refine Below.drew ?_) | (with_reducible refine below_drewN ?_ _) | (with_reducible refine Below.trans ?_ (Below.mono (by assumption) ?_)) | (first | exact Nat.le_refl _ | omega | (simp; done) | (simp; omega))))
end Go.Proofs.Ytldjkdomklgmaaa
