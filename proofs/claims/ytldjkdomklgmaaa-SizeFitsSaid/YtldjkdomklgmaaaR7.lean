/- The reference: Room; Room in every case. -/
import Derived.Test.YtldjkdomklgmaaaR6
namespace Go.Proofs.Ytldjkdomklgmaaa
set_option linter.unusedVariables false
set_option linter.unusedSimpArgs false
open Go.RowKit

set_option maxHeartbeats 2000000 in
theorem rRoom_any (n l u lo hi : Int) (w : World) : Calls Try.prog 16 #[.agg #[.int .i64 n, .int .i64 l, .int .i64 u], .agg #[.int .i64 lo, .int .i64 hi]] w (Gives (roomS n l u lo hi) w) := by
  have HD := Lib.hid (fun W => rDim_any n l u W)
  have HW := Lib.hid (fun W => rWanted_any lo hi W)
  unfold roomS
  by_cases h1 : okD n l u = false
  · rw [if_pos h1]
    rw [h1] at HD
    go_enter Try.func16, Try.ntmps16
    go_wp2_with fail
    refine (HD.out _).mono ?_
    rintro e w1 ⟨rfl, hb1⟩
    have s1 := hb1.size; try simp only [World.size_alloc, World.size_setCell, World.size_drew, setRow_size] at s1
    have LR := (Lies.new (u := (w.alloc (.cells #[.int .i64 n, .int .i64 l, .int .i64 u] 23)).alloc (.cells #[.int .i64 lo, .int .i64 hi] 38)) (t := 23) (cs := #[.int .i64 0, .int .i64 0, .int .i64 0]) rfl).after hb1
    simp only [World.size_alloc] at LR
    have HR := Lib.hid LR
    have zR := LR.lt
    obtain ⟨r0, r1, r2, f0, f1, f2⟩ := LR.c3
    clear LR
    go_wp2_with fail
    refine bodyPost_ret (results_cell_tmp Try.results16 _ _ (w.heap.size + 1 + 1) _ _ _ rfl (((HR.out.store 0 _).store 1 _).store 2 _) Try.underlying23 rfl (by kernel_rfl)) rfl ⟨rfl, ?_⟩
    (repeat' (first | (with_reducible exact Below.refl _ _) | (with_reducible assumption) | (with_reducible refine Below.alloc ?_ ?_ _) | (with_reducible refine Below.setCell ?_ ?_ _) | (with_reducible refine below_row ?_ ?_ _) | (with_reducible refine Below.drew ?_) | (with_reducible refine below_drewN ?_ _) | (with_reducible refine Below.trans ?_ (Below.mono (by assumption) ?_)) | (first | exact Nat.le_refl _ | omega | (simp; done) | (simp; omega))))
  · have h1' : okD n l u = true := by simpa using h1
    rw [if_neg h1]
    rw [h1'] at HD
    by_cases h2 : wantS lo hi = false
    · rw [if_pos h2]
      rw [h2] at HW
      go_enter Try.func16, Try.ntmps16
      go_wp2_with fail
      refine (HD.out _).mono ?_
      rintro e w1 ⟨rfl, hb1⟩
      have s1 := hb1.size; try simp only [World.size_alloc, World.size_setCell, World.size_drew, setRow_size] at s1
      have LW := ((Lies.new (u := w.alloc (.cells #[.int .i64 n, .int .i64 l, .int .i64 u] 23)) (t := 38) (cs := #[.int .i64 lo, .int .i64 hi]) rfl).alloc (.cells #[.int .i64 0, .int .i64 0, .int .i64 0] 23)).after hb1
      have LR := (Lies.new (u := (w.alloc (.cells #[.int .i64 n, .int .i64 l, .int .i64 u] 23)).alloc (.cells #[.int .i64 lo, .int .i64 hi] 38)) (t := 23) (cs := #[.int .i64 0, .int .i64 0, .int .i64 0]) rfl).after hb1
      simp only [World.size_alloc] at LW LR
      obtain ⟨c0, c1, -, -⟩ := LW.c2
      go_wp2_with fail
      refine (HW.out _).mono ?_
      rintro e w2 ⟨rfl, hb2⟩
      have s2 := hb2.size; try simp only [World.size_alloc, World.size_setCell, World.size_drew, setRow_size] at s2
      clear c0 c1 LW
      have HR := Lib.hid (LR.after hb2)
      clear LR
      have zR := HR.out.lt
      obtain ⟨r0, r1, r2, f0, f1, f2⟩ := HR.out.c3
      go_wp2_with fail
      refine bodyPost_ret (results_cell_tmp Try.results16 _ _ (w.heap.size + 1 + 1) _ _ _ rfl (((HR.out.store 0 _).store 1 _).store 2 _) Try.underlying23 rfl (by kernel_rfl)) rfl ⟨rfl, ?_⟩
      (repeat' (first | (with_reducible exact Below.refl _ _) | (with_reducible assumption) | (with_reducible refine Below.alloc ?_ ?_ _) | (with_reducible refine Below.setCell ?_ ?_ _) | (with_reducible refine below_row ?_ ?_ _) | (with_reducible refine Below.drew ?_) | (with_reducible refine below_drewN ?_ _) | (with_reducible refine Below.trans ?_ (Below.mono (by assumption) ?_)) | (first | exact Nat.le_refl _ | omega | (simp; done) | (simp; omega))))
    · have h2' : wantS lo hi = true := by simpa using h2
      rw [if_neg h2]
      rw [h2'] at HW
      have HM := Lib.hid (fun W => rroom_any n l u lo hi W h1' h2')
      clear h1 h1' h2 h2'
      generalize roomLo u hi = pL at *
      generalize roomHi l lo = pH at *
      by_cases h3 : pH < pL
      · rw [if_pos h3]
        rw [show decide (pL ≤ pH) = false from by simpa using h3] at HM
        clear h3
        go_enter Try.func16, Try.ntmps16
        go_wp2_with fail
        refine (HD.out _).mono ?_
        rintro e w1 ⟨rfl, hb1⟩
        have s1 := hb1.size; try simp only [World.size_alloc, World.size_setCell, World.size_drew, setRow_size] at s1
        have LA := (((Lies.new (u := w) (t := 23) (cs := #[.int .i64 n, .int .i64 l, .int .i64 u]) rfl).alloc (.cells #[.int .i64 lo, .int .i64 hi] 38)).alloc (.cells #[.int .i64 0, .int .i64 0, .int .i64 0] 23)).after hb1
        have LW := ((Lies.new (u := w.alloc (.cells #[.int .i64 n, .int .i64 l, .int .i64 u] 23)) (t := 38) (cs := #[.int .i64 lo, .int .i64 hi]) rfl).alloc (.cells #[.int .i64 0, .int .i64 0, .int .i64 0] 23)).after hb1
        have LR := (Lies.new (u := (w.alloc (.cells #[.int .i64 n, .int .i64 l, .int .i64 u] 23)).alloc (.cells #[.int .i64 lo, .int .i64 hi] 38)) (t := 23) (cs := #[.int .i64 0, .int .i64 0, .int .i64 0]) rfl).after hb1
        simp only [World.size_alloc] at LW LR
        obtain ⟨c0, c1, -, -⟩ := LW.c2
        go_wp2_with fail
        refine (HW.out _).mono ?_
        rintro e w2 ⟨rfl, hb2⟩
        have s2 := hb2.size; try simp only [World.size_alloc, World.size_setCell, World.size_drew, setRow_size] at s2
        clear c0 c1
        obtain ⟨a0, a1, a2, -, -, -⟩ := (LA.after hb2).c3
        obtain ⟨c0, c1, -, -⟩ := (LW.after hb2).c2
        have zA := (LA.after hb2).lt
        have zW := (LW.after hb2).lt
        go_wp2_with fail
        refine (HM.out _).mono ?_
        rintro e w3 ⟨rfl, hb3⟩
        have s3 := hb3.size; try simp only [World.size_alloc, World.size_setCell, World.size_drew, setRow_size] at s3
        clear a0 a1 a2 c0 c1
        have HR := Lib.hid ((LR.after hb2).after hb3)
        clear LA LW LR
        have zR := HR.out.lt
        obtain ⟨r0, r1, r2, f0, f1, f2⟩ := HR.out.c3
        go_wp2_with fail
        refine bodyPost_ret (results_cell_tmp Try.results16 _ _ (w.heap.size + 1 + 1) _ _ _ rfl ((((HR.out.store 0 _).store 1 _).store 2 _).alloc _) Try.underlying23 rfl (by kernel_rfl)) rfl ⟨rfl, ?_⟩
        (repeat' (first | (with_reducible exact Below.refl _ _) | (with_reducible assumption) | (with_reducible refine Below.alloc ?_ ?_ _) | (with_reducible refine Below.setCell ?_ ?_ _) | (with_reducible refine below_row ?_ ?_ _) | (with_reducible refine Below.drew ?_) | (with_reducible refine below_drewN ?_ _) | (with_reducible refine Below.trans ?_ (Below.mono (by assumption) ?_)) | (first | exact Nat.le_refl _ | omega | (simp; done) | (simp; omega))))
      · rw [if_neg h3]
        rw [show decide (pL ≤ pH) = true from by simpa using h3] at HM
        clear h3
        go_enter Try.func16, Try.ntmps16
        go_wp2_with fail
        refine (HD.out _).mono ?_
        rintro e w1 ⟨rfl, hb1⟩
        have s1 := hb1.size; try simp only [World.size_alloc, World.size_setCell, World.size_drew, setRow_size] at s1
        have LA := (((Lies.new (u := w) (t := 23) (cs := #[.int .i64 n, .int .i64 l, .int .i64 u]) rfl).alloc (.cells #[.int .i64 lo, .int .i64 hi] 38)).alloc (.cells #[.int .i64 0, .int .i64 0, .int .i64 0] 23)).after hb1
        have LW := ((Lies.new (u := w.alloc (.cells #[.int .i64 n, .int .i64 l, .int .i64 u] 23)) (t := 38) (cs := #[.int .i64 lo, .int .i64 hi]) rfl).alloc (.cells #[.int .i64 0, .int .i64 0, .int .i64 0] 23)).after hb1
        have LR := (Lies.new (u := (w.alloc (.cells #[.int .i64 n, .int .i64 l, .int .i64 u] 23)).alloc (.cells #[.int .i64 lo, .int .i64 hi] 38)) (t := 23) (cs := #[.int .i64 0, .int .i64 0, .int .i64 0]) rfl).after hb1
        simp only [World.size_alloc] at LW LR
        obtain ⟨c0, c1, -, -⟩ := LW.c2
        go_wp2_with fail
        refine (HW.out _).mono ?_
        rintro e w2 ⟨rfl, hb2⟩
        have s2 := hb2.size; try simp only [World.size_alloc, World.size_setCell, World.size_drew, setRow_size] at s2
        clear c0 c1
        obtain ⟨a0, a1, a2, -, -, -⟩ := (LA.after hb2).c3
        obtain ⟨c0, c1, -, -⟩ := (LW.after hb2).c2
        have zA := (LA.after hb2).lt
        have zW := (LW.after hb2).lt
        go_wp2_with fail
        refine (HM.out _).mono ?_
        rintro e w3 ⟨rfl, hb3⟩
        have s3 := hb3.size; try simp only [World.size_alloc, World.size_setCell, World.size_drew, setRow_size] at s3
        clear a0 a1 a2 c0 c1
        have HR := Lib.hid ((LR.after hb2).after hb3)
        clear LA LW LR
        have zR := HR.out.lt
        obtain ⟨r0, r1, r2, f0, f1, f2⟩ := HR.out.c3
        go_wp2_with fail
        refine bodyPost_ret (results_cell_tmp Try.results16 _ _ (w.heap.size + 1 + 1) _ _ _ rfl ((((HR.out.store 0 _).store 1 _).store 2 _).alloc _) Try.underlying23 rfl (by kernel_rfl)) rfl ⟨rfl, ?_⟩
        (repeat' (first | (with_reducible exact Below.refl _ _) | (with_reducible assumption) | (with_reducible refine Below.alloc ?_ ?_ _) | (with_reducible refine Below.setCell ?_ ?_ _) | (with_reducible refine below_row ?_ ?_ _) | (with_reducible refine Below.drew ?_) | (with_reducible refine below_drewN ?_ _) | (with_reducible refine Below.trans ?_ (Below.mono (by assumption) ?_)) | (first | exact Nat.le_refl _ | omega | (simp; done) | (simp; omega))))
end Go.Proofs.Ytldjkdomklgmaaa
