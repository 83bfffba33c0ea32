/- The reference: Convert, Redraw, Lost. -/
import Derived.Test.YtldjkdomklgmaaaR1
import Derived.Deep.RegionHeld3
namespace Go.Proofs.Ytldjkdomklgmaaa
set_option linter.unusedVariables false
set_option linter.unusedSimpArgs false
open Go.RowKit

/-- One drawing by a unit, as the reference tells it. -/
def convR (un n l u : Int) : D3 × Int :=
  if okD n l u = false then ((0, 0, 0), 10) else if unitB un = false then ((0, 0, 0), 11) else if downS (stepU un) u < upS (stepU un) l then ((0, 0, 0), 6) else ((nearS (stepU un) n, upS (stepU un) l, downS (stepU un) u), 0)
theorem convR_eq (un n l u : Int) : convR un n l u = convS un n l u := by
  unfold convR convS redrawS
  by_cases h1 : okD n l u = false
  · rw [if_pos h1, if_pos h1]
  · rw [if_neg h1, if_neg h1, if_neg (show ¬ 20 < [un].length by simp), show allU [un] = unitB un by simp [allU]]
    by_cases h2 : unitB un = false
    · rw [if_pos h2, if_pos h2]
    · rw [if_neg h2, if_neg h2]
      by_cases h3 : downS (stepU un) u < upS (stepU un) l
      · rw [if_pos h3, show foldD [un] (n, l, u) = none from if_pos h3]
      · rw [if_neg h3, show foldD [un] (n, l, u) = some (stepD un (n, l, u)) from if_neg h3]; rfl
theorem stepR_of {un : Int} (h : unitB un = true) : stepR un = stepU un := by
  have h' : un = 1 ∨ un = 2 := by simpa [unitB] using h
  rcases h' with rfl | rfl <;> rfl
theorem stepR_no {un : Int} (h : unitB un = false) : stepR un = 0 := by
  have h' : ¬ un = 1 ∧ ¬ un = 2 := by simpa [unitB] using h
  unfold stepR; rw [if_neg h'.1, if_neg h'.2]

theorem midA (w w' : World) (x y z : Int) (h4 : Lies w' (w.heap.size + 1) 23 #[.int .i64 0, .int .i64 0, .int .i64 0]) (hb : Below w.heap.size w w') : ∃ W, w'.alloc (.cells #[.int .i64 x, .int .i64 y, .int .i64 z] 23) = W ∧ Below w.heap.size w W ∧ Lies W (w.heap.size + 1) 23 #[.int .i64 0, .int .i64 0, .int .i64 0] ∧ Lies W w'.heap.size 23 #[.int .i64 x, .int .i64 y, .int .i64 z] :=
  ⟨_, rfl, hb.alloc hb.size _, h4.alloc _, Lies.made _ _ _⟩
theorem midB (w w' : World) (x y z : Int) (g : Nat) (h4 : Lies w' (w.heap.size + 1) 23 #[.int .i64 0, .int .i64 0, .int .i64 0]) (hb : Below w.heap.size w w') (hg : w.heap.size + 1 < g) (h6 : Lies w' g 23 #[.int .i64 0, .int .i64 0, .int .i64 0]) : ∃ W, ((w'.setCell ⟨g, 0, none⟩ (.int .i64 x)).setCell ⟨g, 1, none⟩ (.int .i64 y)).setCell ⟨g, 2, none⟩ (.int .i64 z) = W ∧ Below w.heap.size w W ∧ Lies W (w.heap.size + 1) 23 #[.int .i64 0, .int .i64 0, .int .i64 0] ∧ Lies W g 23 #[.int .i64 x, .int .i64 y, .int .i64 z] := by
  refine ⟨_, rfl, ?_, ((h4.other (by show _ ≠ g; omega) _).other (by show _ ≠ g; omega) _).other (by show _ ≠ g; omega) _, ((h6.store 0 _).store 1 _).store 2 _⟩
  (repeat' (first | (with_reducible exact Below.refl _ _) | (with_reducible assumption) | (with_reducible refine Below.alloc ?_ ?_ _) | (with_reducible refine Below.setCell ?_ ?_ _) | (with_reducible refine below_row ?_ ?_ _) | (with_reducible refine Below.drew ?_) | (with_reducible refine below_drewN ?_ _) | (with_reducible refine Below.trans ?_ (Below.mono (by assumption) ?_)) | (first | exact Nat.le_refl _ | omega | (simp; done) | (simp; omega))))

set_option maxHeartbeats 2000000 in
theorem rConvert_any (un n l u : Int) (w : World) :
    Calls Try.prog 6 #[.agg #[.int .i64 n, .int .i64 l, .int .i64 u], .int .u8 un] w (Gives (convS un n l u) w) := by
  rw [← convR_eq]
  have HD := Lib.hid (fun W => rDim_any n l u W)
  have HS := Lib.hid (fun W => rStep_any un W)
  unfold convR
  by_cases h1 : okD n l u = false
  · rw [h1] at HD
    rw [if_pos h1]
    go_enter Try.func6, Try.ntmps6
    go_wp2_with fail
    refine (HD.out _).mono ?_
    rintro e w1 ⟨rfl, hb1⟩
    have s1 := hb1.size; try simp only [World.size_alloc, World.size_setCell, World.size_drew, setRow_size] at s1
    have L4 := (Lies.new (u := w.alloc (.cells #[.int .i64 n, .int .i64 l, .int .i64 u] 23)) (t := 23) (cs := #[.int .i64 0, .int .i64 0, .int .i64 0]) rfl).after hb1
    have LD := ((Lies.new (u := w) (t := 23) (cs := #[.int .i64 n, .int .i64 l, .int .i64 u]) rfl).alloc (.cells #[.int .i64 0, .int .i64 0, .int .i64 0] 23)).after hb1
    simp only [World.size_alloc] at L4
    have H4 := Lib.hid L4
    have zd := L4.lt
    obtain ⟨r0, r1, r2, f0, f1, f2⟩ := L4.c3
    obtain ⟨p0, p1, p2, -, -, -⟩ := LD.c3
    clear L4 LD
    go_wp2_with fail
    refine bodyPost_ret (results_cell_tmp Try.results6 _ _ (w.heap.size + 1) _ _ _ rfl (((H4.out.store 0 _).store 1 _).store 2 _) Try.underlying23 rfl (by kernel_rfl)) rfl ⟨rfl, ?_⟩
    (repeat' (first | (with_reducible exact Below.refl _ _) | (with_reducible assumption) | (with_reducible refine Below.alloc ?_ ?_ _) | (with_reducible refine Below.setCell ?_ ?_ _) | (with_reducible refine below_row ?_ ?_ _) | (with_reducible refine Below.drew ?_) | (with_reducible refine below_drewN ?_ _) | (with_reducible refine Below.trans ?_ (Below.mono (by assumption) ?_)) | (first | exact Nat.le_refl _ | omega | (simp; done) | (simp; omega))))
  · have h1' : okD n l u = true := by simpa using h1
    rw [h1'] at HD
    rw [if_neg h1]
    by_cases h2 : unitB un = false
    · rw [if_pos h2]
      rw [stepR_no h2] at HS
      go_enter Try.func6, Try.ntmps6
      go_wp2_with fail
      refine (HD.out _).mono ?_
      rintro e w1 ⟨rfl, hb1⟩
      have s1 := hb1.size; try simp only [World.size_alloc, World.size_setCell, World.size_drew, setRow_size] at s1
      have L4 := (Lies.new (u := w.alloc (.cells #[.int .i64 n, .int .i64 l, .int .i64 u] 23)) (t := 23) (cs := #[.int .i64 0, .int .i64 0, .int .i64 0]) rfl).after hb1
      have LD := ((Lies.new (u := w) (t := 23) (cs := #[.int .i64 n, .int .i64 l, .int .i64 u]) rfl).alloc (.cells #[.int .i64 0, .int .i64 0, .int .i64 0] 23)).after hb1
      simp only [World.size_alloc] at L4
      have H4 := Lib.hid L4
      have zd := L4.lt
      obtain ⟨r0, r1, r2, f0, f1, f2⟩ := L4.c3
      obtain ⟨p0, p1, p2, -, -, -⟩ := LD.c3
      clear L4 LD
      go_wp2_with fail
      refine (HS.out _).mono ?_
      rintro e w2 ⟨rfl, k2, rfl⟩
      go_wp2_with fail
      refine bodyPost_ret (results_cell_tmp Try.results6 _ _ (w.heap.size + 1) _ _ _ rfl ((((H4.out.drewN _).store 0 _).store 1 _).store 2 _) Try.underlying23 rfl (by kernel_rfl)) rfl ⟨rfl, ?_⟩
      (repeat' (first | (with_reducible exact Below.refl _ _) | (with_reducible assumption) | (with_reducible refine Below.alloc ?_ ?_ _) | (with_reducible refine Below.setCell ?_ ?_ _) | (with_reducible refine below_row ?_ ?_ _) | (with_reducible refine Below.drew ?_) | (with_reducible refine below_drewN ?_ _) | (with_reducible refine Below.trans ?_ (Below.mono (by assumption) ?_)) | (first | exact Nat.le_refl _ | omega | (simp; done) | (simp; omega))))
    · have h2' : unitB un = true := by simpa using h2
      rw [if_neg h2]
      rw [stepR_of h2'] at HS
      have hst := stepU_or un
      obtain ⟨b1, b2, b3, b4, b5⟩ := okD_iff.1 h1'
      have HA := Lib.hid (fun W => rAgain_any n l u (stepU un) W b1 b2 b3 (by omega) (by omega) b5 hst)
      unfold againR at HA
      have s0 : ¬ stepU un = 0 := by omega
      have s0' : (stepU un == 0) = false := by simpa using s0
      generalize stepU un = st at *
      generalize nearS st n = x at *
      generalize upS st l = y at *
      generalize downS st u = z at *
      clear h1 h1' h2 h2' hst b1 b2 b3 b4 b5
      by_cases hz : z < y
      · rw [if_pos hz]
        rw [show decide (y ≤ z) = false from by simpa using hz] at HA
        clear hz
        go_enter Try.func6, Try.ntmps6
        go_wp2_with fail
        refine (HD.out _).mono ?_
        rintro e w1 ⟨rfl, hb1⟩
        have s1 := hb1.size; try simp only [World.size_alloc, World.size_setCell, World.size_drew, setRow_size] at s1
        have L4 := (Lies.new (u := w.alloc (.cells #[.int .i64 n, .int .i64 l, .int .i64 u] 23)) (t := 23) (cs := #[.int .i64 0, .int .i64 0, .int .i64 0]) rfl).after hb1
        have LD := ((Lies.new (u := w) (t := 23) (cs := #[.int .i64 n, .int .i64 l, .int .i64 u]) rfl).alloc (.cells #[.int .i64 0, .int .i64 0, .int .i64 0] 23)).after hb1
        simp only [World.size_alloc] at L4
        have H4 := Lib.hid L4
        have zd := L4.lt
        obtain ⟨r0, r1, r2, f0, f1, f2⟩ := L4.c3
        obtain ⟨p0, p1, p2, -, -, -⟩ := LD.c3
        clear L4 LD
        go_wp2_with fail
        refine (HS.out _).mono ?_
        rintro e w2 ⟨rfl, k2, rfl⟩
        go_wp2_with fail
        have e1 : ¬ w1.heap.size = w.heap.size := by omega
        have e2 : ¬ w.heap.size = w1.heap.size := by omega
        have hbw : Below w.heap.size w w1 := by (repeat' (first | (with_reducible exact Below.refl _ _) | (with_reducible assumption) | (with_reducible refine Below.alloc ?_ ?_ _) | (with_reducible refine Below.setCell ?_ ?_ _) | (with_reducible refine below_row ?_ ?_ _) | (with_reducible refine Below.drew ?_) | (with_reducible refine below_drewN ?_ _) | (with_reducible refine Below.trans ?_ (Below.mono (by assumption) ?_)) | (first | exact Nat.le_refl _ | omega | (simp; done) | (simp; omega))))
        go_region_held3 (fun W => W.cell? ⟨w.heap.size, 0, none⟩ = some (.int .i64 n) ∧ W.cell? ⟨w.heap.size, 1, none⟩ = some (.int .i64 l) ∧ W.cell? ⟨w.heap.size, 2, none⟩ = some (.int .i64 u))
          (first | go_keep)
          (first | (go_at_call 23; refine (HS.out _).mono ?_; rintro e w' ⟨rfl, k3, rfl⟩) | (go_at_call 24; refine (HA.out _).mono ?_; rintro e w' ⟨rfl, hb2⟩; have zw : w.heap.size < w1.heap.size := (by omega); have c0 := hb2.cell (p := ⟨w.heap.size, 0, none⟩) (Nat.lt_of_lt_of_le zw (Below.size (B := w1.heap.size) (by (repeat' (first | (with_reducible exact Below.refl _ _) | (with_reducible assumption) | (with_reducible refine Below.alloc ?_ ?_ _) | (with_reducible refine Below.setCell ?_ ?_ _) | (with_reducible refine below_row ?_ ?_ _) | (with_reducible refine Below.drew ?_) | (with_reducible refine below_drewN ?_ _) | (with_reducible refine Below.trans ?_ (Below.mono (by assumption) ?_)) | (first | exact Nat.le_refl _ | omega | (simp; done) | (simp; omega))))))); have c1 := hb2.cell (p := ⟨w.heap.size, 1, none⟩) (Nat.lt_of_lt_of_le zw (Below.size (B := w1.heap.size) (by (repeat' (first | (with_reducible exact Below.refl _ _) | (with_reducible assumption) | (with_reducible refine Below.alloc ?_ ?_ _) | (with_reducible refine Below.setCell ?_ ?_ _) | (with_reducible refine below_row ?_ ?_ _) | (with_reducible refine Below.drew ?_) | (with_reducible refine below_drewN ?_ _) | (with_reducible refine Below.trans ?_ (Below.mono (by assumption) ?_)) | (first | exact Nat.le_refl _ | omega | (simp; done) | (simp; omega))))))); have c2 := hb2.cell (p := ⟨w.heap.size, 2, none⟩) (Nat.lt_of_lt_of_le zw (Below.size (B := w1.heap.size) (by (repeat' (first | (with_reducible exact Below.refl _ _) | (with_reducible assumption) | (with_reducible refine Below.alloc ?_ ?_ _) | (with_reducible refine Below.setCell ?_ ?_ _) | (with_reducible refine below_row ?_ ?_ _) | (with_reducible refine Below.drew ?_) | (with_reducible refine below_drewN ?_ _) | (with_reducible refine Below.trans ?_ (Below.mono (by assumption) ?_)) | (first | exact Nat.le_refl _ | omega | (simp; done) | (simp; omega))))))); have hw' : Below w1.heap.size w1 w' := Below.trans (by (repeat' (first | (with_reducible exact Below.refl _ _) | (with_reducible assumption) | (with_reducible refine Below.alloc ?_ ?_ _) | (with_reducible refine Below.setCell ?_ ?_ _) | (with_reducible refine below_row ?_ ?_ _) | (with_reducible refine Below.drew ?_) | (with_reducible refine below_drewN ?_ _) | (with_reducible refine Below.trans ?_ (Below.mono (by assumption) ?_)) | (first | exact Nat.le_refl _ | omega | (simp; done) | (simp; omega))))) (hb2.mono (Below.size (B := w1.heap.size) (by (repeat' (first | (with_reducible exact Below.refl _ _) | (with_reducible assumption) | (with_reducible refine Below.alloc ?_ ?_ _) | (with_reducible refine Below.setCell ?_ ?_ _) | (with_reducible refine below_row ?_ ?_ _) | (with_reducible refine Below.drew ?_) | (with_reducible refine below_drewN ?_ _) | (with_reducible refine Below.trans ?_ (Below.mono (by assumption) ?_)) | (first | exact Nat.le_refl _ | omega | (simp; done) | (simp; omega))))))); have s2 := hw'.size; have e3 : ¬ w'.heap.size = w.heap.size := (by omega); have e4 : ¬ w.heap.size = w'.heap.size := (by omega); first | (have L6 : Lies w' w1.heap.size 23 #[.int .i64 0, .int .i64 0, .int .i64 0] := (Lies.made (w1.drewN _) 23 #[.int .i64 0, .int .i64 0, .int .i64 0]).after hb2; obtain ⟨t0, t1, t2, t3, t4, t5⟩ := L6.c3) | (have L6 : Lies w' w1.heap.size 23 #[.int .i64 0, .int .i64 0, .int .i64 0] := ((Lies.made (w1.drewN _) 23 #[.int .i64 0, .int .i64 0, .int .i64 0]).drewN _).after hb2; obtain ⟨t0, t1, t2, t3, t4, t5⟩ := L6.c3) | skip))
        all_goals
          rename_i hHeld
          clear hHeld
          have hbx : Below w.heap.size w w' := hbw.trans (hw'.mono hbw.size)
          have L4 := H4.out.after hw'
          obtain ⟨g, zg, hg⟩ : ∃ g, w.heap.size + 1 < g ∧ g = w'.heap.size := ⟨_, by omega, rfl⟩
          first
            | (obtain ⟨W, hW, hb, L1, L2⟩ := midA w w' x y z L4 hbx; rw [hW, ← hg]; rw [← hg] at L2)
            | (clear zg hg g; obtain ⟨g, zg, hg⟩ : ∃ g, w.heap.size + 1 < g ∧ g = w1.heap.size := ⟨_, zd, rfl⟩; obtain ⟨W, hW, hb, L1, L2⟩ := midB w w' x y z w1.heap.size L4 hbx zd L6; rw [hW, ← hg]; rw [← hg] at L2)
          have H1 := Lib.hid L1
          have H2 := Lib.hid L2
          clear hW L1 L2 L4 hw' hb2 c0 c1 c2 hg s2 e1 e2 e3 e4 r0 r1 r2 f0 f1 f2
          obtain ⟨r0, r1, r2, f0, f1, f2⟩ := H1.out.c3
          obtain ⟨q0, q1, q2, g0, g1', g2'⟩ := H2.out.c3
          have z1 := H2.out.lt
          go_wp2_with fail
          refine bodyPost_ret (results_cell_tmp Try.results6 _ _ (w.heap.size + 1) _ _ _ rfl (((H1.out.store 0 _).store 1 _).store 2 _) Try.underlying23 rfl (by kernel_rfl)) rfl ⟨rfl, ?_⟩
          (repeat' (first | (with_reducible exact Below.refl _ _) | (with_reducible assumption) | (with_reducible refine Below.alloc ?_ ?_ _) | (with_reducible refine Below.setCell ?_ ?_ _) | (with_reducible refine below_row ?_ ?_ _) | (with_reducible refine Below.drew ?_) | (with_reducible refine below_drewN ?_ _) | (with_reducible refine Below.trans ?_ (Below.mono (by assumption) ?_)) | (first | exact Nat.le_refl _ | omega | (simp; done) | (simp; omega))))
      · rw [if_neg hz]
        rw [show decide (y ≤ z) = true from by simpa using hz] at HA
        clear hz
        go_enter Try.func6, Try.ntmps6
        go_wp2_with fail
        refine (HD.out _).mono ?_
        rintro e w1 ⟨rfl, hb1⟩
        have s1 := hb1.size; try simp only [World.size_alloc, World.size_setCell, World.size_drew, setRow_size] at s1
        have L4 := (Lies.new (u := w.alloc (.cells #[.int .i64 n, .int .i64 l, .int .i64 u] 23)) (t := 23) (cs := #[.int .i64 0, .int .i64 0, .int .i64 0]) rfl).after hb1
        have LD := ((Lies.new (u := w) (t := 23) (cs := #[.int .i64 n, .int .i64 l, .int .i64 u]) rfl).alloc (.cells #[.int .i64 0, .int .i64 0, .int .i64 0] 23)).after hb1
        simp only [World.size_alloc] at L4
        have H4 := Lib.hid L4
        have zd := L4.lt
        obtain ⟨r0, r1, r2, f0, f1, f2⟩ := L4.c3
        obtain ⟨p0, p1, p2, -, -, -⟩ := LD.c3
        clear L4 LD
        go_wp2_with fail
        refine (HS.out _).mono ?_
        rintro e w2 ⟨rfl, k2, rfl⟩
        go_wp2_with fail
        have e1 : ¬ w1.heap.size = w.heap.size := by omega
        have e2 : ¬ w.heap.size = w1.heap.size := by omega
        have hbw : Below w.heap.size w w1 := by (repeat' (first | (with_reducible exact Below.refl _ _) | (with_reducible assumption) | (with_reducible refine Below.alloc ?_ ?_ _) | (with_reducible refine Below.setCell ?_ ?_ _) | (with_reducible refine below_row ?_ ?_ _) | (with_reducible refine Below.drew ?_) | (with_reducible refine below_drewN ?_ _) | (with_reducible refine Below.trans ?_ (Below.mono (by assumption) ?_)) | (first | exact Nat.le_refl _ | omega | (simp; done) | (simp; omega))))
        go_region_held3 (fun W => W.cell? ⟨w.heap.size, 0, none⟩ = some (.int .i64 n) ∧ W.cell? ⟨w.heap.size, 1, none⟩ = some (.int .i64 l) ∧ W.cell? ⟨w.heap.size, 2, none⟩ = some (.int .i64 u))
          (first | go_keep)
          (first | (go_at_call 23; refine (HS.out _).mono ?_; rintro e w' ⟨rfl, k3, rfl⟩) | (go_at_call 24; refine (HA.out _).mono ?_; rintro e w' ⟨rfl, hb2⟩; have zw : w.heap.size < w1.heap.size := (by omega); have c0 := hb2.cell (p := ⟨w.heap.size, 0, none⟩) (Nat.lt_of_lt_of_le zw (Below.size (B := w1.heap.size) (by (repeat' (first | (with_reducible exact Below.refl _ _) | (with_reducible assumption) | (with_reducible refine Below.alloc ?_ ?_ _) | (with_reducible refine Below.setCell ?_ ?_ _) | (with_reducible refine below_row ?_ ?_ _) | (with_reducible refine Below.drew ?_) | (with_reducible refine below_drewN ?_ _) | (with_reducible refine Below.trans ?_ (Below.mono (by assumption) ?_)) | (first | exact Nat.le_refl _ | omega | (simp; done) | (simp; omega))))))); have c1 := hb2.cell (p := ⟨w.heap.size, 1, none⟩) (Nat.lt_of_lt_of_le zw (Below.size (B := w1.heap.size) (by (repeat' (first | (with_reducible exact Below.refl _ _) | (with_reducible assumption) | (with_reducible refine Below.alloc ?_ ?_ _) | (with_reducible refine Below.setCell ?_ ?_ _) | (with_reducible refine below_row ?_ ?_ _) | (with_reducible refine Below.drew ?_) | (with_reducible refine below_drewN ?_ _) | (with_reducible refine Below.trans ?_ (Below.mono (by assumption) ?_)) | (first | exact Nat.le_refl _ | omega | (simp; done) | (simp; omega))))))); have c2 := hb2.cell (p := ⟨w.heap.size, 2, none⟩) (Nat.lt_of_lt_of_le zw (Below.size (B := w1.heap.size) (by (repeat' (first | (with_reducible exact Below.refl _ _) | (with_reducible assumption) | (with_reducible refine Below.alloc ?_ ?_ _) | (with_reducible refine Below.setCell ?_ ?_ _) | (with_reducible refine below_row ?_ ?_ _) | (with_reducible refine Below.drew ?_) | (with_reducible refine below_drewN ?_ _) | (with_reducible refine Below.trans ?_ (Below.mono (by assumption) ?_)) | (first | exact Nat.le_refl _ | omega | (simp; done) | (simp; omega))))))); have hw' : Below w1.heap.size w1 w' := Below.trans (by (repeat' (first | (with_reducible exact Below.refl _ _) | (with_reducible assumption) | (with_reducible refine Below.alloc ?_ ?_ _) | (with_reducible refine Below.setCell ?_ ?_ _) | (with_reducible refine below_row ?_ ?_ _) | (with_reducible refine Below.drew ?_) | (with_reducible refine below_drewN ?_ _) | (with_reducible refine Below.trans ?_ (Below.mono (by assumption) ?_)) | (first | exact Nat.le_refl _ | omega | (simp; done) | (simp; omega))))) (hb2.mono (Below.size (B := w1.heap.size) (by (repeat' (first | (with_reducible exact Below.refl _ _) | (with_reducible assumption) | (with_reducible refine Below.alloc ?_ ?_ _) | (with_reducible refine Below.setCell ?_ ?_ _) | (with_reducible refine below_row ?_ ?_ _) | (with_reducible refine Below.drew ?_) | (with_reducible refine below_drewN ?_ _) | (with_reducible refine Below.trans ?_ (Below.mono (by assumption) ?_)) | (first | exact Nat.le_refl _ | omega | (simp; done) | (simp; omega))))))); have s2 := hw'.size; have e3 : ¬ w'.heap.size = w.heap.size := (by omega); have e4 : ¬ w.heap.size = w'.heap.size := (by omega); first | (have L6 : Lies w' w1.heap.size 23 #[.int .i64 0, .int .i64 0, .int .i64 0] := (Lies.made (w1.drewN _) 23 #[.int .i64 0, .int .i64 0, .int .i64 0]).after hb2; obtain ⟨t0, t1, t2, t3, t4, t5⟩ := L6.c3) | (have L6 : Lies w' w1.heap.size 23 #[.int .i64 0, .int .i64 0, .int .i64 0] := ((Lies.made (w1.drewN _) 23 #[.int .i64 0, .int .i64 0, .int .i64 0]).drewN _).after hb2; obtain ⟨t0, t1, t2, t3, t4, t5⟩ := L6.c3) | skip))
        all_goals
          rename_i hHeld
          clear hHeld
          have hbx : Below w.heap.size w w' := hbw.trans (hw'.mono hbw.size)
          have L4 := H4.out.after hw'
          obtain ⟨g, zg, hg⟩ : ∃ g, w.heap.size + 1 < g ∧ g = w'.heap.size := ⟨_, by omega, rfl⟩
          first
            | (obtain ⟨W, hW, hb, L1, L2⟩ := midA w w' x y z L4 hbx; rw [hW, ← hg]; rw [← hg] at L2)
            | (clear zg hg g; obtain ⟨g, zg, hg⟩ : ∃ g, w.heap.size + 1 < g ∧ g = w1.heap.size := ⟨_, zd, rfl⟩; obtain ⟨W, hW, hb, L1, L2⟩ := midB w w' x y z w1.heap.size L4 hbx zd L6; rw [hW, ← hg]; rw [← hg] at L2)
          have H1 := Lib.hid L1
          have H2 := Lib.hid L2
          clear hW L1 L2 L4 hw' hb2 c0 c1 c2 hg s2 e1 e2 e3 e4 r0 r1 r2 f0 f1 f2
          obtain ⟨r0, r1, r2, f0, f1, f2⟩ := H1.out.c3
          obtain ⟨q0, q1, q2, g0, g1', g2'⟩ := H2.out.c3
          have z1 := H2.out.lt
          go_wp2_with fail
          refine bodyPost_ret (results_cell_tmp Try.results6 _ _ (w.heap.size + 1) _ _ _ rfl (((H1.out.store 0 _).store 1 _).store 2 _) Try.underlying23 rfl (by kernel_rfl)) rfl ⟨rfl, ?_⟩
          (repeat' (first | (with_reducible exact Below.refl _ _) | (with_reducible assumption) | (with_reducible refine Below.alloc ?_ ?_ _) | (with_reducible refine Below.setCell ?_ ?_ _) | (with_reducible refine below_row ?_ ?_ _) | (with_reducible refine Below.drew ?_) | (with_reducible refine below_drewN ?_ _) | (with_reducible refine Below.trans ?_ (Below.mono (by assumption) ?_)) | (first | exact Nat.le_refl _ | omega | (simp; done) | (simp; omega))))
end Go.Proofs.Ytldjkdomklgmaaa
