/- The reference: Redraw where the size, their number and the units are right. -/
import Derived.Test.YtldjkdomklgmaaaR3
namespace Go.Proofs.Ytldjkdomklgmaaa
set_option linter.unusedVariables false
set_option linter.unusedSimpArgs false
open Go.RowKit

theorem stepD_ok {un a b c : Int} (h : okD a b c = true) (hle : upS (stepU un) b ≤ downS (stepU un) c) : okD (nearS (stepU un) a) (upS (stepU un) b) (downS (stepU un) c) = true := by
  obtain ⟨h1, h2, h3, h4, h5⟩ := okD_iff.1 h
  obtain ⟨d0, d1, d2⟩ := downS_bd h1 (stepU_or un)
  obtain ⟨e0, e1, e2⟩ := downS_bd (n := c) (by omega) (stepU_or un)
  obtain ⟨f0, f1⟩ := upS_bd h3 (stepU_or un)
  have hn := nearS_cases (stepU un) a
  have hst := stepU_or un
  exact okD_iff.2 ⟨by omega, by omega, by omega, hle, by omega⟩

theorem midC (w w' : World) (a b c x y z : Int) (h4 : Lies w' (w.heap.size + 1) 23 #[.int .i64 0, .int .i64 0, .int .i64 0]) (h0 : Lies w' w.heap.size 23 #[.int .i64 a, .int .i64 b, .int .i64 c]) (hb : Below w.heap.size w w') : ∃ W, w'.alloc (.cells #[.int .i64 x, .int .i64 y, .int .i64 z] 23) = W ∧ Below w.heap.size w W ∧ Lies W (w.heap.size + 1) 23 #[.int .i64 0, .int .i64 0, .int .i64 0] ∧ Lies W w'.heap.size 23 #[.int .i64 x, .int .i64 y, .int .i64 z] ∧ Lies W w.heap.size 23 #[.int .i64 a, .int .i64 b, .int .i64 c] :=
  ⟨_, rfl, hb.alloc hb.size _, h4.alloc _, Lies.made _ _ _, h0.alloc _⟩
theorem midD (w w' : World) (a b c x y z : Int) (g : Nat) (h4 : Lies w' (w.heap.size + 1) 23 #[.int .i64 0, .int .i64 0, .int .i64 0]) (h0 : Lies w' w.heap.size 23 #[.int .i64 a, .int .i64 b, .int .i64 c]) (hb : Below w.heap.size w w') (hg : w.heap.size + 1 < g) (h6 : Lies w' g 23 #[.int .i64 0, .int .i64 0, .int .i64 0]) : ∃ W, ((w'.setCell ⟨g, 0, none⟩ (.int .i64 x)).setCell ⟨g, 1, none⟩ (.int .i64 y)).setCell ⟨g, 2, none⟩ (.int .i64 z) = W ∧ Below w.heap.size w W ∧ Lies W (w.heap.size + 1) 23 #[.int .i64 0, .int .i64 0, .int .i64 0] ∧ Lies W g 23 #[.int .i64 x, .int .i64 y, .int .i64 z] ∧ Lies W w.heap.size 23 #[.int .i64 a, .int .i64 b, .int .i64 c] := by
  refine ⟨_, rfl, ?_, ((h4.other (by show _ ≠ g; omega) _).other (by show _ ≠ g; omega) _).other (by show _ ≠ g; omega) _, ((h6.store 0 _).store 1 _).store 2 _, ((h0.other (by show _ ≠ g; omega) _).other (by show _ ≠ g; omega) _).other (by show _ ≠ g; omega) _⟩
  (repeat' (first | (with_reducible exact Below.refl _ _) | (with_reducible assumption) | (with_reducible refine Below.alloc ?_ ?_ _) | (with_reducible refine Below.setCell ?_ ?_ _) | (with_reducible refine below_row ?_ ?_ _) | (with_reducible refine Below.drew ?_) | (with_reducible refine below_drewN ?_ _) | (with_reducible refine Below.trans ?_ (Below.mono (by assumption) ?_)) | (first | exact Nat.le_refl _ | omega | (simp; done) | (simp; omega))))

set_option maxHeartbeats 4000000 in
theorem rRedraw_go (A : Option Addr) (b off : Nat) (us : List Int) (c : Nat) (n l u : Int) (w : World) (hA : 0 < us.length → A = some ⟨b, off, none⟩) (hl : us.length ≤ 20) (hc : cellsU w b off us) (hu : allU us = true) (hd : okD n l u = true) :
    Calls Try.prog 8 #[.agg #[.int .i64 n, .int .i64 l, .int .i64 u], .slice A us.length c] w (Gives (match foldD us (n, l, u) with | none => ((0, 0, 0), 6) | some x => (x, 0)) w) := by
  have hlen : ((us.length : Nat) : Int) ≤ 20 := by omega
  have h20 : decide ((20 : Int) < (us.length : Int)) = false := by simp; omega
  have HD := Lib.hid (fun W => rDim_any n l u W)
  have HS := Lib.hid (fun un W => rStep_any un W)
  have HC := Lib.hid hc
  have HU := Lib.hid hu
  have HOk := Lib.hid hd
  have HA := Lib.hid hA
  rw [hd] at HD
  clear hA hc hu hd
  generalize hR : (match foldD us (n, l, u) with | none => (((0, 0, 0), 6) : D3 × Int) | some x => (x, 0)) = R
  have HR := Lib.hid hR
  clear hR
  go_enter Try.func8, Try.ntmps8
  go_wp2_with fail
  refine (HD.out _).mono ?_
  rintro e w1 ⟨rfl, hb1⟩
  have s1 := hb1.size; try simp only [World.size_alloc, World.size_setCell, World.size_drew, setRow_size] at s1
  have L4 := (Lies.new (u := w.alloc (.cells #[.int .i64 n, .int .i64 l, .int .i64 u] 23)) (t := 23) (cs := #[.int .i64 0, .int .i64 0, .int .i64 0]) rfl).after hb1
  have LD := ((Lies.new (u := w) (t := 23) (cs := #[.int .i64 n, .int .i64 l, .int .i64 u]) rfl).alloc (.cells #[.int .i64 0, .int .i64 0, .int .i64 0] 23)).after hb1
  simp only [World.size_alloc] at L4
  have zd := L4.lt
  have hbw : Below w.heap.size w w1 := by (repeat' (first | (with_reducible exact Below.refl _ _) | (with_reducible assumption) | (with_reducible refine Below.alloc ?_ ?_ _) | (with_reducible refine Below.setCell ?_ ?_ _) | (with_reducible refine below_row ?_ ?_ _) | (with_reducible refine Below.drew ?_) | (with_reducible refine below_drewN ?_ _) | (with_reducible refine Below.trans ?_ (Below.mono (by assumption) ?_)) | (first | exact Nat.le_refl _ | omega | (simp; done) | (simp; omega))))
  have H4 := Lib.hid L4
  have H0 := Lib.hid LD
  clear L4 LD
  go_wp2_with fail
  go_loopw [6] (fun i wr => ∃ (k : Nat), k ≤ us.length ∧ i = .int .i64 k ∧ Lies wr (w.heap.size + 1) 23 #[.int .i64 0, .int .i64 0, .int .i64 0] ∧ Lies wr w.heap.size 23 #[.int .i64 n, .int .i64 l, .int .i64 u] ∧ Below w.heap.size w wr) (fun i _ => us.length - (intOf i).toNat)
  case atStart => exact ⟨0, by omega, rfl, H4.out, H0.out, hbw⟩
  case round =>
    obtain ⟨k, hk, rfl, hL, hL0, hbr⟩ := hrel
    have HL := Lib.hid hL
    have HL0 := Lib.hid hL0
    have zr := hL.lt
    clear hL hL0 H4 H0
    by_cases hlt : k < us.length
    · have q0 := HC.out k hlt
      have hbl : b < w.heap.size := World.block_lt_of_cell? w _ q0
      have p0 := (hbr.cell (p := ⟨b, off + k, none⟩) hbl).trans q0
      clear q0
      obtain rfl := HA.out (by omega)
      obtain ⟨un, hun⟩ : ∃ un, us[k] = un := ⟨_, rfl⟩
      rw [hun] at p0
      have hb : unitB un = true := by rw [← hun]; exact allU_get HU.out hlt
      have HT := Lib.hid (fun W => HS.out un W)
      rw [stepR_of hb] at HT
      have hst := stepU_or un
      have s0 : ¬ stepU un = 0 := by omega
      have s0' : (stepU un == 0) = false := by simpa using s0
      generalize stepU un = st at *
      clear hun hb
      go_wp2_with fail
      refine (HT.out _).mono ?_
      rintro e w2 ⟨rfl, k2, rfl⟩
      go_wp2_with fail
      go_roundw
      case rel => exact ⟨k + 1, by omega, by go_num, HL.out.drewN _, HL0.out.drewN _, by (repeat' (first | (with_reducible exact Below.refl _ _) | (with_reducible assumption) | (with_reducible refine Below.alloc ?_ ?_ _) | (with_reducible refine Below.setCell ?_ ?_ _) | (with_reducible refine below_row ?_ ?_ _) | (with_reducible refine Below.drew ?_) | (with_reducible refine below_drewN ?_ _) | (with_reducible refine Below.trans ?_ (Below.mono (by assumption) ?_)) | (first | exact Nat.le_refl _ | omega | (simp; done) | (simp; omega))))⟩
      case measure => simp [intOf]; omega
    · have hke : k = us.length := by omega
      subst hke
      have HF := Lib.hid (show (match foldD (us.drop 0) (n, l, u) with | none => (((0, 0, 0), 6) : D3 × Int) | some x => (x, 0)) = R from HR.out)
      clear HR
      go_wp2_with fail
      go_loopw [7] (fun i wr => ∃ (k : Nat) (x y z : Int), k ≤ us.length ∧ i = .int .i64 k ∧ Hid (okD x y z = true) ∧ Hid ((match foldD (us.drop k) (x, y, z) with | none => (((0, 0, 0), 6) : D3 × Int) | some x => (x, 0)) = R) ∧ Lies wr (w.heap.size + 1) 23 #[.int .i64 0, .int .i64 0, .int .i64 0] ∧ Lies wr w.heap.size 23 #[.int .i64 x, .int .i64 y, .int .i64 z] ∧ Below w.heap.size w wr) (fun i _ => us.length - (intOf i).toNat)
      case atStart => exact ⟨0, n, l, u, by omega, rfl, HOk, HF, HL.out, HL0.out, hbr⟩
      case round =>
        clear HL HL0 hbr zr hk hlt HF HOk
        obtain ⟨k, x, y, z, hk, rfl, HOk, HF, hL, hL0, hbr⟩ := hrel
        have HL := Lib.hid hL
        have HL0 := Lib.hid hL0
        have zr := hL.lt
        obtain ⟨m0, m1, m2, -, -, -⟩ := hL0.c3
        clear hL hL0
        by_cases hlt : k < us.length
        · have q0 := HC.out k hlt
          have hbl : b < w.heap.size := World.block_lt_of_cell? w _ q0
          have p0 := (hbr.cell (p := ⟨b, off + k, none⟩) hbl).trans q0
          clear q0
          obtain rfl := HA.out (by omega)
          have hdrop : us.drop k = us[k] :: us.drop (k + 1) := List.drop_eq_getElem_cons hlt
          obtain ⟨un, hun⟩ : ∃ un, us[k] = un := ⟨_, rfl⟩
          rw [hun] at p0 hdrop
          rw [hdrop] at HF
          have hb : unitB un = true := by rw [← hun]; exact allU_get HU.out hlt
          have HT := Lib.hid (fun W => HS.out un W)
          rw [stepR_of hb] at HT
          obtain ⟨b1, b2, b3, b4, b5⟩ := okD_iff.1 HOk.out
          have HG := Lib.hid (fun W => rAgain_any x y z (stepU un) W b1 b2 b3 (by omega) (by omega) b5 (stepU_or un))
          unfold againR at HG
          have hok := HOk.out
          by_cases hz : downS (stepU un) z < upS (stepU un) y
          · rw [show decide (upS (stepU un) y ≤ downS (stepU un) z) = false from by simpa using hz] at HG
            rw [show foldD (un :: us.drop (k + 1)) (x, y, z) = none from if_pos hz] at HF
            obtain rfl : ((0, 0, 0), 6) = R := HF.out
            generalize stepU un = st at *
            generalize nearS st x = x' at *
            generalize upS st y = y' at *
            generalize downS st z = z' at *
            clear HF hz HOk hdrop hun hb b1 b2 b3 b4 b5 hok
            go_wp2_with fail
            have e1 : ¬ wr.heap.size = w.heap.size := by omega
            have e2 : ¬ w.heap.size = wr.heap.size := by omega
            have e7 : ¬ wr.heap.size = b := by omega
            have e8 : ¬ b = wr.heap.size := by omega
            have hbl2 : b < wr.heap.size := by omega
            go_region_held3 (fun W => W.cell? ⟨w.heap.size, 0, none⟩ = some (.int .i64 x) ∧ W.cell? ⟨w.heap.size, 1, none⟩ = some (.int .i64 y) ∧ W.cell? ⟨w.heap.size, 2, none⟩ = some (.int .i64 z) ∧ W.cell? ⟨b, off + k, none⟩ = some (.int .u8 un))
              (first | go_keep)
              (first | (go_at_call 23; refine (HT.out _).mono ?_; rintro e w' ⟨rfl, k3, rfl⟩) | (go_at_call 24; refine (HG.out _).mono ?_; rintro e w' ⟨rfl, hb2⟩; have zw : w.heap.size < wr.heap.size := (by omega); have c0 := hb2.cell (p := ⟨w.heap.size, 0, none⟩) (Nat.lt_of_lt_of_le zw (Below.size (B := wr.heap.size) (by (repeat' (first | (with_reducible exact Below.refl _ _) | (with_reducible assumption) | (with_reducible refine Below.alloc ?_ ?_ _) | (with_reducible refine Below.setCell ?_ ?_ _) | (with_reducible refine below_row ?_ ?_ _) | (with_reducible refine Below.drew ?_) | (with_reducible refine below_drewN ?_ _) | (with_reducible refine Below.trans ?_ (Below.mono (by assumption) ?_)) | (first | exact Nat.le_refl _ | omega | (simp; done) | (simp; omega))))))); have c1 := hb2.cell (p := ⟨w.heap.size, 1, none⟩) (Nat.lt_of_lt_of_le zw (Below.size (B := wr.heap.size) (by (repeat' (first | (with_reducible exact Below.refl _ _) | (with_reducible assumption) | (with_reducible refine Below.alloc ?_ ?_ _) | (with_reducible refine Below.setCell ?_ ?_ _) | (with_reducible refine below_row ?_ ?_ _) | (with_reducible refine Below.drew ?_) | (with_reducible refine below_drewN ?_ _) | (with_reducible refine Below.trans ?_ (Below.mono (by assumption) ?_)) | (first | exact Nat.le_refl _ | omega | (simp; done) | (simp; omega))))))); have c2 := hb2.cell (p := ⟨w.heap.size, 2, none⟩) (Nat.lt_of_lt_of_le zw (Below.size (B := wr.heap.size) (by (repeat' (first | (with_reducible exact Below.refl _ _) | (with_reducible assumption) | (with_reducible refine Below.alloc ?_ ?_ _) | (with_reducible refine Below.setCell ?_ ?_ _) | (with_reducible refine below_row ?_ ?_ _) | (with_reducible refine Below.drew ?_) | (with_reducible refine below_drewN ?_ _) | (with_reducible refine Below.trans ?_ (Below.mono (by assumption) ?_)) | (first | exact Nat.le_refl _ | omega | (simp; done) | (simp; omega))))))); have c3 := hb2.cell (p := ⟨b, off + k, none⟩) (Nat.lt_of_lt_of_le hbl2 (Below.size (B := wr.heap.size) (by (repeat' (first | (with_reducible exact Below.refl _ _) | (with_reducible assumption) | (with_reducible refine Below.alloc ?_ ?_ _) | (with_reducible refine Below.setCell ?_ ?_ _) | (with_reducible refine below_row ?_ ?_ _) | (with_reducible refine Below.drew ?_) | (with_reducible refine below_drewN ?_ _) | (with_reducible refine Below.trans ?_ (Below.mono (by assumption) ?_)) | (first | exact Nat.le_refl _ | omega | (simp; done) | (simp; omega))))))); have hw' : Below wr.heap.size wr w' := Below.trans (by (repeat' (first | (with_reducible exact Below.refl _ _) | (with_reducible assumption) | (with_reducible refine Below.alloc ?_ ?_ _) | (with_reducible refine Below.setCell ?_ ?_ _) | (with_reducible refine below_row ?_ ?_ _) | (with_reducible refine Below.drew ?_) | (with_reducible refine below_drewN ?_ _) | (with_reducible refine Below.trans ?_ (Below.mono (by assumption) ?_)) | (first | exact Nat.le_refl _ | omega | (simp; done) | (simp; omega))))) (hb2.mono (Below.size (B := wr.heap.size) (by (repeat' (first | (with_reducible exact Below.refl _ _) | (with_reducible assumption) | (with_reducible refine Below.alloc ?_ ?_ _) | (with_reducible refine Below.setCell ?_ ?_ _) | (with_reducible refine below_row ?_ ?_ _) | (with_reducible refine Below.drew ?_) | (with_reducible refine below_drewN ?_ _) | (with_reducible refine Below.trans ?_ (Below.mono (by assumption) ?_)) | (first | exact Nat.le_refl _ | omega | (simp; done) | (simp; omega))))))); have s2 := hw'.size; have e3 : ¬ w'.heap.size = w.heap.size := (by omega); have e4 : ¬ w.heap.size = w'.heap.size := (by omega); have e5 : ¬ w'.heap.size = b := (by omega); have e6 : ¬ b = w'.heap.size := (by omega); first | (have L6' := (Lies.made _ 23 #[.int .i64 0, .int .i64 0, .int .i64 0]).after hb2; have L6 : Lies w' wr.heap.size 23 #[.int .i64 0, .int .i64 0, .int .i64 0] := L6'; clear L6'; obtain ⟨t0, t1, t2, t3, t4, t5⟩ := L6.c3) | (have L6' := ((Lies.made _ 23 #[.int .i64 0, .int .i64 0, .int .i64 0]).drewN _).after hb2; have L6 : Lies w' wr.heap.size 23 #[.int .i64 0, .int .i64 0, .int .i64 0] := L6'; clear L6'; obtain ⟨t0, t1, t2, t3, t4, t5⟩ := L6.c3) | skip))
            all_goals
              rename_i hHeld
              clear hHeld
              have hbx : Below w.heap.size w w' := hbr.trans (hw'.mono hbr.size)
              have L4 := HL.out.after hw'
              have L0 := HL0.out.after hw'
              obtain ⟨g, zg, hg⟩ : ∃ g, w.heap.size + 1 < g ∧ g = w'.heap.size := ⟨_, by omega, rfl⟩
              first
                | (obtain ⟨W, hW, hb, L1, L2, L3⟩ := midC w w' x y z x' y' z' L4 L0 hbx; rw [hW, ← hg]; rw [← hg] at L2)
                | (clear zg hg g; obtain ⟨g, zg, hg⟩ : ∃ g, w.heap.size + 1 < g ∧ g = wr.heap.size := ⟨_, zr, rfl⟩; obtain ⟨W, hW, hb, L1, L2, L3⟩ := midD w w' x y z x' y' z' wr.heap.size L4 L0 hbx zr L6; rw [hW, ← hg]; rw [← hg] at L2)
              have H1 := Lib.hid L1
              have H2 := Lib.hid L2
              have H3 := Lib.hid L3
              have hbk : wr.heap.size ≤ W.heap.size := Nat.le_trans s2 (by rw [← hW]; simp)
              clear hW L1 L2 L3 L4 L0 hw' hb2 c0 c1 c2 c3 hg s2 e1 e2 e3 e4 e5 e6 e7 e8
              obtain ⟨r0, r1, r2, f0, f1, f2⟩ := H1.out.c3
              obtain ⟨q0, q1, q2, g0, g1', g2'⟩ := H2.out.c3
              obtain ⟨v0, v1, v2, j0, j1, j2⟩ := H3.out.c3
              have z1 := H2.out.lt
              go_wp2_with fail
              refine bodyPost_ret (results_cell_tmp Try.results8 _ _ (w.heap.size + 1) _ _ _ rfl (((H1.out.store 0 _).store 1 _).store 2 _) Try.underlying23 rfl (by kernel_rfl)) rfl ⟨rfl, ?_⟩
              (repeat' (first | (with_reducible exact Below.refl _ _) | (with_reducible assumption) | (with_reducible refine Below.alloc ?_ ?_ _) | (with_reducible refine Below.setCell ?_ ?_ _) | (with_reducible refine below_row ?_ ?_ _) | (with_reducible refine Below.drew ?_) | (with_reducible refine below_drewN ?_ _) | (with_reducible refine Below.trans ?_ (Below.mono (by assumption) ?_)) | (first | exact Nat.le_refl _ | omega | (simp; done) | (simp; omega))))
          · rw [show decide (upS (stepU un) y ≤ downS (stepU un) z) = true from by simpa using hz] at HG
            rw [show foldD (un :: us.drop (k + 1)) (x, y, z) = foldD (us.drop (k + 1)) (stepD un (x, y, z)) from if_neg hz] at HF
            unfold stepD at HF
            have HOk2 := Lib.hid (stepD_ok (un := un) hok (by omega))
            simp only at HF
            generalize stepU un = st at *
            generalize nearS st x = x' at *
            generalize upS st y = y' at *
            generalize downS st z = z' at *
            clear hz HOk hdrop hun hb b1 b2 b3 b4 b5 hok
            go_wp2_with fail
            have e1 : ¬ wr.heap.size = w.heap.size := by omega
            have e2 : ¬ w.heap.size = wr.heap.size := by omega
            have e7 : ¬ wr.heap.size = b := by omega
            have e8 : ¬ b = wr.heap.size := by omega
            have hbl2 : b < wr.heap.size := by omega
            go_region_held3 (fun W => W.cell? ⟨w.heap.size, 0, none⟩ = some (.int .i64 x) ∧ W.cell? ⟨w.heap.size, 1, none⟩ = some (.int .i64 y) ∧ W.cell? ⟨w.heap.size, 2, none⟩ = some (.int .i64 z) ∧ W.cell? ⟨b, off + k, none⟩ = some (.int .u8 un))
              (first | go_keep)
              (first | (go_at_call 23; refine (HT.out _).mono ?_; rintro e w' ⟨rfl, k3, rfl⟩) | (go_at_call 24; refine (HG.out _).mono ?_; rintro e w' ⟨rfl, hb2⟩; have zw : w.heap.size < wr.heap.size := (by omega); have c0 := hb2.cell (p := ⟨w.heap.size, 0, none⟩) (Nat.lt_of_lt_of_le zw (Below.size (B := wr.heap.size) (by (repeat' (first | (with_reducible exact Below.refl _ _) | (with_reducible assumption) | (with_reducible refine Below.alloc ?_ ?_ _) | (with_reducible refine Below.setCell ?_ ?_ _) | (with_reducible refine below_row ?_ ?_ _) | (with_reducible refine Below.drew ?_) | (with_reducible refine below_drewN ?_ _) | (with_reducible refine Below.trans ?_ (Below.mono (by assumption) ?_)) | (first | exact Nat.le_refl _ | omega | (simp; done) | (simp; omega))))))); have c1 := hb2.cell (p := ⟨w.heap.size, 1, none⟩) (Nat.lt_of_lt_of_le zw (Below.size (B := wr.heap.size) (by (repeat' (first | (with_reducible exact Below.refl _ _) | (with_reducible assumption) | (with_reducible refine Below.alloc ?_ ?_ _) | (with_reducible refine Below.setCell ?_ ?_ _) | (with_reducible refine below_row ?_ ?_ _) | (with_reducible refine Below.drew ?_) | (with_reducible refine below_drewN ?_ _) | (with_reducible refine Below.trans ?_ (Below.mono (by assumption) ?_)) | (first | exact Nat.le_refl _ | omega | (simp; done) | (simp; omega))))))); have c2 := hb2.cell (p := ⟨w.heap.size, 2, none⟩) (Nat.lt_of_lt_of_le zw (Below.size (B := wr.heap.size) (by (repeat' (first | (with_reducible exact Below.refl _ _) | (with_reducible assumption) | (with_reducible refine Below.alloc ?_ ?_ _) | (with_reducible refine Below.setCell ?_ ?_ _) | (with_reducible refine below_row ?_ ?_ _) | (with_reducible refine Below.drew ?_) | (with_reducible refine below_drewN ?_ _) | (with_reducible refine Below.trans ?_ (Below.mono (by assumption) ?_)) | (first | exact Nat.le_refl _ | omega | (simp; done) | (simp; omega))))))); have c3 := hb2.cell (p := ⟨b, off + k, none⟩) (Nat.lt_of_lt_of_le hbl2 (Below.size (B := wr.heap.size) (by (repeat' (first | (with_reducible exact Below.refl _ _) | (with_reducible assumption) | (with_reducible refine Below.alloc ?_ ?_ _) | (with_reducible refine Below.setCell ?_ ?_ _) | (with_reducible refine below_row ?_ ?_ _) | (with_reducible refine Below.drew ?_) | (with_reducible refine below_drewN ?_ _) | (with_reducible refine Below.trans ?_ (Below.mono (by assumption) ?_)) | (first | exact Nat.le_refl _ | omega | (simp; done) | (simp; omega))))))); have hw' : Below wr.heap.size wr w' := Below.trans (by (repeat' (first | (with_reducible exact Below.refl _ _) | (with_reducible assumption) | (with_reducible refine Below.alloc ?_ ?_ _) | (with_reducible refine Below.setCell ?_ ?_ _) | (with_reducible refine below_row ?_ ?_ _) | (with_reducible refine Below.drew ?_) | (with_reducible refine below_drewN ?_ _) | (with_reducible refine Below.trans ?_ (Below.mono (by assumption) ?_)) | (first | exact Nat.le_refl _ | omega | (simp; done) | (simp; omega))))) (hb2.mono (Below.size (B := wr.heap.size) (by (repeat' (first | (with_reducible exact Below.refl _ _) | (with_reducible assumption) | (with_reducible refine Below.alloc ?_ ?_ _) | (with_reducible refine Below.setCell ?_ ?_ _) | (with_reducible refine below_row ?_ ?_ _) | (with_reducible refine Below.drew ?_) | (with_reducible refine below_drewN ?_ _) | (with_reducible refine Below.trans ?_ (Below.mono (by assumption) ?_)) | (first | exact Nat.le_refl _ | omega | (simp; done) | (simp; omega))))))); have s2 := hw'.size; have e3 : ¬ w'.heap.size = w.heap.size := (by omega); have e4 : ¬ w.heap.size = w'.heap.size := (by omega); have e5 : ¬ w'.heap.size = b := (by omega); have e6 : ¬ b = w'.heap.size := (by omega); first | (have L6' := (Lies.made _ 23 #[.int .i64 0, .int .i64 0, .int .i64 0]).after hb2; have L6 : Lies w' wr.heap.size 23 #[.int .i64 0, .int .i64 0, .int .i64 0] := L6'; clear L6'; obtain ⟨t0, t1, t2, t3, t4, t5⟩ := L6.c3) | (have L6' := ((Lies.made _ 23 #[.int .i64 0, .int .i64 0, .int .i64 0]).drewN _).after hb2; have L6 : Lies w' wr.heap.size 23 #[.int .i64 0, .int .i64 0, .int .i64 0] := L6'; clear L6'; obtain ⟨t0, t1, t2, t3, t4, t5⟩ := L6.c3) | skip))
            all_goals
              rename_i hHeld
              clear hHeld
              have hbx : Below w.heap.size w w' := hbr.trans (hw'.mono hbr.size)
              have L4 := HL.out.after hw'
              have L0 := HL0.out.after hw'
              obtain ⟨g, zg, hg⟩ : ∃ g, w.heap.size + 1 < g ∧ g = w'.heap.size := ⟨_, by omega, rfl⟩
              first
                | (obtain ⟨W, hW, hb, L1, L2, L3⟩ := midC w w' x y z x' y' z' L4 L0 hbx; rw [hW, ← hg]; rw [← hg] at L2)
                | (clear zg hg g; obtain ⟨g, zg, hg⟩ : ∃ g, w.heap.size + 1 < g ∧ g = wr.heap.size := ⟨_, zr, rfl⟩; obtain ⟨W, hW, hb, L1, L2, L3⟩ := midD w w' x y z x' y' z' wr.heap.size L4 L0 hbx zr L6; rw [hW, ← hg]; rw [← hg] at L2)
              have H1 := Lib.hid L1
              have H2 := Lib.hid L2
              have H3 := Lib.hid L3
              have hbk : wr.heap.size ≤ W.heap.size := Nat.le_trans s2 (by rw [← hW]; simp)
              clear hW L1 L2 L3 L4 L0 hw' hb2 c0 c1 c2 c3 hg s2 e1 e2 e3 e4 e5 e6 e7 e8
              obtain ⟨r0, r1, r2, f0, f1, f2⟩ := H1.out.c3
              obtain ⟨q0, q1, q2, g0, g1', g2'⟩ := H2.out.c3
              obtain ⟨v0, v1, v2, j0, j1, j2⟩ := H3.out.c3
              have z1 := H2.out.lt
              go_wp2_with fail
              go_roundw
              case rel =>
                refine ⟨k + 1, x', y', z', by omega, by go_num, HOk2, HF, ((H1.out.other (p := ⟨w.heap.size, 0, none⟩) (by simp only; omega) _).other (p := ⟨w.heap.size, 1, none⟩) (by simp only; omega) _).other (p := ⟨w.heap.size, 2, none⟩) (by simp only; omega) _, ((H3.out.store 0 _).store 1 _).store 2 _, ?_⟩
                (repeat' (first | (with_reducible exact Below.refl _ _) | (with_reducible assumption) | (with_reducible refine Below.alloc ?_ ?_ _) | (with_reducible refine Below.setCell ?_ ?_ _) | (with_reducible refine below_row ?_ ?_ _) | (with_reducible refine Below.drew ?_) | (with_reducible refine below_drewN ?_ _) | (with_reducible refine Below.trans ?_ (Below.mono (by assumption) ?_)) | (first | exact Nat.le_refl _ | omega | (simp; done) | (simp; omega))))
              case measure => simp [intOf]; omega
        · have hke : k = us.length := by omega
          subst hke
          rw [List.drop_length] at HF
          obtain rfl : ((x, y, z), 0) = R := HF.out
          clear HF
          obtain ⟨r0, r1, r2, f0, f1, f2⟩ := HL.out.c3
          go_wp2_with fail
          refine bodyPost_ret (results_cell_tmp Try.results8 _ _ (w.heap.size + 1) _ _ _ rfl (((HL.out.store 0 _).store 1 _).store 2 _) Try.underlying23 rfl (by kernel_rfl)) rfl ⟨rfl, ?_⟩
          (repeat' (first | (with_reducible exact Below.refl _ _) | (with_reducible assumption) | (with_reducible refine Below.alloc ?_ ?_ _) | (with_reducible refine Below.setCell ?_ ?_ _) | (with_reducible refine below_row ?_ ?_ _) | (with_reducible refine Below.drew ?_) | (with_reducible refine below_drewN ?_ _) | (with_reducible refine Below.trans ?_ (Below.mono (by assumption) ?_)) | (first | exact Nat.le_refl _ | omega | (simp; done) | (simp; omega))))
end Go.Proofs.Ytldjkdomklgmaaa
