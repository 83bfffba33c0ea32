/- The reference: clash, Clash. -/
import Derived.Test.YthfpjeeedhahbaaUW
namespace Go.Proofs.Ythfpjeeedhahbaa
set_option linter.unusedVariables false
set_option linter.unusedSimpArgs false
open Go.RowKit

/-- An issue that the other register has otherwise. -/
def hitB (ys : List Iss) (x : Iss) : Bool := hasN ys x.d x.l && !sameI x (ys.getD (idxN ys x.d x.l) zeroI)
def clashR (xs ys : List Iss) (k : Nat) : List (Int × Int) := ((xs.take k).filter (hitB ys)).map fun x => (x.d, x.l)
theorem clashR_step {xs ys : List Iss} {k : Nat} (h : k < xs.length) : clashR xs ys (k + 1) = clashR xs ys k ++ if hitB ys xs[k] then [(xs[k].d, xs[k].l)] else [] := by
  unfold clashR
  rw [List.take_succ_eq_append_getElem h, List.filter_append, List.map_append]
  congr 1
  by_cases e : hitB ys xs[k] <;> simp [e]
theorem clashR_le (xs ys : List Iss) (k : Nat) : (clashR xs ys k).length ≤ k := by
  unfold clashR
  rw [List.length_map]
  exact Nat.le_trans (List.length_filter_le _ _) (List.length_take_le _ _)

set_option maxRecDepth 100000 in
set_option maxHeartbeats 16000000 in
theorem rclash_any {vI vJ : Value} {xs ys : List Iss} {w : World} (h : RegAt w vI xs) (h2 : RegAt w vJ ys) :
    Calls Try.prog 97 #[.agg #[vI], .agg #[vJ]] w fun e w' => ∃ v, e = .returned v ∧ w'.ownsRow w.heap.size 26 2 v (clashR xs ys xs.length).length (cellsI (clashR xs ys xs.length)) ∧ Below w.heap.size w w' := by
  obtain ⟨A, c, b, off, vi, vd, rfl, hA, hc⟩ := h.at_.row
  obtain ⟨B, e, b2, off2, ui, ud, rfl, hB, hd⟩ := h2.at_.row
  have hlen := h.len
  have HA := Lib.hid hA
  have HC := Lib.hid hc
  have HD := Lib.hid hd
  have HSX := Lib.hid (fun x hx => h.small x hx)
  have HSY := Lib.hid (fun x hx => h2.small x hx)
  have HF := Lib.hid (fun d l W (hW : Below w.heap.size w W) => rFind_any B e b2 off2 ys ui ud d l W h2.len hB (hd.after hW))
  have LI := Lib.hid ((Lies.made w 24 #[.slice A xs.length c]).alloc (.cells #[.slice B ys.length e] 24))
  have LJ : Hid (Lies ((w.alloc (.cells #[.slice A xs.length c] 24)).alloc (.cells #[.slice B ys.length e] 24)) (w.heap.size + 1) 24 #[.slice B ys.length e]) := Lib.hid (Lies.new (by simp))
  obtain ⟨j0, hj0, hx0, hx1, hx2⟩ := info_parts infoRef
  clear h h2 hA hc hB hd
  go_enter Try.func97, Try.ntmps97
  go_wp2_with fail
  obtain ⟨wA, hWA⟩ : ∃ W, ((w.alloc (.cells #[.slice A xs.length c] 24)).alloc (.cells #[.slice B ys.length e] 24)) = W := ⟨_, rfl⟩
  have hbA : Below w.heap.size w wA := by rw [← hWA]; (repeat' (first | (with_reducible first | exact Below.refl _ _ | assumption | refine Below.alloc ?_ ?_ _ | refine Below.setCell ?_ ?_ _ | refine below_row ?_ ?_ _ | refine Below.drew ?_ | refine below_drewN ?_ _ | refine Below.trans ?_ (Below.mono (by assumption) ?_)) | exact Nat.le_refl _ | omega | (simp; done) | (simp; omega) | exact Below.size (by assumption)))
  have hsA : wA.heap.size = w.heap.size + 2 := by rw [← hWA]; simp
  rw [hWA] at LI LJ ⊢
  clear hWA
  have hbs := hbA.size
  go_loopw [5, 6] (fun v i wr => ∃ (k : Nat) (AO : Option Addr) (cO : Nat), k ≤ xs.length ∧ i = .int .i64 k ∧ v = .slice AO (clashR xs ys k).length cO ∧ Hid (wr.ownsRow wA.heap.size 26 2 (.slice AO (clashR xs ys k).length cO) (clashR xs ys k).length (cellsI (clashR xs ys k))) ∧ Below wA.heap.size wA wr) (fun _ i _ => xs.length - (intOf i).toNat)
  case atStart => exact ⟨0, none, 0, by omega, rfl, rfl, Lib.hid (World.ownsRow_nil _ _ _ _), Below.refl _ _⟩
  case round =>
    obtain ⟨k, AO, cO, hk, rfl, rfl, HO, hb⟩ := hrel
    have hzz := hb.size
    have hle := clashR_le xs ys k
    have hbwr : Below w.heap.size w wr := hbA.trans (hb.mono hbs)
    have hsr := hbwr.size
    have hli := LI.out.after hb
    have l0 := hli.cell 0
    have zl := hli.lt
    clear hli
    by_cases hlt : k < xs.length
    · obtain rfl := HA.out (by omega)
      have kl1 : (k : Int) < (xs.length : Int) := by omega
      have HST := Lib.hid (clashR_step (ys := ys) hlt)
      have HROW := Lib.hid (fun W (hW : Below w.heap.size w W) => (HC.out.after hW) k hlt)
      obtain ⟨⟨A1, n1, c1, e1⟩, A2, n2, c2, e2⟩ := HC.out.slices hlt
      have hsx := HSX.out xs[k] (List.getElem_mem hlt)
      rw [e1, e2] at HROW
      have HFX := Lib.hid (fun W hW => HF.out xs[k].d xs[k].l W hW)
      have HCEL := Lib.hid (fun W (hW : Below w.heap.size w W) => (show W.cell? ⟨b, off + k * 5, none⟩ = some (.int .i64 (xs[k].d)) ∧ W.cell? ⟨b, off + k * 5 + 1, none⟩ = some (.int .i64 (xs[k].l)) ∧ W.cell? ⟨b, off + k * 5 + 2, none⟩ = some (.int .u8 xs[k].k) ∧ W.cell? ⟨b, off + k * 5 + 3, none⟩ = some (.slice A1 n1 c1) ∧ W.cell? ⟨b, off + k * 5 + 4, none⟩ = some (.slice A2 n2 c2) from ⟨(HROW.out W hW).1, (HROW.out W hW).2.1, (HROW.out W hW).2.2.1, (HROW.out W hW).2.2.2.1, (HROW.out W hW).2.2.2.2.1⟩))
      have HREG := Lib.hid (fun W (hW : Below wA.heap.size wA W) => And.intro (LI.out.after hW) (LJ.out.after hW))
      obtain ⟨r0, r1, -, -, -⟩ := HCEL.out wr hbwr
      clear e1 e2
      go_wp2_with fail
      go_region_held3 (fun W => W.cell? ⟨w.heap.size, 0, none⟩ = some (.slice (some ⟨b, off, none⟩) xs.length c) ∧ W.cell? ⟨b, off + k * 5, none⟩ = some (.int .i64 (xs[k].d)) ∧ W.cell? ⟨b, off + k * 5 + 1, none⟩ = some (.int .i64 (xs[k].l))) (go_keep) (fail)
      rename (_ ∧ _) => HHx
      clear HHx
      obtain ⟨w5, hw5⟩ : ∃ W, (wr.alloc (.cells #[.int .i64 (xs[k].d), .int .i64 (xs[k].l)] 26)).drew = W := ⟨_, rfl⟩
      have hb5 : Below wr.heap.size wr w5 := by rw [← hw5]; exact ((Below.refl _ wr).alloc (Nat.le_refl _) _).drew
      have hs5 : w5.heap.size = wr.heap.size + 1 := by rw [← hw5]; simp
      have LF5 : Hid (Lies w5 wr.heap.size 26 #[.int .i64 (xs[k].d), .int .i64 (xs[k].l)]) := Lib.hid (by rw [← hw5]; exact (Lies.made wr 26 #[.int .i64 (xs[k].d), .int .i64 (xs[k].l)]).drew)
      have HO5 := Lib.hid (own_after HO.out hb5)
      rw [hw5]
      clear hw5 r0 r1 l0 zl
      have hbA5 : Below wA.heap.size wA w5 := hb.trans (hb5.mono hzz)
      have hbw5 : Below w.heap.size w w5 := hbA.trans (hbA5.mono hbs)
      have hsA5 := hbA5.size
      have hsw5 := hbw5.size
      have hlj := (HREG.out w5 hbA5).2
      have j0' := hlj.cell 0
      have zj := hlj.lt
      have f0 := LF5.out.cell 0
      have f1 := LF5.out.cell 1
      have zf := LF5.out.lt
      clear hlj
      have HFX5 := Lib.hid (HFX.out w5 hbw5)
      have HFY := Lib.hid (fun hh => HFX5.out.mono (fun e w' h => FindP.yes h hh))
      have HFN := Lib.hid (fun hh => HFX5.out.mono (fun e w' h => FindP.no h hh))
      by_cases hh : hasN ys xs[k].d xs[k].l = true
      · have HFY5 := Lib.hid (HFY.out hh)
        have hq : idxN ys xs[k].d xs[k].l < ys.length := of_decide_eq_true hh
        have HYR := Lib.hid (fun W (hW : Below w.heap.size w W) => (HD.out.after hW) _ hq)
        obtain ⟨⟨B1, m1, g1, u1⟩, B2, m2, g2, u2⟩ := HD.out.slices hq
        have hsy := HSY.out _ (List.getElem_mem hq)
        rw [← getD_at hq] at HYR hsy
        rw [u1, u2] at HYR HFY5
        have HHIT : Hid (hitB ys xs[k] = !sameI xs[k] (ys.getD (idxN ys xs[k].d xs[k].l) zeroI)) := Lib.hid (by unfold hitB; rw [hh, Bool.true_and])
        rw [HHIT.out] at HST
        have HSI := Lib.hid (fun W (hW : Below w.heap.size w W) => rSameIssue_any xs[k] (ys.getD (idxN ys xs[k].d xs[k].l) zeroI) (.slice A1 n1 c1) (.slice A2 n2 c2) (.slice B1 m1 g1) (.slice B2 m2 g2) W hsx.1 hsy.1 hsx.2 hsy.2 (HROW.out W hW).2.2.2.2.2.2.1 (HYR.out W hW).2.2.2.2.2.2.1 (HROW.out W hW).2.2.2.2.2.2.2.1 (HYR.out W hW).2.2.2.2.2.2.2.1)
        clear HFY HFN HFX5 HFX hh hq u1 u2 HYR HROW hsx hsy HHIT HF HSX HSY HC HD
        generalize ys.getD (idxN ys xs[k].d xs[k].l) zeroI = y at *
        generalize sameI xs[k] y = r at *
        generalize y.d = yd at *
        generalize y.l = yl at *
        generalize y.k = yk at *
        generalize xs[k].d = xd at *
        generalize xs[k].l = xl at *
        generalize xs[k].k = xk at *
        go_wp2_with fail
        refine HFY5.out.mono ?_
        rintro e6 w6 ⟨rfl, hb6⟩
        have hs6 : w5.heap.size ≤ w6.heap.size := hb6.size
        go_upto_region 7 with fail
        obtain ⟨w7, hw7⟩ : ∃ W, w6.alloc (.cells #[.int .i64 yd, .int .i64 yl, .int .u8 yk, .slice B1 m1 g1, .slice B2 m2 g2] 45) = W := ⟨_, rfl⟩
        have hb57 : Below w5.heap.size w5 w7 := by rw [← hw7]; exact hb6.alloc hs6 _
        have LY7 : Hid (Lies w7 w6.heap.size 45 #[.int .i64 yd, .int .i64 yl, .int .u8 yk, .slice B1 m1 g1, .slice B2 m2 g2]) := Lib.hid (by rw [← hw7]; exact Lies.made w6 45 #[.int .i64 yd, .int .i64 yl, .int .u8 yk, .slice B1 m1 g1, .slice B2 m2 g2])
        rw [hw7]
        clear hw7 hb6 HFY5 j0' zj f0 f1
        have HO7 := Lib.hid (own_after HO5.out hb57)
        have LF7 := Lib.hid (LF5.out.after hb57)
        have hbA7 : Below wA.heap.size wA w7 := hbA5.trans (hb57.mono hsA5)
        have hbw7 : Below w.heap.size w w7 := hbA.trans (hbA7.mono hbs)
        have hs7 := hbA7.size
        have h70 := (HREG.out w7 hbA7).1
        have q0 := h70.cell 0
        have zq := h70.lt
        clear h70
        obtain ⟨x0, x1, x2, x3, x4⟩ := HCEL.out w7 hbw7
        have y0 := LY7.out.cell 0
        have y1 := LY7.out.cell 1
        have y2 := LY7.out.cell 2
        have y3 := LY7.out.cell 3
        have y4 := LY7.out.cell 4
        have zy := LY7.out.lt
        have HALL := Lib.hid (fun W (hW : Below w7.heap.size w7 W) => And.intro (HREG.out W (hbA7.trans (hW.mono hs7))).1 (And.intro (HCEL.out W (hbw7.trans (hW.mono hbw7.size))) (And.intro (LY7.out.after hW) (LF7.out.after hW))))
        go_region_held3 (fun W => W.cell? ⟨w.heap.size, 0, none⟩ = some (.slice (some ⟨b, off, none⟩) xs.length c) ∧ W.cell? ⟨b, off + k * 5, none⟩ = some (.int .i64 xd) ∧ W.cell? ⟨b, off + k * 5 + 1, none⟩ = some (.int .i64 xl) ∧ W.cell? ⟨b, off + k * 5 + 2, none⟩ = some (.int .u8 xk) ∧ W.cell? ⟨b, off + k * 5 + 3, none⟩ = some (.slice A1 n1 c1) ∧ W.cell? ⟨b, off + k * 5 + 4, none⟩ = some (.slice A2 n2 c2) ∧ W.cell? ⟨w6.heap.size, 0, none⟩ = some (.int .i64 yd) ∧ W.cell? ⟨w6.heap.size, 1, none⟩ = some (.int .i64 yl) ∧ W.cell? ⟨w6.heap.size, 2, none⟩ = some (.int .u8 yk) ∧ W.cell? ⟨w6.heap.size, 3, none⟩ = some (.slice B1 m1 g1) ∧ W.cell? ⟨w6.heap.size, 4, none⟩ = some (.slice B2 m2 g2)) (go_keep) ((go_at_call 30; refine (HSI.out _ (by (repeat' (first | (with_reducible first | exact Below.refl _ _ | assumption | refine Below.alloc ?_ ?_ _ | refine Below.setCell ?_ ?_ _ | refine below_row ?_ ?_ _ | refine Below.drew ?_ | refine below_drewN ?_ _ | refine Below.trans ?_ (Below.mono (by assumption) ?_)) | exact Nat.le_refl _ | omega | (simp; done) | (simp; omega) | exact Below.size (by assumption))))).mono ?_; rintro e8 w8 ⟨rfl, hb8⟩; have hb78 : Below w7.heap.size w7 w8 := (by (repeat' (first | (with_reducible first | exact Below.refl _ _ | assumption | refine Below.alloc ?_ ?_ _ | refine Below.setCell ?_ ?_ _ | refine below_row ?_ ?_ _ | refine Below.drew ?_ | refine below_drewN ?_ _ | refine Below.trans ?_ (Below.mono (by assumption) ?_)) | exact Nat.le_refl _ | omega | (simp; done) | (simp; omega) | exact Below.size (by assumption)))); have hal := HALL.out w8 hb78; obtain ⟨h80, ⟨m0, m1', m2', m3, m4⟩, h8y, h8f⟩ := hal; have p0 := h80.cell 0; have n0 := h8y.cell 0; have n1' := h8y.cell 1; have n2' := h8y.cell 2; have n3 := h8y.cell 3; have n4 := h8y.cell 4; have v0 := h8f.cell 0; have v1 := h8f.cell 1; have zv := h8f.lt; have HO8 := Lib.hid (own_after HO7.out hb78); clear hb8 h80 h8y h8f))
        all_goals
          have hbA8 : Below wA.heap.size wA w8 := hbA7.trans (hb78.mono hs7)
          have hs8 := hbA8.size
          cases r
        · have HST3 := Lib.hid HST.out
          rw [if_pos (show (!false) = true from rfl)] at HST3
          clear HST
          generalize clashR xs ys k = uj at *
          have zc := cellsI_len uj
          go_wp2_with (at_builtin; refine wpList_row rfl _ _ 69 rfl wA.heap.size 26 j0 (.agg #[.int .i64 0, .int .i64 0]) 2 16 Try.underlying69 hj0 hx0 hx1 hx2 rfl (by decide) _ uj.length (cellsI uj) rfl (HO8.out.alloc _) (some ⟨_, 0, none⟩) 1 1 [.int .i64 xd, .int .i64 xl] (by rfl) (fun h => by cases h) (by rfl) (fun ad had => by injection had with had; subst had; exact World.news_of_block (Lies.made _ _ _)) (by simp [Value.oneCell']) (by unfold maxLen; omega) (by omega) (by simp; omega) ?_; intro v9 w9 ho9 hap9 hbl9; have hb9 : Below wA.heap.size wA w9 := hbl9 wA (by (repeat' (first | (with_reducible first | exact Below.refl _ _ | assumption | refine Below.alloc ?_ ?_ _ | refine Below.setCell ?_ ?_ _ | refine below_row ?_ ?_ _ | refine Below.drew ?_ | refine below_drewN ?_ _ | refine Below.trans ?_ (Below.mono (by assumption) ?_)) | exact Nat.le_refl _ | omega | (simp; done) | (simp; omega) | exact Below.size (by assumption)))) (Nat.le_refl _); have HO9 := Lib.hid ho9; obtain ⟨A9, c9, g9, rfl, -⟩ := own_form ho9; clear ho9 hap9 hbl9)
          go_roundw
          case rel => exact ⟨k + 1, A9, c9, by omega, by go_num, by rw [HST3.out]; simp, Lib.hid (by rw [HST3.out]; have := HO9.out; simpa [cellsI] using this), hb9⟩
          case measure => simp [intOf]; omega
        · have HST3 := Lib.hid HST.out
          rw [if_neg (show ¬ (!true) = true by decide), List.append_nil] at HST3
          clear HST
          go_wp2_with fail
          go_roundw
          case rel => exact ⟨k + 1, AO, cO, by omega, by go_num, by rw [HST3.out], Lib.hid (by rw [HST3.out]; exact HO8.out), hbA8⟩
          case measure => simp [intOf]; omega
      · rw [Bool.not_eq_true] at hh
        have HFN5 := Lib.hid (HFN.out hh)
        have HST3 := Lib.hid HST.out
        rw [if_neg (by unfold hitB; rw [hh]; simp), List.append_nil] at HST3
        clear HFY HFN HFX5 HFX hh HROW hsx HF HSX HSY HC HD HST
        generalize xs[k].d = xd at *
        generalize xs[k].l = xl at *
        generalize xs[k].k = xk at *
        go_wp2_with fail
        refine HFN5.out.mono ?_
        rintro e6 w6 ⟨rfl, hb6⟩
        have hs6 : w5.heap.size ≤ w6.heap.size := hb6.size
        go_upto_region 7 with fail
        obtain ⟨w7, hw7⟩ : ∃ W, w6.alloc (.cells #[.int .i64 0, .int .i64 0, .int .u8 0, .slice none 0 0, .slice none 0 0] 45) = W := ⟨_, rfl⟩
        have hb57 : Below w5.heap.size w5 w7 := by rw [← hw7]; exact hb6.alloc hs6 _
        rw [hw7]
        clear hw7 hb6 HFN5 j0' zj f0 f1
        have HO7 := Lib.hid (own_after HO5.out hb57)
        have hbA7 : Below wA.heap.size wA w7 := hbA5.trans (hb57.mono hsA5)
        go_quiet (fail)
        have HO8 := Lib.hid (ownsRow_drewN HO7.out nq)
        go_wp2_with fail
        go_roundw
        case rel => exact ⟨k + 1, AO, cO, by omega, by go_num, by rw [HST3.out], Lib.hid (by rw [HST3.out]; exact HO8.out), below_drewN hbA7 _⟩
        case measure => simp [intOf]; omega
    · have hke : k = xs.length := by omega
      subst hke
      have kl0 : ¬ (xs.length : Int) < (xs.length : Int) := by omega
      have HO2 := Lib.hid (own_less HO.out hbs)
      clear HO
      go_wp2_with fail
      go_ret
      exact ⟨_, rfl, HO2.out, hbwr⟩
end Go.Proofs.Ythfpjeeedhahbaa
