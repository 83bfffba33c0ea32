/- Clash of the package. -/
import Derived.Test.YtkjfceajakhlfaaVD
import Derived.Test.YtkjfceajakhlfaaZW
namespace Go.Proofs.Ytkjfceajakhlfaa
set_option linter.unusedVariables false
set_option linter.unusedSimpArgs false
open Go.RowKit

theorem rows_form {w : World} {base : Nat} {v : Value} {xs : List Iss} {vi vd : Nat → Value} {t : Int} (h : w.ownsRow base 45 5 v (idxs xs t).length (rowsF xs vi vd (idxs xs t))) {b off : Nat} (hc : IssRow w b off xs vi vd) :
    ∃ A c g, v = .slice A (ofD xs t).length c ∧ (0 < (ofD xs t).length → A = some ⟨g, 0, none⟩) ∧ (ofD xs t).length ≤ c ∧ IssRow w g 0 (ofD xs t) (fun i => vi (((idxs xs t).map (·.1)).getD i 0)) (fun i => vd (((idxs xs t).map (·.1)).getD i 0)) := by
  rcases rows_two h hc with ⟨rfl, h0⟩ | ⟨g, c, rfl, h1, -, hr⟩
  · rw [h0]
    exact ⟨none, 0, 0, rfl, fun h => absurd h (by simp), Nat.le_refl _, fun i hi => by simp at hi⟩
  · exact ⟨_, c, g, rfl, fun _ => rfl, h1, hr⟩
theorem own_apart2 {w w' : World} {base : Nat} {t e : TypeId} {size n : Nat} {v : Value} {xs : List Value} (h : w.ownsRow base t size v n xs) (hte : t ≠ e) (hap : ∀ g t cs, t ≠ e → Lies w g t cs → Lies w' g t cs) : w'.ownsRow base t size v n xs := by
  refine ⟨h.1, ?_⟩
  rcases h.2 with h0 | ⟨g, cap, cur, hv, hg, hh, hr⟩
  · exact .inl h0
  · exact .inr ⟨g, cap, cur, hv, hg, hap _ _ _ hte hh, hr⟩
theorem clashD_at {xs ys : List Iss} {d : Int} {n : Nat} (hn : min (ofD xs d).length (ofD ys d).length = n) {j : Nat} (hj : j < (diffL ((ofD xs d).take n) ((ofD ys d).take n)).length) :
    ∃ p, ∃ hp : p < (ofD xs d).length, p < n ∧ (diffL ((ofD xs d).take n) ((ofD ys d).take n))[j] = (p : Int) ∧ (clashD xs ys d).take (j + 1) = (clashD xs ys d).take j ++ [((ofD xs d)[p].d, (ofD xs d)[p].l)] := by
  have hm := List.getElem_mem hj
  unfold diffL diffJ at hm
  obtain ⟨p, hp, he⟩ := List.mem_map.1 hm
  have hp2 := (List.mem_filter.1 hp).1
  rw [List.mem_range, List.length_take, List.length_take] at hp2
  have hpx : p < (ofD xs d).length := by omega
  have he2 : (diffL ((ofD xs d).take n) ((ofD ys d).take n))[j] = (p : Int) := he.symm
  refine ⟨p, hpx, by omega, he2, ?_⟩
  unfold clashD
  rw [hn, List.take_succ_eq_append_getElem (by rw [List.length_map]; exact hj), List.getElem_map, he2]
  simp only [Int.toNat_natCast, getD_at hpx]
theorem clashD_len {xs ys : List Iss} {d : Int} {n : Nat} (hn : min (ofD xs d).length (ofD ys d).length = n) : (clashD xs ys d).length = (diffL ((ofD xs d).take n) ((ofD ys d).take n)).length := by
  unfold clashD
  rw [hn, List.length_map]
theorem issuesOf_up (vI vN vD : Value) (d : Int) (w : World) (hI : ∃ A n c, vI = .slice A n c) :
    Calls Try.prog 66 #[.agg #[vI, vN, vD], .int .i64 d] w fun e w' => ∃ dB nB, e = .returned (.func (.func 111) #[] #[.pointer (some ⟨dB, 0, none⟩), .pointer (some ⟨nB, 0, none⟩)]) ∧ Lies w' dB 118 #[vI, vN, vD] ∧ Lies w' nB 3 #[.int .i64 d] ∧ Below w.heap.size w w' := by
  refine (issuesOf_any vI vN vD d w hI).mono ?_
  rintro e w' ⟨rfl, rfl⟩
  exact ⟨_, _, rfl, (Lies.made w _ _).alloc _, Lies.new (by simp), by (repeat' (first | (with_reducible first | exact Below.refl _ _ | assumption | refine Below.alloc ?_ ?_ _ | refine Below.setCell ?_ ?_ _ | refine below_row ?_ ?_ _ | refine Below.drew ?_ | refine below_drewN ?_ _ | refine Below.trans ?_ (Below.mono (by assumption) ?_)) | exact Nat.le_refl _ | omega | (simp; done) | (simp; omega) | exact Below.size (by assumption)))⟩

set_option maxRecDepth 100000 in
set_option maxHeartbeats 16000000 in
theorem sClash_any {vI vJ : Value} {xs ys : List Iss} {w : World} (h : RegAt w vI xs) (h2 : RegAt w vJ ys) : Calls Try.prog 46 #[.agg #[vI], .agg #[vJ]] w (UsesP (clashE xs ys) w) := by
  have HRX := Lib.hid (fun W (hW : Below w.heap.size w W) => h.after hW)
  have HRY := Lib.hid (fun W (hW : Below w.heap.size w W) => h2.after hW)
  obtain ⟨A, c, b, off, vi, vd, rfl, hA, hc⟩ := h.at_.row
  obtain ⟨B, e, b2, off2, ui, ud, rfl, hB, hd⟩ := h2.at_.row
  have hlx := h.len
  have hly := h2.len
  have HA := Lib.hid hA
  have HB := Lib.hid hB
  have HC := Lib.hid hc
  have HD := Lib.hid hd
  have HSX := Lib.hid (fun x hx => h.small x hx)
  have HSY := Lib.hid (fun x hx => h2.small x hx)
  have LJ : Hid (Lies ((w.alloc (.cells #[.slice A xs.length c] 24)).alloc (.cells #[.slice B ys.length e] 24)) (w.heap.size + 1) 24 #[.slice B ys.length e]) := Lib.hid (Lies.new (by simp))
  obtain ⟨k0, hk0, hk1, hk2, hk3⟩ := info_parts infoRef
  clear h h2 hA hc hB hd
  unfold clashE bothE
  by_cases h0 : layE xs = 0
  · have HL := Lib.hid (fun W hW => lay_yes (HRX.out W hW) h0)
    obtain ⟨-, hx2, hx3, -, -, -⟩ := layE_ok h0
    rw [if_neg (show ¬ layE xs ≠ 0 by simpa using h0)]
    unfold DeskAt at HL
    by_cases h1 : layE ys = 0
    · have HM := Lib.hid (fun W hW => lay_yes (HRY.out W hW) h1)
      obtain ⟨-, hy2, hy3, -, -, -⟩ := layE_ok h1
      rw [if_neg (show ¬ layE ys ≠ 0 by simpa using h1)]
      unfold DeskAt at HM
      have HALL := Lib.hid (cJ_all hx2 hy2)
      have HCJ := Lib.hid (cJ_le hx2 hy2)
      have HSTX := Lib.hid (right_sorted hx2)
      have HSTY := Lib.hid (right_sorted hy2)
      have hz20 : (numbersL xs).length ≤ 1000 := by omega
      obtain ⟨RR, hRR⟩ : ∃ RR : List (Int × Int) × Int, (clashR xs ys xs.length, (0 : Int)) = RR := ⟨_, rfl⟩
      rw [hRR]
      have HRR := Lib.hid hRR
      clear h0 h1 hx2 hx3 hy2 hy3 hRR
      generalize chainsL xs (numbersL xs) = cs at *
      generalize chainsL ys (numbersL ys) = ds at *
      generalize numbersL ys = ny at *
      generalize numbersL xs = zs at *
      go_enter Try.func46, Try.ntmps46
      go_wp2_with fail
      refine (HL.out _ (by (repeat' (first | (with_reducible first | exact Below.refl _ _ | assumption | refine Below.alloc ?_ ?_ _ | refine Below.setCell ?_ ?_ _ | refine below_row ?_ ?_ _ | refine Below.drew ?_ | refine below_drewN ?_ _ | refine Below.trans ?_ (Below.mono (by assumption) ?_)) | exact Nat.le_refl _ | omega | (simp; done) | (simp; omega) | exact Below.size (by assumption))))).mono ?_
      rintro e1 w1 ⟨⟨vN, vD, rfl, hN, hD⟩, hb1⟩
      have s1 := hb1.size; try simp only [World.size_alloc, World.size_setCell, World.size_drew, setRow_size] at s1
      have HI1 := Lib.hid (fun W (hW : Below w1.heap.size w1 W) => hN.after hW)
      obtain ⟨AN, cN, bN, oN, rfl, hAN, hcN⟩ := hN
      obtain ⟨AD, cD, rfl⟩ := hD.slice
      have HAN := Lib.hid hAN
      have HCN := Lib.hid (fun W (hW : Below w1.heap.size w1 W) i (h : i < zs.length) => cell_keep hW (hcN i h))
      have hbw1 : Below w.heap.size w w1 := by (repeat' (first | (with_reducible first | exact Below.refl _ _ | assumption | refine Below.alloc ?_ ?_ _ | refine Below.setCell ?_ ?_ _ | refine below_row ?_ ?_ _ | refine Below.drew ?_ | refine below_drewN ?_ _ | refine Below.trans ?_ (Below.mono (by assumption) ?_)) | exact Nat.le_refl _ | omega | (simp; done) | (simp; omega) | exact Below.size (by assumption)))
      have hs1 := hbw1.size
      have LJ1 := Lib.hid ((LJ.out.after hb1).alloc (.cells #[.slice A xs.length c, .slice AN zs.length cN, .slice AD cs.length cD] 118))
      have LD1 := Lib.hid (Lies.made w1 118 #[.slice A xs.length c, .slice AN zs.length cN, .slice AD cs.length cD])
      have y0 := LJ1.out.cell 0
      have zy := LJ1.out.lt
      clear hD hb1 HL hAN hcN LJ
      go_wp2_with fail
      refine (HM.out _ (by (repeat' (first | (with_reducible first | exact Below.refl _ _ | assumption | refine Below.alloc ?_ ?_ _ | refine Below.setCell ?_ ?_ _ | refine below_row ?_ ?_ _ | refine Below.drew ?_ | refine below_drewN ?_ _ | refine Below.trans ?_ (Below.mono (by assumption) ?_)) | exact Nat.le_refl _ | omega | (simp; done) | (simp; omega) | exact Below.size (by assumption))))).mono ?_
      rintro e2 w2 ⟨⟨vM, vE, rfl, hM, hE⟩, hb2⟩
      have s2 := hb2.size; try simp only [World.size_alloc, World.size_setCell, World.size_drew, setRow_size] at s2
      obtain ⟨AM, cM, rfl⟩ := hM.slice
      obtain ⟨AE, cE, rfl⟩ := hE.slice
      have hbw2 : Below w.heap.size w w2 := by (repeat' (first | (with_reducible first | exact Below.refl _ _ | assumption | refine Below.alloc ?_ ?_ _ | refine Below.setCell ?_ ?_ _ | refine below_row ?_ ?_ _ | refine Below.drew ?_ | refine below_drewN ?_ _ | refine Below.trans ?_ (Below.mono (by assumption) ?_)) | exact Nat.le_refl _ | omega | (simp; done) | (simp; omega) | exact Below.size (by assumption)))
      have hb12 : Below w1.heap.size w1 w2 := ((Below.refl _ w1).alloc (Nat.le_refl _) _).trans (hb2.mono (by simp))
      have hs2 := hbw2.size
      have LD2 := Lib.hid ((LD1.out.after hb2).alloc (.cells #[.slice B ys.length e, .slice AM ny.length cM, .slice AE ds.length cE] 118))
      have LE2 := Lib.hid (Lies.made w2 118 #[.slice B ys.length e, .slice AM ny.length cM, .slice AE ds.length cE])
      have d1 := LD2.out.cell 1
      have zd := LD2.out.lt
      clear hM hE hb2 HM LD1 LJ1 y0 zy
      go_wp2_with fail
      obtain ⟨wA, hWA⟩ : ∃ W, w2.alloc (.cells #[.slice B ys.length e, .slice AM ny.length cM, .slice AE ds.length cE] 118) = W := ⟨_, rfl⟩
      have hbA : Below w.heap.size w wA := by rw [← hWA]; exact hbw2.alloc hs2 _
      have hb1A : Below w1.heap.size w1 wA := by rw [← hWA]; exact hb12.alloc hb12.size _
      rw [hWA] at LD2 LE2 ⊢
      clear hWA d1 zd
      have hsA := hbA.size
      go_loopw [9, 36] (fun v i wr => ∃ (k : Nat) (AO : Option Addr) (cO : Nat), k ≤ zs.length ∧ i = .int .i64 k ∧ v = .slice AO (cJ xs ys zs k).length cO ∧ Hid (wr.ownsRow wA.heap.size 26 2 (.slice AO (cJ xs ys zs k).length cO) (cJ xs ys zs k).length (cellsI (cJ xs ys zs k))) ∧ Below wA.heap.size wA wr) (fun _ i _ => zs.length - (intOf i).toNat)
      case atStart => exact ⟨0, none, 0, by omega, rfl, rfl, Lib.hid (World.ownsRow_nil _ _ _ _), Below.refl _ _⟩
      case round =>
        obtain ⟨k, AO, cO, hk, rfl, rfl, HO, hb⟩ := hrel
        have hzz := hb.size
        have hbwr : Below w.heap.size w wr := hbA.trans (hb.mono hsA)
        by_cases hlt : k < zs.length
        · obtain rfl := HAN.out (by omega)
          have kl1 : (k : Int) < (zs.length : Int) := by omega
          have hb1r : Below w1.heap.size w1 wr := hb1A.trans (hb.mono hb1A.size)
          have z0 := HCN.out wr hb1r k hlt
          have HST := Lib.hid (cJ_step (xs := xs) (ys := ys) hlt)
          have HCJ2 := Lib.hid (HCJ.out (k + 1))
          rw [HST.out, List.length_append] at HCJ2
          have HDSK := Lib.hid (fun W (hW : Below wr.heap.size wr W) => And.intro (LD2.out.after (hb.trans (hW.mono hzz))) (LE2.out.after (hb.trans (hW.mono hzz))))
          generalize zs[k] = d at *
          have HI1 := Lib.hid (fun W => issuesOf_up (.slice A xs.length c) (.slice (some ⟨bN, oN, none⟩) zs.length cN) (.slice AD cs.length cD) d W ⟨_, _, _, rfl⟩)
          have HI2 := Lib.hid (fun W => issuesOf_up (.slice B ys.length e) (.slice AM ny.length cM) (.slice AE ds.length cE) d W ⟨_, _, _, rfl⟩)
          have HK1 := Lib.hid (fun dB nB W (hW : Below w.heap.size w W) hd ht => collect_any dB nB A c b off (.slice (some ⟨bN, oN, none⟩) zs.length cN) (.slice AD cs.length cD) xs vi vd d W hlx HSTX.out hd ht HA.out (HC.out.after hW))
          have HK2 := Lib.hid (fun dB nB W (hW : Below w.heap.size w W) hd ht => collect_any dB nB B e b2 off2 (.slice AM ny.length cM) (.slice AE ds.length cE) ys ui ud d W hly HSTY.out hd ht HB.out (HD.out.after hW))
          have hal := HDSK.out wr (Below.refl _ _)
          have x0 := hal.1.cell 0
          have x1 := hal.1.cell 1
          have x2 := hal.1.cell 2
          have y0 := hal.2.cell 0
          have y1 := hal.2.cell 1
          have y2 := hal.2.cell 2
          have zx := hal.1.lt
          have zy := hal.2.lt
          clear hal
          go_upto_region 11 with fail
          go_cut [12, 13] (fun s12 s13 wx => Hid (wx.ownsRow wr.heap.size 45 5 s12 (idxs xs d).length (rowsF xs vi vd (idxs xs d))) ∧ Hid (wx.ownsRow wr.heap.size 45 5 s13 (idxs ys d).length (rowsF ys ui ud (idxs ys d))) ∧ Below wr.heap.size wr wx)
          case first =>
            go_region_held3 (fun W => W.cell? ⟨w1.heap.size, 0, none⟩ = some (.slice A xs.length c) ∧ W.cell? ⟨w1.heap.size, 1, none⟩ = some (.slice (some ⟨bN, oN, none⟩) zs.length cN) ∧ W.cell? ⟨w1.heap.size, 2, none⟩ = some (.slice AD cs.length cD) ∧ W.cell? ⟨w2.heap.size, 0, none⟩ = some (.slice B ys.length e) ∧ W.cell? ⟨w2.heap.size, 1, none⟩ = some (.slice AM ny.length cM) ∧ W.cell? ⟨w2.heap.size, 2, none⟩ = some (.slice AE ds.length cE)) (go_keep) (first
              | (go_at_call 66; (with_reducible refine (HI1.out _).mono ?_); rintro e3 w3 ⟨d3, n3, rfl, hd3, ht3, hb3⟩; have hr3 : Below wr.heap.size wr w3 := (by (repeat' (first | (with_reducible first | exact Below.refl _ _ | assumption | refine Below.alloc ?_ ?_ _ | refine Below.setCell ?_ ?_ _ | refine below_row ?_ ?_ _ | refine Below.drew ?_ | refine below_drewN ?_ _ | refine Below.trans ?_ (Below.mono (by assumption) ?_)) | exact Nat.le_refl _ | omega | (simp; done) | (simp; omega) | exact Below.size (by assumption)))); have s3 := hr3.size; have HD3 := Lib.hid hd3; have HT3 := Lib.hid ht3; have hal3 := HDSK.out w3 hr3; have m3x0 := hal3.1.cell 0; have m3x1 := hal3.1.cell 1; have m3x2 := hal3.1.cell 2; have m3y0 := hal3.2.cell 0; have m3y1 := hal3.2.cell 1; have m3y2 := hal3.2.cell 2; clear hal3; clear hd3 ht3 hb3)
              | (go_at_call 93; (with_reducible refine (HK1.out d3 n3 _ (by (repeat' (first | (with_reducible first | exact Below.refl _ _ | assumption | refine Below.alloc ?_ ?_ _ | refine Below.setCell ?_ ?_ _ | refine below_row ?_ ?_ _ | refine Below.drew ?_ | refine below_drewN ?_ _ | refine Below.trans ?_ (Below.mono (by assumption) ?_)) | exact Nat.le_refl _ | omega | (simp; done) | (simp; omega) | exact Below.size (by assumption)))) HD3.out HT3.out).mono ?_); rintro e4 w4 ⟨v4, rfl, ho4, hb4⟩; have hr4 : Below wr.heap.size wr w4 := (by (repeat' (first | (with_reducible first | exact Below.refl _ _ | assumption | refine Below.alloc ?_ ?_ _ | refine Below.setCell ?_ ?_ _ | refine below_row ?_ ?_ _ | refine Below.drew ?_ | refine below_drewN ?_ _ | refine Below.trans ?_ (Below.mono (by assumption) ?_)) | exact Nat.le_refl _ | omega | (simp; done) | (simp; omega) | exact Below.size (by assumption)))); have s4 := hr4.size; have HO4 := Lib.hid ho4; obtain ⟨A4, c4, g4, rfl, -⟩ := own_form ho4; have hal4 := HDSK.out w4 hr4; have m4x0 := hal4.1.cell 0; have m4x1 := hal4.1.cell 1; have m4x2 := hal4.1.cell 2; have m4y0 := hal4.2.cell 0; have m4y1 := hal4.2.cell 1; have m4y2 := hal4.2.cell 2; clear hal4; clear ho4 hb4)
              | (go_at_call 66; (with_reducible refine (HI2.out _).mono ?_); rintro e5 w5 ⟨d5, n5, rfl, hd5, ht5, hb5⟩; have hr5 : Below wr.heap.size wr w5 := (by (repeat' (first | (with_reducible first | exact Below.refl _ _ | assumption | refine Below.alloc ?_ ?_ _ | refine Below.setCell ?_ ?_ _ | refine below_row ?_ ?_ _ | refine Below.drew ?_ | refine below_drewN ?_ _ | refine Below.trans ?_ (Below.mono (by assumption) ?_)) | exact Nat.le_refl _ | omega | (simp; done) | (simp; omega) | exact Below.size (by assumption)))); have s5 := hr5.size; have HD5 := Lib.hid hd5; have HT5 := Lib.hid ht5; have HO5 := Lib.hid (own_after HO4.out hb5); have hal5 := HDSK.out w5 hr5; have m5x0 := hal5.1.cell 0; have m5x1 := hal5.1.cell 1; have m5x2 := hal5.1.cell 2; have m5y0 := hal5.2.cell 0; have m5y1 := hal5.2.cell 1; have m5y2 := hal5.2.cell 2; clear hal5; clear hd5 ht5 hb5)
              | (go_at_call 93; (with_reducible refine (HK2.out d5 n5 _ (by (repeat' (first | (with_reducible first | exact Below.refl _ _ | assumption | refine Below.alloc ?_ ?_ _ | refine Below.setCell ?_ ?_ _ | refine below_row ?_ ?_ _ | refine Below.drew ?_ | refine below_drewN ?_ _ | refine Below.trans ?_ (Below.mono (by assumption) ?_)) | exact Nat.le_refl _ | omega | (simp; done) | (simp; omega) | exact Below.size (by assumption)))) HD5.out HT5.out).mono ?_); rintro e6 w6 ⟨v6, rfl, ho6, hb6⟩; have hr6 : Below wr.heap.size wr w6 := (by (repeat' (first | (with_reducible first | exact Below.refl _ _ | assumption | refine Below.alloc ?_ ?_ _ | refine Below.setCell ?_ ?_ _ | refine below_row ?_ ?_ _ | refine Below.drew ?_ | refine below_drewN ?_ _ | refine Below.trans ?_ (Below.mono (by assumption) ?_)) | exact Nat.le_refl _ | omega | (simp; done) | (simp; omega) | exact Below.size (by assumption)))); have s6 := hr6.size; have HO6 := Lib.hid (own_after HO5.out hb6); have HP6 := Lib.hid ho6; obtain ⟨A6, c6, g6, rfl, -⟩ := own_form ho6; have hal6 := HDSK.out w6 hr6; have m6x0 := hal6.1.cell 0; have m6x1 := hal6.1.cell 1; have m6x2 := hal6.1.cell 2; have m6y0 := hal6.2.cell 0; have m6y1 := hal6.2.cell 1; have m6y2 := hal6.2.cell 2; clear hal6; clear ho6 hb6))
            all_goals (go_wp2_with fail; go_meet)
            all_goals exact ⟨Lib.hid (own_less HO6.out hr3.size), Lib.hid (own_less HP6.out hr5.size), hr6⟩
          case rest =>
            obtain ⟨HX, HY, hbx⟩ := hcut
            obtain ⟨wx, rfl⟩ : ∃ wx : World, wx = wc := ⟨_, rfl⟩
            have hsx := hbx.size
            have hbwx : Below w.heap.size w wx := hbwr.trans (hbx.mono hbwr.size)
            have hbAx : Below wA.heap.size wA wx := hb.trans (hbx.mono hzz)
            have HOx := Lib.hid (own_after HO.out hbx)
            have HXX := Lib.hid HX.out
            obtain ⟨AX, cX, gX, rfl, hAX, hcX, hrX⟩ := rows_form HX.out (HC.out.after hbwx)
            obtain ⟨AY, cY, gY, rfl, hAY, hcY, hrY⟩ := rows_form HY.out (HD.out.after hbwx)
            clear HX HY HI1 HI2 HK1 HK2
            obtain ⟨n, hn⟩ : ∃ n, min (ofD xs d).length (ofD ys d).length = n := ⟨_, rfl⟩
            have hn1 : n ≤ (ofD xs d).length := by omega
            have hn2 : n ≤ (ofD ys d).length := by omega
            have hlX : (ofD xs d).length ≤ 1000 := by rw [← ofD_idxs, List.length_map]; exact Nat.le_trans (idxs_le xs d) hlx
            have hrXn := hrX.take n
            have hrYn := hrY.take n
            have HDF := Lib.hid (fun W (hW : Below wx.heap.size wx W) => diffX_any AX AY cX gX 0 cY gY 0 n ((ofD xs d).take n) ((ofD ys d).take n) _ _ _ _ W (by rw [List.length_take]; omega) (by rw [List.length_take]; omega) (by omega) (fun h => hAX (by omega)) (hrXn.after hW) (fun h => hAY (by omega)) (hrYn.after hW) (fun x hx => HSX.out x (List.mem_filter.1 (List.mem_of_mem_take hx)).1) (fun x hx => HSY.out x (List.mem_filter.1 (List.mem_of_mem_take hx)).1))
            have hni : (n : Int) = min ((ofD xs d).length : Int) ((ofD ys d).length : Int) := by omega
            go_upto_region 13 with fail
            have hmin : (if (ofD ys d).length < (ofD xs d).length then ((ofD ys d).length : Int) else ((ofD xs d).length : Int)) = (n : Int) := by split <;> omega
            rw [hmin]
            have q1 : (0 : Int) ≤ (n : Int) := by omega
            have q2 : (n : Int) ≤ (cX : Int) := by omega
            have q3 : (n : Int) ≤ (cY : Int) := by omega
            clear hni hmin
            go_region_held3 (fun _ => True) (trivial) ((go_at_call 94; refine (HDF.out _ (by (repeat' (first | (with_reducible first | exact Below.refl _ _ | assumption | refine Below.alloc ?_ ?_ _ | refine Below.setCell ?_ ?_ _ | refine below_row ?_ ?_ _ | refine Below.drew ?_ | refine below_drewN ?_ _ | refine Below.trans ?_ (Below.mono (by assumption) ?_)) | exact Nat.le_refl _ | omega | (simp; done) | (simp; omega) | exact Below.size (by assumption))))).mono ?_; rintro e7 w7 ⟨v7, rfl, ho7, hb7⟩; have hx7 : Below wx.heap.size wx w7 := (by (repeat' (first | (with_reducible first | exact Below.refl _ _ | assumption | refine Below.alloc ?_ ?_ _ | refine Below.setCell ?_ ?_ _ | refine below_row ?_ ?_ _ | refine Below.drew ?_ | refine below_drewN ?_ _ | refine Below.trans ?_ (Below.mono (by assumption) ?_)) | exact Nat.le_refl _ | omega | (simp; done) | (simp; omega) | exact Below.size (by assumption)))); have HO7 := Lib.hid ho7; obtain ⟨A7, c7, b7, o7, rfl, hA7, hc7⟩ := ints_of_own ho7; clear ho7 hb7))
            have hAx7 : Below wA.heap.size wA w7 := hbAx.trans (hx7.mono hbAx.size)
            have HX7 := Lib.hid (own_after HXX.out hx7)
            have HO8 := Lib.hid (own_after HOx.out hx7)
            have HLEN := Lib.hid (clashD_len (xs := xs) (ys := ys) (d := d) hn)
            have HAT := Lib.hid (fun j hj => clashD_at (xs := xs) (ys := ys) (d := d) hn (j := j) hj)
            have hll := HLEN.out
            have hcj := HCJ2.out
            clear hrX hrY hrXn hrYn HDF hA7 hc7 q1 q2 q3 HDSK HOx HO hAX hAY
            generalize clashD xs ys d = cd at *
            generalize diffL ((ofD xs d).take n) ((ofD ys d).take n) = D at *
            generalize hcjn : cJ xs ys zs k = cj at *
            have HCJN := Lib.hid hcjn
            clear hcjn
            go_wp2_with fail
            obtain ⟨wo, rfl⟩ : ∃ wo : World, wo = wr := ⟨_, rfl⟩
            go_loopw [9, 61] (fun v i wq => ∃ (j : Nat) (AP : Option Addr) (cP : Nat), j ≤ D.length ∧ i = .int .i64 j ∧ v = .slice AP (cj ++ cd.take j).length cP ∧ Hid (wq.ownsRow wA.heap.size 26 2 (.slice AP (cj ++ cd.take j).length cP) (cj ++ cd.take j).length (cellsI (cj ++ cd.take j))) ∧ Hid (wq.ownsRow wo.heap.size 45 5 (.slice AX (ofD xs d).length cX) (idxs xs d).length (rowsF xs vi vd (idxs xs d))) ∧ Hid (wq.ownsRow wx.heap.size 3 1 (.slice A7 D.length c7) D.length (cellsN D)) ∧ Below wA.heap.size wA wq) (fun _ i _ => D.length - (intOf i).toNat)
            case atStart => exact ⟨0, AO, cO, by omega, rfl, by simp, Lib.hid (by simpa using HO8.out), HX7, HO7, hAx7⟩
            case round =>
              obtain ⟨j, AP, cP, hj, rfl, rfl, HP, HXq, HDq, hbq⟩ := hrel
              have hzq := hbq.size
              have hbwr : Below w.heap.size w wr := hbA.trans (hbq.mono hsA)
              by_cases hjl : j < D.length
              · obtain ⟨p, hp, hpn, he, hta⟩ := HAT.out j hjl
                have kj : (j : Int) < (D.length : Int) := by omega
                have kp : (p : Int) < ((ofD xs d).length : Int) := by omega
                obtain ⟨Aq, cq, gq, hvq, hfq⟩ := own_form HDq.out
                injection hvq with i1 i2 i3
                subst i1 i3
                obtain ⟨-, rfl, cur, hl7, hcur⟩ := hfq (by omega)
                have dj : wr.cell? ⟨gq, j, none⟩ = some (.int .i64 (p : Int)) := by rw [hl7.cell, hcur j (by omega), ← he]; simp [cellsN, hjl]
                obtain ⟨Ax, cx, gx, hvx, hax, hrx⟩ := rows_at HXq.out (HC.out.after hbwr)
                injection hvx with i1 i2 i3
                subst i1 i3
                obtain rfl := hax (by omega)
                obtain ⟨r0, r1, r2, r3, r4, -⟩ := hrx p hp
                obtain ⟨⟨A1, n1, c1, e1⟩, A2, n2, c2, e2⟩ := hrx.slices hp
                (try dsimp only at r3 r4 e1 e2)
                rw [e1] at r3
                rw [e2] at r4
                rw [Nat.zero_add] at r0 r1 r2 r3 r4
                have HNM := Lib.hid (fun W => nameOf_any (ofD xs d)[p].d (ofD xs d)[p].l (ofD xs d)[p].k (.slice A1 n1 c1) (.slice A2 n2 c2) W)
                have htl : (cj ++ cd.take j).length ≤ 1000 := by rw [List.length_append, List.length_take]; omega
                have HT2 : Hid (cj ++ cd.take (j + 1) = (cj ++ cd.take j) ++ [((ofD xs d)[p].d, (ofD xs d)[p].l)]) := Lib.hid (by rw [hta, List.append_assoc])
                clear hta he hfq hl7 hcur hrx e1 e2 hax
                generalize (ofD xs d)[p].d = pd at *
                generalize (ofD xs d)[p].l = pl at *
                generalize (ofD xs d)[p].k = pk at *
                generalize hDD : cd.take (j + 1) = ct1 at *
                generalize cj ++ cd.take j = tj at *
                have zc := cellsI_len tj
                go_wp2_with fail
                refine (HNM.out _).mono ?_
                rintro e9 w9 ⟨rfl, hb9⟩
                have hbq9 : Below wr.heap.size wr w9 := by (repeat' (first | (with_reducible first | exact Below.refl _ _ | assumption | refine Below.alloc ?_ ?_ _ | refine Below.setCell ?_ ?_ _ | refine below_row ?_ ?_ _ | refine Below.drew ?_ | refine below_drewN ?_ _ | refine Below.trans ?_ (Below.mono (by assumption) ?_)) | exact Nat.le_refl _ | omega | (simp; done) | (simp; omega) | exact Below.size (by assumption)))
                have hA9 : Below wA.heap.size wA w9 := hbq.trans (hbq9.mono hzq)
                have HP9 := Lib.hid (own_after HP.out hbq9)
                have HX9 := Lib.hid (own_after HXq.out hbq9)
                have HD9 := Lib.hid (own_after HDq.out hbq9)
                have hs9 := hA9.size
                clear hb9 HP HXq HDq
                go_wp2_with (at_builtin; refine wpList_row rfl _ _ 69 rfl wA.heap.size 26 k0 (.agg #[.int .i64 0, .int .i64 0]) 2 16 Try.underlying69 hk0 hk1 hk2 hk3 rfl (by decide) _ tj.length (cellsI tj) rfl (HP9.out.alloc _) (some ⟨_, 0, none⟩) 1 1 [.int .i64 pd, .int .i64 pl] (by rfl) (fun h => by cases h) (by rfl) (fun ad had => by injection had with had; subst had; exact World.news_of_block (Lies.made _ _ _)) (by simp [Value.oneCell']) (by unfold maxLen; omega) (by omega) (by simp; omega) ?_; intro v10 w10 ho10 hap10 hbl10; have hb10 : Below wA.heap.size wA w10 := hbl10 wA (by (repeat' (first | (with_reducible first | exact Below.refl _ _ | assumption | refine Below.alloc ?_ ?_ _ | refine Below.setCell ?_ ?_ _ | refine below_row ?_ ?_ _ | refine Below.drew ?_ | refine below_drewN ?_ _ | refine Below.trans ?_ (Below.mono (by assumption) ?_)) | exact Nat.le_refl _ | omega | (simp; done) | (simp; omega) | exact Below.size (by assumption)))) (Nat.le_refl _); have HO10 := Lib.hid ho10; have HX10 := Lib.hid (own_apart2 (HX9.out.alloc (.cells #[.int .i64 pd, .int .i64 pl] 26)) (by decide) hap10); have HD10 := Lib.hid (own_apart2 (HD9.out.alloc (.cells #[.int .i64 pd, .int .i64 pl] 26)) (by decide) hap10); obtain ⟨A10, c10, g10, rfl, -⟩ := own_form ho10; clear ho10 hap10 hbl10)
                go_roundw
                case rel => exact ⟨j + 1, A10, c10, by omega, by go_num, by rw [hDD, HT2.out]; simp, Lib.hid (by rw [hDD, HT2.out]; have := HO10.out; simpa [cellsI] using this), HX10, HD10, hb10⟩
                case measure => simp [intOf]; omega
              · have hje : j = D.length := by omega
                have kj0 : ¬ (j : Int) < (D.length : Int) := by omega
                have HTK : Hid (cj ++ cd.take j = cJ xs ys zs (k + 1)) := Lib.hid (by rw [HST.out, List.take_of_length_le (by omega)])
                rw [HTK.out] at HP ⊢
                clear HTK
                subst hje
                go_wp2_with fail
                go_roundw
                case rel => exact ⟨k + 1, AP, cP, by omega, by go_num, rfl, HP, hbq⟩
                case measure => simp [intOf]; omega
        · have hke : k = zs.length := by omega
          subst hke
          have kl0 : ¬ (zs.length : Int) < (zs.length : Int) := by omega
          have HO2 := Lib.hid HO.out
          rw [HALL.out] at HO2 ⊢
          clear HO
          go_wp2_with fail
          go_ret2
          obtain rfl := HRR.out
          exact ⟨_, rfl, refs_of_own HO2.out, hbwr⟩
    · have HM := Lib.hid (fun W hW => lay_err (HRY.out W hW) h1)
      rw [if_pos h1]
      have hne : (layE ys != 0) = true := by simpa using h1
      clear h0 h1 hx2 hx3
      generalize chainsL xs (numbersL xs) = cs at *
      generalize numbersL xs = zs at *
      generalize layE ys = ey at *
      go_enter Try.func46, Try.ntmps46
      go_wp2_with fail
      refine (HL.out _ (by (repeat' (first | (with_reducible first | exact Below.refl _ _ | assumption | refine Below.alloc ?_ ?_ _ | refine Below.setCell ?_ ?_ _ | refine below_row ?_ ?_ _ | refine Below.drew ?_ | refine below_drewN ?_ _ | refine Below.trans ?_ (Below.mono (by assumption) ?_)) | exact Nat.le_refl _ | omega | (simp; done) | (simp; omega) | exact Below.size (by assumption))))).mono ?_
      rintro e1 w1 ⟨⟨vN, vD, rfl, hN, hD⟩, hb1⟩
      have s1 := hb1.size; try simp only [World.size_alloc, World.size_setCell, World.size_drew, setRow_size] at s1
      obtain ⟨AN, cN, rfl⟩ := hN.slice
      obtain ⟨AD, cD, rfl⟩ := hD.slice
      have hbw1 : Below w.heap.size w w1 := by (repeat' (first | (with_reducible first | exact Below.refl _ _ | assumption | refine Below.alloc ?_ ?_ _ | refine Below.setCell ?_ ?_ _ | refine below_row ?_ ?_ _ | refine Below.drew ?_ | refine below_drewN ?_ _ | refine Below.trans ?_ (Below.mono (by assumption) ?_)) | exact Nat.le_refl _ | omega | (simp; done) | (simp; omega) | exact Below.size (by assumption)))
      have LJ1 := Lib.hid ((LJ.out.after hb1).alloc (.cells #[.slice A xs.length c, .slice AN zs.length cN, .slice AD cs.length cD] 118))
      have y0 := LJ1.out.cell 0
      have zy := LJ1.out.lt
      clear hD hN hb1 HL LJ
      go_wp2_with fail
      refine (HM.out _ (by (repeat' (first | (with_reducible first | exact Below.refl _ _ | assumption | refine Below.alloc ?_ ?_ _ | refine Below.setCell ?_ ?_ _ | refine below_row ?_ ?_ _ | refine Below.drew ?_ | refine below_drewN ?_ _ | refine Below.trans ?_ (Below.mono (by assumption) ?_)) | exact Nat.le_refl _ | omega | (simp; done) | (simp; omega) | exact Below.size (by assumption))))).mono ?_
      rintro e2 w2 ⟨rfl, hb2⟩
      have s2 := hb2.size; try simp only [World.size_alloc, World.size_setCell, World.size_drew, setRow_size] at s2
      have hbw2 : Below w.heap.size w w2 := by (repeat' (first | (with_reducible first | exact Below.refl _ _ | assumption | refine Below.alloc ?_ ?_ _ | refine Below.setCell ?_ ?_ _ | refine below_row ?_ ?_ _ | refine Below.drew ?_ | refine below_drewN ?_ _ | refine Below.trans ?_ (Below.mono (by assumption) ?_)) | exact Nat.le_refl _ | omega | (simp; done) | (simp; omega) | exact Below.size (by assumption)))
      clear hb2
      go_wp2_with fail
      go_ret2
      exact ⟨.slice none 0 0, rfl, refs_nil _, by (repeat' (first | (with_reducible first | exact Below.refl _ _ | assumption | refine Below.alloc ?_ ?_ _ | refine Below.setCell ?_ ?_ _ | refine below_row ?_ ?_ _ | refine Below.drew ?_ | refine below_drewN ?_ _ | refine Below.trans ?_ (Below.mono (by assumption) ?_)) | exact Nat.le_refl _ | omega | (simp; done) | (simp; omega) | exact Below.size (by assumption)))⟩
  · have HL := Lib.hid (fun W hW => lay_err (HRX.out W hW) h0)
    rw [if_pos (show layE xs ≠ 0 from h0), if_pos h0]
    have hne : (layE xs != 0) = true := by simpa using h0
    clear h0
    generalize layE xs = ex at *
    go_enter Try.func46, Try.ntmps46
    go_wp2_with fail
    refine (HL.out _ (by (repeat' (first | (with_reducible first | exact Below.refl _ _ | assumption | refine Below.alloc ?_ ?_ _ | refine Below.setCell ?_ ?_ _ | refine below_row ?_ ?_ _ | refine Below.drew ?_ | refine below_drewN ?_ _ | refine Below.trans ?_ (Below.mono (by assumption) ?_)) | exact Nat.le_refl _ | omega | (simp; done) | (simp; omega) | exact Below.size (by assumption))))).mono ?_
    rintro e1 w1 ⟨rfl, hb1⟩
    have s1 := hb1.size; try simp only [World.size_alloc, World.size_setCell, World.size_drew, setRow_size] at s1
    go_wp2_with fail
    go_ret2
    exact ⟨.slice none 0 0, rfl, refs_nil _, by (repeat' (first | (with_reducible first | exact Below.refl _ _ | assumption | refine Below.alloc ?_ ?_ _ | refine Below.setCell ?_ ?_ _ | refine below_row ?_ ?_ _ | refine Below.drew ?_ | refine below_drewN ?_ _ | refine Below.trans ?_ (Below.mono (by assumption) ?_)) | exact Nat.le_refl _ | omega | (simp; done) | (simp; omega) | exact Below.size (by assumption)))⟩
end Go.Proofs.Ytkjfceajakhlfaa
