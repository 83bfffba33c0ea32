/- The reference: Differ. -/
import Derived.Test.YtnmcpkmiomknmaaUJ
import Derived.Test.YtnmcpkmiomknmaaZ5
namespace Go.Proofs.Ytnmcpkmiomknmaa
set_option linter.unusedVariables false
set_option linter.unusedSimpArgs false
open Go.RowKit

/-- The changes among the first k numbers. -/
def chgK (zs : List Int) (ca cb : Int → Int) (k : Nat) : List D3 := changesL (zs.take k) ca cb
theorem chgK_step {zs : List Int} {ca cb : Int → Int} {k : Nat} (h : k < zs.length) : chgK zs ca cb (k + 1) = chgK zs ca cb k ++ if ca zs[k] ≠ cb zs[k] then [(zs[k], ca zs[k], cb zs[k])] else [] := by
  unfold chgK changesL
  rw [List.take_succ_eq_append_getElem h, List.filter_append, List.map_append]
  congr 1
  by_cases e : ca zs[k] = cb zs[k] <;> simp [e]
theorem changesL_le (zs : List Int) (ca cb : Int → Int) : (changesL zs ca cb).length ≤ zs.length := by
  unfold changesL; rw [List.length_map]; exact List.length_filter_le _ _
theorem chgK_le (zs : List Int) (ca cb : Int → Int) (k : Nat) : (chgK zs ca cb k).length ≤ k := Nat.le_trans (changesL_le _ _ _) (List.length_take_le _ _)

set_option maxRecDepth 100000 in
set_option maxHeartbeats 16000000 in
theorem rDiffer_any {vI : Value} {xs : List Iss} {w : World} (d f t : Int) (h : RegAt w vI xs) : Calls Try.prog 44 #[.agg #[vI], .int .i64 d, .int .i64 f, .int .i64 t] w (DifferP (differE xs d f t) w) := by
  have HCK := Lib.hid (fun W (hW : Below w.heap.size w W) => rCheck_any (h.after hW))
  have HNU := Lib.hid (fun W (hW : Below w.heap.size w W) => rNumbers_v (h.after hW))
  obtain ⟨A, c, b, off, vi, vd, rfl, hA, hc⟩ := h.at_.row
  have hlen := h.len
  have HSM := Lib.hid (fun x hx => (h.small x hx))
  have LR := Lib.hid (Lies.made w 24 #[.slice A xs.length c])
  unfold differE
  by_cases h0 : layE xs = 0
  · obtain ⟨-, h2, h3, -, -, -⟩ := layE_ok h0
    have hns := numbers_same h2
    have HFY := Lib.hid (fun l (hh : hasN xs d l = true) W (hW : Below w.heap.size w W) => (rFind_any A c b off xs vi vd d l W hlen hA (hc.after hW)).mono (fun e w' h => h.yes hh))
    have HFN := Lib.hid (fun l (hh : hasN xs d l = false) W (hW : Below w.heap.size w W) => (rFind_any A c b off xs vi vd d l W hlen hA (hc.after hW)).mono (fun e w' h => h.no hh))
    rw [hns] at HNU
    rw [h0] at HCK
    rw [if_neg (by simpa using h0)]
    have hz20 : (numbersL xs).length ≤ 1000 := by omega
    by_cases hf : hasN xs d f = true
    · have HF1 := Lib.hid (fun W hW => HFY.out f hf W hW)
      have hqf : idxN xs d f < xs.length := of_decide_eq_true hf
      have hif := (hc _ hqf).2.2.2.2.2.2
      obtain ⟨⟨A1, n1, c1, hv1⟩, -⟩ := hc.slices hqf
      have hsf := HSM.out _ (List.getElem_mem hqf)
      rw [← getD_at hqf] at hif hsf
      obtain ⟨hifI, ⟨A2, c2, bX, oX, hv2, hAX, hcX⟩, -⟩ := hif
      rw [hv1, hv2] at HF1
      rw [hv1] at hifI
      by_cases ht : hasN xs d t = true
      · have HF2 := Lib.hid (fun W hW => HFY.out t ht W hW)
        rw [if_pos (by rw [hf, ht]; rfl)]
        have hqt : idxN xs d t < xs.length := of_decide_eq_true ht
        have hit := (hc _ hqt).2.2.2.2.2.2
        obtain ⟨⟨B1, m1, e1, hu1⟩, -⟩ := hc.slices hqt
        have hst := HSM.out _ (List.getElem_mem hqt)
        rw [← getD_at hqt] at hit hst
        obtain ⟨hitI, ⟨B2, e2, bY, oY, hu2, hAY, hcY⟩, -⟩ := hit
        rw [hu1, hu2] at HF2
        rw [hu1] at hitI
        have HCX := Lib.hid (fun z W (hW : Below w.heap.size w W) => rCountOf_any (xs.getD (idxN xs d f) zeroI) (.slice A1 n1 c1) (.slice A2 (xs.getD (idxN xs d f) zeroI).dims.length c2) z W hsf.1 (hifI.after hW) ⟨_, _, _, rfl⟩)
        have HCY := Lib.hid (fun z W (hW : Below w.heap.size w W) => rCountOf_any (xs.getD (idxN xs d t) zeroI) (.slice B1 m1 e1) (.slice B2 (xs.getD (idxN xs d t) zeroI).dims.length e2) z W hst.1 (hitI.after hW) ⟨_, _, _, rfl⟩)
        have HAX := Lib.hid hAX
        have HAY := Lib.hid hAY
        have HDX := Lib.hid hcX
        have HDY := Lib.hid hcY
        have hl1 := hsf.2
        have hl2 := hst.2
        obtain ⟨i0, hi0, hz0, hz1, hz2⟩ := info_parts infoN
        obtain ⟨j0, hj0, hx0, hx1, hx2⟩ := info_parts infoChange
        clear h0 h2 h3 hns HFY HFN h hA hc hf ht hqf hqt hifI hitI hv1 hv2 hu1 hu2 HSM hsf hst hAX hAY hcX hcY
        generalize xs.getD (idxN xs d f) zeroI = x at *
        generalize xs.getD (idxN xs d t) zeroI = y at *
        generalize numbersL xs = zs at *
        obtain ⟨RR, hRR⟩ : ∃ RR : List D3 × List Int × Int, (changesL zs (countI x.items) (countI y.items), diffL x.dims y.dims, (0 : Int)) = RR := ⟨_, rfl⟩
        rw [hRR]
        obtain ⟨M, hM⟩ : ∃ M, max x.dims.length y.dims.length = M := ⟨_, rfl⟩
        have hM1 : x.dims.length ≤ M := by omega
        have hM2 : y.dims.length ≤ M := by omega
        have hM3 : M ≤ x.dims.length ∨ M ≤ y.dims.length := by omega
        have HRR := Lib.hid hRR
        rw [diffL, hM] at HRR
        clear hRR hM
        generalize countI x.items = ca at *
        generalize countI y.items = cb at *
        generalize x.dims = DX at *
        generalize y.dims = DY at *
        generalize x.d = xd at *
        generalize x.l = xl at *
        generalize x.k = xk at *
        generalize y.d = yd at *
        generalize y.l = yl at *
        generalize y.k = yk at *
        go_enter Try.func44, Try.ntmps44
        go_wp2_with fail
        refine (HCK.out _ (by (repeat' (first | (with_reducible exact Below.refl _ _) | (with_reducible assumption) | (with_reducible refine Below.alloc ?_ ?_ _) | (with_reducible refine Below.setCell ?_ ?_ _) | (with_reducible refine below_row ?_ ?_ _) | (with_reducible refine Below.drew ?_) | (with_reducible refine below_drewN ?_ _) | (with_reducible refine Below.trans ?_ (Below.mono (by assumption) ?_)) | (first | exact Nat.le_refl _ | omega | (simp; done) | (simp; omega) | (exact Below.size (by assumption))))))).mono ?_
        rintro e w1 ⟨rfl, hb1⟩
        have s1 := hb1.size; try simp only [World.size_alloc, World.size_setCell, World.size_drew, setRow_size] at s1
        have hbw1 : Below w.heap.size w w1 := by (repeat' (first | (with_reducible exact Below.refl _ _) | (with_reducible assumption) | (with_reducible refine Below.alloc ?_ ?_ _) | (with_reducible refine Below.setCell ?_ ?_ _) | (with_reducible refine below_row ?_ ?_ _) | (with_reducible refine Below.drew ?_) | (with_reducible refine below_drewN ?_ _) | (with_reducible refine Below.trans ?_ (Below.mono (by assumption) ?_)) | (first | exact Nat.le_refl _ | omega | (simp; done) | (simp; omega) | (exact Below.size (by assumption)))))
        have LR1 := Lib.hid (LR.out.after hb1)
        have y0 := LR1.out.cell 0
        have zy := LR1.out.lt
        clear hb1 LR HCK
        go_wp2_with fail
        refine (HF1.out _ (by (repeat' (first | (with_reducible exact Below.refl _ _) | (with_reducible assumption) | (with_reducible refine Below.alloc ?_ ?_ _) | (with_reducible refine Below.setCell ?_ ?_ _) | (with_reducible refine below_row ?_ ?_ _) | (with_reducible refine Below.drew ?_) | (with_reducible refine below_drewN ?_ _) | (with_reducible refine Below.trans ?_ (Below.mono (by assumption) ?_)) | (first | exact Nat.le_refl _ | omega | (simp; done) | (simp; omega) | (exact Below.size (by assumption))))))).mono ?_
        rintro e w2 ⟨rfl, hb2⟩
        have s2 := hb2.size; try simp only [World.size_alloc, World.size_setCell, World.size_drew, setRow_size] at s2
        have hbw2 : Below w.heap.size w w2 := by (repeat' (first | (with_reducible exact Below.refl _ _) | (with_reducible assumption) | (with_reducible refine Below.alloc ?_ ?_ _) | (with_reducible refine Below.setCell ?_ ?_ _) | (with_reducible refine below_row ?_ ?_ _) | (with_reducible refine Below.drew ?_) | (with_reducible refine below_drewN ?_ _) | (with_reducible refine Below.trans ?_ (Below.mono (by assumption) ?_)) | (first | exact Nat.le_refl _ | omega | (simp; done) | (simp; omega) | (exact Below.size (by assumption)))))
        have LR2 := Lib.hid ((LR1.out.after hb2).alloc (.cells #[.int .i64 xd, .int .i64 xl, .int .u8 xk, .slice A1 n1 c1, .slice A2 DX.length c2] 45))
        have LX2 := Lib.hid (Lies.made w2 45 #[.int .i64 xd, .int .i64 xl, .int .u8 xk, .slice A1 n1 c1, .slice A2 DX.length c2])
        have d0 := LR2.out.cell 0
        have zd := LR2.out.lt
        clear hb2 LR1 y0 zy HF1
        go_wp2_with fail
        refine (HF2.out _ (by (repeat' (first | (with_reducible exact Below.refl _ _) | (with_reducible assumption) | (with_reducible refine Below.alloc ?_ ?_ _) | (with_reducible refine Below.setCell ?_ ?_ _) | (with_reducible refine below_row ?_ ?_ _) | (with_reducible refine Below.drew ?_) | (with_reducible refine below_drewN ?_ _) | (with_reducible refine Below.trans ?_ (Below.mono (by assumption) ?_)) | (first | exact Nat.le_refl _ | omega | (simp; done) | (simp; omega) | (exact Below.size (by assumption))))))).mono ?_
        rintro e w3 ⟨rfl, hb3⟩
        have s3 := hb3.size; try simp only [World.size_alloc, World.size_setCell, World.size_drew, setRow_size] at s3
        have hbw3 : Below w.heap.size w w3 := by (repeat' (first | (with_reducible exact Below.refl _ _) | (with_reducible assumption) | (with_reducible refine Below.alloc ?_ ?_ _) | (with_reducible refine Below.setCell ?_ ?_ _) | (with_reducible refine below_row ?_ ?_ _) | (with_reducible refine Below.drew ?_) | (with_reducible refine below_drewN ?_ _) | (with_reducible refine Below.trans ?_ (Below.mono (by assumption) ?_)) | (first | exact Nat.le_refl _ | omega | (simp; done) | (simp; omega) | (exact Below.size (by assumption)))))
        have LR3 := Lib.hid ((LR2.out.after hb3).alloc (.cells #[.int .i64 yd, .int .i64 yl, .int .u8 yk, .slice B1 m1 e1, .slice B2 DY.length e2] 45))
        have LX3 := Lib.hid ((LX2.out.after hb3).alloc (.cells #[.int .i64 yd, .int .i64 yl, .int .u8 yk, .slice B1 m1 e1, .slice B2 DY.length e2] 45))
        have LY3 := Lib.hid (Lies.made w3 45 #[.int .i64 yd, .int .i64 yl, .int .u8 yk, .slice B1 m1 e1, .slice B2 DY.length e2])
        have f0 := LR3.out.cell 0
        have zf := LR3.out.lt
        clear hb3 LR2 LX2 d0 zd HF2
        go_wp2_with fail
        refine (HNU.out _ (by (repeat' (first | (with_reducible exact Below.refl _ _) | (with_reducible assumption) | (with_reducible refine Below.alloc ?_ ?_ _) | (with_reducible refine Below.setCell ?_ ?_ _) | (with_reducible refine below_row ?_ ?_ _) | (with_reducible refine Below.drew ?_) | (with_reducible refine below_drewN ?_ _) | (with_reducible refine Below.trans ?_ (Below.mono (by assumption) ?_)) | (first | exact Nat.le_refl _ | omega | (simp; done) | (simp; omega) | (exact Below.size (by assumption))))))).mono ?_
        rintro e w4 ⟨v7, rfl, hown, hb4⟩
        have s4 := hb4.size; try simp only [World.size_alloc, World.size_setCell, World.size_drew, setRow_size] at s4
        have hbw4 : Below w.heap.size w w4 := by (repeat' (first | (with_reducible exact Below.refl _ _) | (with_reducible assumption) | (with_reducible refine Below.alloc ?_ ?_ _) | (with_reducible refine Below.setCell ?_ ?_ _) | (with_reducible refine below_row ?_ ?_ _) | (with_reducible refine Below.drew ?_) | (with_reducible refine below_drewN ?_ _) | (with_reducible refine Below.trans ?_ (Below.mono (by assumption) ?_)) | (first | exact Nat.le_refl _ | omega | (simp; done) | (simp; omega) | (exact Below.size (by assumption)))))
        have hs4 := hbw4.size
        have LX4 := Lib.hid (LX3.out.after hb4)
        have LY4 := Lib.hid (LY3.out.after hb4)
        have hnl : w.heap.size ≤ w4.heap.size := by omega
        obtain ⟨A7, c7, b7, o7, rfl, hA7, hc7⟩ := ints_of_own hown
        have HA7 := Lib.hid hA7
        have HC7 := Lib.hid (fun W (hW : Below w4.heap.size w4 W) i (h : i < zs.length) => cell_keep hW (hc7 i h))
        clear hb4 hown hA7 hc7 LR3 LX3 LY3 f0 zf HNU
        go_wp2_with fail
        go_loopw [16, 18] (fun v i wr => ∃ (k : Nat) (AO : Option Addr) (cO : Nat), k ≤ zs.length ∧ i = .int .i64 k ∧ v = .slice AO (chgK zs ca cb k).length cO ∧ Hid (wr.ownsRow w4.heap.size 110 3 (.slice AO (chgK zs ca cb k).length cO) (chgK zs ca cb k).length (cellsS (chgK zs ca cb k))) ∧ Below w4.heap.size w4 wr) (fun _ i _ => zs.length - (intOf i).toNat)
        case atStart => exact ⟨0, none, 0, by omega, rfl, rfl, Lib.hid (World.ownsRow_nil _ _ _ _), Below.refl _ _⟩
        case round =>
          obtain ⟨k, AO, cO, hk, rfl, rfl, HO, hb⟩ := hrel
          have hzz := hb.size
          have hle := chgK_le zs ca cb k
          have hbwr : Below w.heap.size w wr := hbw4.trans (hb.mono hs4)
          have hsr := hbwr.size
          by_cases hlt : k < zs.length
          · obtain rfl := HA7.out (by omega)
            have kl1 : (k : Int) < (zs.length : Int) := by omega
            have HST := Lib.hid (chgK_step (ca := ca) (cb := cb) hlt)
            have HZ := Lib.hid (fun W (hW : Below wr.heap.size wr W) => HC7.out W (hb.trans (hW.mono hzz)) k hlt)
            have HXY := Lib.hid (fun W (hW : Below wr.heap.size wr W) => And.intro (LX4.out.after (hb.trans (hW.mono hzz))) (LY4.out.after (hb.trans (hW.mono hzz))))
            have HCXr := Lib.hid (fun W (hW : Below wr.heap.size wr W) => HCX.out zs[k] W (hbwr.trans (hW.mono hsr)))
            have HCYr := Lib.hid (fun W (hW : Below wr.heap.size wr W) => HCY.out zs[k] W (hbwr.trans (hW.mono hsr)))
            generalize zs[k] = z at *
            generalize ca z = va at *
            generalize cb z = vb at *
            generalize chgK zs ca cb k = uj at *
            have zc := cellsS_len uj
            have z0 := HZ.out wr (Below.refl _ _)
            have hxy := HXY.out wr (Below.refl _ _)
            have nx0 := hxy.1.cell 0
            have nx1 := hxy.1.cell 1
            have nx2 := hxy.1.cell 2
            have nx3 := hxy.1.cell 3
            have nx4 := hxy.1.cell 4
            have ny0 := hxy.2.cell 0
            have ny1 := hxy.2.cell 1
            have ny2 := hxy.2.cell 2
            have ny3 := hxy.2.cell 3
            have ny4 := hxy.2.cell 4
            have zx := hxy.1.lt
            have zy := hxy.2.lt
            clear hxy
            go_upto_region 13 with fail
            go_cut [19, 20] (fun s19 s20 wx => s19 = .int .i64 va ∧ s20 = .int .i64 vb ∧ Below wr.heap.size wr wx)
            case first =>
              go_region_held3 (fun W => W.cell? ⟨w2.heap.size, 0, none⟩ = some (.int .i64 xd) ∧ W.cell? ⟨w2.heap.size, 1, none⟩ = some (.int .i64 xl) ∧ W.cell? ⟨w2.heap.size, 2, none⟩ = some (.int .u8 xk) ∧ W.cell? ⟨w2.heap.size, 3, none⟩ = some (.slice A1 n1 c1) ∧ W.cell? ⟨w2.heap.size, 4, none⟩ = some (.slice A2 DX.length c2) ∧ W.cell? ⟨w3.heap.size, 0, none⟩ = some (.int .i64 yd) ∧ W.cell? ⟨w3.heap.size, 1, none⟩ = some (.int .i64 yl) ∧ W.cell? ⟨w3.heap.size, 2, none⟩ = some (.int .u8 yk) ∧ W.cell? ⟨w3.heap.size, 3, none⟩ = some (.slice B1 m1 e1) ∧ W.cell? ⟨w3.heap.size, 4, none⟩ = some (.slice B2 DY.length e2) ∧ W.cell? ⟨b7, o7 + k, none⟩ = some (.int .i64 z)) (go_keep) (first
                | (go_at_call 84; (with_reducible refine (HCXr.out _ (by (repeat' (first | (with_reducible exact Below.refl _ _) | (with_reducible assumption) | (with_reducible refine Below.alloc ?_ ?_ _) | (with_reducible refine Below.setCell ?_ ?_ _) | (with_reducible refine below_row ?_ ?_ _) | (with_reducible refine Below.drew ?_) | (with_reducible refine below_drewN ?_ _) | (with_reducible refine Below.trans ?_ (Below.mono (by assumption) ?_)) | (first | exact Nat.le_refl _ | omega | (simp; done) | (simp; omega) | (exact Below.size (by assumption))))))).mono ?_); rintro e w5 ⟨rfl, hb5⟩; have hbr5 : Below wr.heap.size wr w5 := (by (repeat' (first | (with_reducible exact Below.refl _ _) | (with_reducible assumption) | (with_reducible refine Below.alloc ?_ ?_ _) | (with_reducible refine Below.setCell ?_ ?_ _) | (with_reducible refine below_row ?_ ?_ _) | (with_reducible refine Below.drew ?_) | (with_reducible refine below_drewN ?_ _) | (with_reducible refine Below.trans ?_ (Below.mono (by assumption) ?_)) | (first | exact Nat.le_refl _ | omega | (simp; done) | (simp; omega) | (exact Below.size (by assumption)))))); have s5 := hbr5.size; have z5 := HZ.out w5 hbr5; have hxy5 := HXY.out w5 hbr5; have n5x0 := hxy5.1.cell 0; have n5x1 := hxy5.1.cell 1; have n5x2 := hxy5.1.cell 2; have n5x3 := hxy5.1.cell 3; have n5x4 := hxy5.1.cell 4; have n5y0 := hxy5.2.cell 0; have n5y1 := hxy5.2.cell 1; have n5y2 := hxy5.2.cell 2; have n5y3 := hxy5.2.cell 3; have n5y4 := hxy5.2.cell 4; clear hb5 hxy5)
                | (go_at_call 84; (with_reducible refine (HCYr.out _ (by (repeat' (first | (with_reducible exact Below.refl _ _) | (with_reducible assumption) | (with_reducible refine Below.alloc ?_ ?_ _) | (with_reducible refine Below.setCell ?_ ?_ _) | (with_reducible refine below_row ?_ ?_ _) | (with_reducible refine Below.drew ?_) | (with_reducible refine below_drewN ?_ _) | (with_reducible refine Below.trans ?_ (Below.mono (by assumption) ?_)) | (first | exact Nat.le_refl _ | omega | (simp; done) | (simp; omega) | (exact Below.size (by assumption))))))).mono ?_); rintro e w6 ⟨rfl, hb6⟩; have hbr6 : Below wr.heap.size wr w6 := (by (repeat' (first | (with_reducible exact Below.refl _ _) | (with_reducible assumption) | (with_reducible refine Below.alloc ?_ ?_ _) | (with_reducible refine Below.setCell ?_ ?_ _) | (with_reducible refine below_row ?_ ?_ _) | (with_reducible refine Below.drew ?_) | (with_reducible refine below_drewN ?_ _) | (with_reducible refine Below.trans ?_ (Below.mono (by assumption) ?_)) | (first | exact Nat.le_refl _ | omega | (simp; done) | (simp; omega) | (exact Below.size (by assumption)))))); have s6 := hbr6.size; have z6 := HZ.out w6 hbr6; have hxy6 := HXY.out w6 hbr6; have n6x0 := hxy6.1.cell 0; have n6x1 := hxy6.1.cell 1; have n6x2 := hxy6.1.cell 2; have n6x3 := hxy6.1.cell 3; have n6x4 := hxy6.1.cell 4; have n6y0 := hxy6.2.cell 0; have n6y1 := hxy6.2.cell 1; have n6y2 := hxy6.2.cell 2; have n6y3 := hxy6.2.cell 3; have n6y4 := hxy6.2.cell 4; clear hb6 hxy6))
              all_goals (go_wp2_with fail; go_meet)
              all_goals first
                | exact ⟨rfl, rfl, hbr6⟩
                | exact ⟨rfl, rfl, hbr5⟩
            case rest =>
              obtain ⟨rfl, rfl, hbx⟩ := hcut
              obtain ⟨wx, rfl⟩ : ∃ wx : World, wx = wc := ⟨_, rfl⟩
              have hsx := hbx.size
              have HOx := Lib.hid (own_after HO.out hbx)
              have hb4x : Below w4.heap.size w4 wx := hb.trans (hbx.mono hzz)
              have z1 := HZ.out wx hbx
              by_cases e : va = vb
              · have eb : (va != vb) = false := by simpa using e
                have HST3 := Lib.hid HST.out
                rw [if_neg (fun h => h e), List.append_nil] at HST3
                clear e HST
                go_wp2_with fail
                go_roundw
                case rel => exact ⟨k + 1, AO, cO, by omega, by go_num, by rw [HST3.out], Lib.hid (by rw [HST3.out]; exact HOx.out), hb4x⟩
                case measure => simp [intOf]; omega
              · have eb : (va != vb) = true := by simpa using e
                have HST3 := Lib.hid HST.out
                rw [if_pos e] at HST3
                clear e HST
                go_wp2_with (at_builtin; refine wpList_row rfl _ _ 77 rfl w4.heap.size 110 j0 (.agg #[.int .i64 0, .int .i64 0, .int .i64 0]) 3 24 Try.underlying77 hj0 hx0 hx1 hx2 rfl (by decide) _ uj.length (cellsS uj) rfl (HOx.out.alloc _) (some ⟨_, 0, none⟩) 1 1 [.int .i64 z, .int .i64 va, .int .i64 vb] (by rfl) (fun h => by cases h) (by rfl) (fun ad had => by injection had with had; subst had; exact World.news_of_block (Lies.made _ _ _)) (by simp [Value.oneCell']) (by unfold maxLen; omega) (by omega) (by simp; omega) ?_; intro v6 w6 ho6 hap6 hbl6; have hb6 : Below w4.heap.size w4 w6 := hbl6 w4 (by (repeat' (first | (with_reducible exact Below.refl _ _) | (with_reducible assumption) | (with_reducible refine Below.alloc ?_ ?_ _) | (with_reducible refine Below.setCell ?_ ?_ _) | (with_reducible refine below_row ?_ ?_ _) | (with_reducible refine Below.drew ?_) | (with_reducible refine below_drewN ?_ _) | (with_reducible refine Below.trans ?_ (Below.mono (by assumption) ?_)) | (first | exact Nat.le_refl _ | omega | (simp; done) | (simp; omega) | (exact Below.size (by assumption)))))) (Nat.le_refl _); have HO6 := Lib.hid ho6; obtain ⟨A6, c6, g6, rfl, -⟩ := own_form ho6; clear ho6 hap6 hbl6)
                go_roundw
                case rel => exact ⟨k + 1, A6, c6, by omega, by go_num, by rw [HST3.out]; simp, Lib.hid (by rw [HST3.out]; have := HO6.out; simpa [cellsS] using this), hb6⟩
                case measure => simp [intOf]; omega
          · have hke : k = zs.length := by omega
            obtain ⟨wz, rfl⟩ : ∃ wz : World, wz = wr := ⟨_, rfl⟩
            have HK : Hid (chgK zs ca cb k = changesL zs ca cb) := Lib.hid (by unfold chgK; rw [hke, List.take_length])
            have HCL := Lib.hid (changesL_le zs ca cb)
            rw [HK.out] at HO ⊢
            generalize changesL zs ca cb = CL at *
            have hcl := HCL.out
            have HCH := Lib.hid (fun W (hW : Below wz.heap.size wz W) => (changes_of_own HO.out).after hW)
            clear HO HK
            subst hke
            have kl0 : ¬ (zs.length : Int) < (zs.length : Int) := by omega
            clear HCX HCY HA7 HC7
            go_wp2_with fail
            go_loopw [21, 22] (fun v i wr => ∃ (j : Nat) (AP : Option Addr) (cP : Nat), j ≤ M ∧ i = .int .i64 j ∧ v = .slice AP (diffJ DX DY j).length cP ∧ Hid (wr.ownsRow wz.heap.size 3 1 (.slice AP (diffJ DX DY j).length cP) (diffJ DX DY j).length (cellsN (diffJ DX DY j))) ∧ Below wz.heap.size wz wr) (fun _ i _ => M - (intOf i).toNat)
            case atStart => exact ⟨0, none, 0, by omega, rfl, rfl, Lib.hid (World.ownsRow_nil _ _ _ _), Below.refl _ _⟩
            case round =>
              obtain ⟨j, AP, cP, hj, rfl, rfl, HP, hbp⟩ := hrel
              have hzp := hbp.size
              have hb4p : Below w4.heap.size w4 wr := hb.trans (hbp.mono hzz)
              have hbwp : Below w.heap.size w wr := hbwr.trans (hbp.mono hsr)
              have hlp := diffJ_le DX DY j
              have HST := Lib.hid (diffJ_step DX DY j)
              have hxp := LX4.out.after hb4p
              have hyp := LY4.out.after hb4p
              have x4 := hxp.cell 4
              have y4 := hyp.cell 4
              have zx := hxp.lt
              have zy := hyp.lt
              clear hxp hyp
              have HYES : Hid (DX[j]? ≠ DY[j]? → diffJ DX DY (j + 1) = diffJ DX DY j ++ [(j : Int)]) := Lib.hid (fun h => by rw [HST.out, if_pos h])
              have HNO : Hid (DX[j]? = DY[j]? → diffJ DX DY (j + 1) = diffJ DX DY j) := Lib.hid (fun h => by rw [HST.out, if_neg (fun h2 => h2 h), List.append_nil])
              clear HST
              by_cases ha : j < DX.length
              · have ka1 : (j : Int) < (DX.length : Int) := by omega
                have ga1 : decide (DX.length ≤ j) = false := by simp; omega
                have ga2 : decide ((DX.length : Int) ≤ (j : Int)) = false := by simp; omega
                have ga3 : decide ((j : Int) < (DX.length : Int)) = true := by simp; omega
                have ga4 : decide (j < DX.length) = true := by simp; omega
                obtain rfl := HAX.out (by omega)
                have r0 := cell_keep hbwp (HDX.out j ha).1
                have r1 := cell_keep hbwp (HDX.out j ha).2.1
                have r2 := cell_keep hbwp (HDX.out j ha).2.2
                by_cases hb' : j < DY.length
                · have kb1 : (j : Int) < (DY.length : Int) := by omega
                  have gb1 : decide (DY.length ≤ j) = false := by simp; omega
                  have gb2 : decide ((DY.length : Int) ≤ (j : Int)) = false := by simp; omega
                  obtain rfl := HAY.out (by omega)
                  have t0 := cell_keep hbwp (HDY.out j hb').1
                  have t1 := cell_keep hbwp (HDY.out j hb').2.1
                  have t2 := cell_keep hbwp (HDY.out j hb').2.2
                  have hab : (DX[j]? = DY[j]?) = (DX[j] = DY[j]) := by rw [List.getElem?_eq_getElem ha, List.getElem?_eq_getElem hb']; simp
                  rw [hab] at HNO
                  rw [ne_eq, hab] at HYES
                  clear hab
                  generalize diffJ DX DY j = dj at *
                  obtain ⟨x, hx⟩ : ∃ x, DX[j] = x := ⟨_, rfl⟩
                  obtain ⟨y, hy⟩ : ∃ y, DY[j] = y := ⟨_, rfl⟩
                  rw [hx] at r0 r1 r2 HYES HNO
                  rw [hy] at t0 t1 t2 HYES HNO
                  clear hx hy
                  obtain ⟨x1, x2, x3⟩ := x
                  obtain ⟨y1, y2, y3⟩ := y
                  simp only at r0 r1 r2 t0 t1 t2
                  by_cases e : x1 = y1 <;> by_cases e2 : x2 = y2 <;> by_cases e3 : x3 = y3
                  · subst e e2 e3
                    have HST2 := Lib.hid (HNO.out rfl)
                    have eb : (x1 == x1) = true := by simp
                    have eb2 : (x2 == x2) = true := by simp
                    have eb3 : (x3 == x3) = true := by simp
                    clear HYES HNO
                    go_wp2_with fail
                    go_quiet (fail)
                    have HO3 := Lib.hid (ownsRow_drewN HP.out nq)
                    go_wp2_with fail
                    go_roundw
                    case rel => exact ⟨j + 1, AP, cP, by omega, by go_num, by rw [HST2.out], Lib.hid (by rw [HST2.out]; exact HO3.out), below_drewN hbp _⟩
                    case measure => simp [intOf]; omega
                  all_goals
                    have HST2 := Lib.hid (HYES.out (by intro h; injection h with h1 h2; injection h2 with g2 h3; first | exact e h1 | exact e2 g2 | exact e3 h3))
                    first | (have eb : (x1 == y1) = true := by simpa using e) | (have eb : (x1 == y1) = false := by simpa using e)
                    first | (have eb2 : (x2 == y2) = true := by simpa using e2) | (have eb2 : (x2 == y2) = false := by simpa using e2)
                    first | (have eb3 : (x3 == y3) = true := by simpa using e3) | (have eb3 : (x3 == y3) = false := by simpa using e3)
                    clear e e2 e3 HYES HNO
                    go_wp2_with fail
                    go_quiet (fail)
                    have HO3 := Lib.hid (ownsRow_drewN HP.out nq)
                    go_wp2_with (at_builtin; refine wpList_append_own _ rfl _ _ 29 rfl wz.heap.size 3 i0 (.int .i64 0) 1 8 Try.underlying29 hi0 hz0 hz1 hz2 rfl (by decide) _ _ _ rfl (HO3.out.alloc _) ⟨_, 0, none⟩ 1 1 [.int .i64 (j : Int)] rfl rfl (World.news_of_block (cs := #[.int .i64 (j : Int)]) (t := 3) (fr := (0, 0)) (Lies.new (by simp))) (by simp [Value.oneCell']) (by unfold maxLen; omega) (by omega) (by simp; omega) ?_; intro v' w8 hown' hgrow _; have HB8 := Lib.hid (below_own (w0 := wz) (B := wz.heap.size) (by (repeat' (first | (with_reducible exact Below.refl _ _) | (with_reducible assumption) | (with_reducible refine Below.alloc ?_ ?_ _) | (with_reducible refine Below.setCell ?_ ?_ _) | (with_reducible refine below_row ?_ ?_ _) | (with_reducible refine Below.drew ?_) | (with_reducible refine below_drewN ?_ _) | (with_reducible refine Below.trans ?_ (Below.mono (by assumption) ?_)) | (first | exact Nat.le_refl _ | omega | (simp; done) | (simp; omega) | (exact Below.size (by assumption)))))) (HO3.out.alloc (.cells #[.int .i64 (j : Int)] 3)) hgrow (Nat.le_refl _) (by simp; omega)); have HO8 := Lib.hid hown'; obtain ⟨A8, c8, g8, rfl, -⟩ := own_form hown'; clear hown' hgrow)
                    go_roundw
                    case rel => exact ⟨j + 1, A8, c8, by omega, by go_num, by rw [HST2.out]; simp, Lib.hid (by rw [HST2.out]; have := HO8.out; simpa [cellsN] using this), HB8.out⟩
                    case measure => simp [intOf]; omega
                · have gb1 : decide (DY.length ≤ j) = true := by simp; omega
                  have gb2 : decide ((DY.length : Int) ≤ (j : Int)) = true := by simp; omega
                  have HST2 := Lib.hid (HYES.out (by rw [List.getElem?_eq_getElem ha, List.getElem?_eq_none (Nat.le_of_not_lt hb')]; simp))
                  clear HYES HNO
                  generalize diffJ DX DY j = dj at *
                  go_wp2_with fail
                  go_quiet (fail)
                  have HO3 := Lib.hid (ownsRow_drewN HP.out nq)
                  go_wp2_with (at_builtin; refine wpList_append_own _ rfl _ _ 29 rfl wz.heap.size 3 i0 (.int .i64 0) 1 8 Try.underlying29 hi0 hz0 hz1 hz2 rfl (by decide) _ _ _ rfl (HO3.out.alloc _) ⟨_, 0, none⟩ 1 1 [.int .i64 (j : Int)] rfl rfl (World.news_of_block (cs := #[.int .i64 (j : Int)]) (t := 3) (fr := (0, 0)) (Lies.new (by simp))) (by simp [Value.oneCell']) (by unfold maxLen; omega) (by omega) (by simp; omega) ?_; intro v' w8 hown' hgrow _; have HB8 := Lib.hid (below_own (w0 := wz) (B := wz.heap.size) (by (repeat' (first | (with_reducible exact Below.refl _ _) | (with_reducible assumption) | (with_reducible refine Below.alloc ?_ ?_ _) | (with_reducible refine Below.setCell ?_ ?_ _) | (with_reducible refine below_row ?_ ?_ _) | (with_reducible refine Below.drew ?_) | (with_reducible refine below_drewN ?_ _) | (with_reducible refine Below.trans ?_ (Below.mono (by assumption) ?_)) | (first | exact Nat.le_refl _ | omega | (simp; done) | (simp; omega) | (exact Below.size (by assumption)))))) (HO3.out.alloc (.cells #[.int .i64 (j : Int)] 3)) hgrow (Nat.le_refl _) (by simp; omega)); have HO8 := Lib.hid hown'; obtain ⟨A8, c8, g8, rfl, -⟩ := own_form hown'; clear hown' hgrow)
                  go_roundw
                  case rel => exact ⟨j + 1, A8, c8, by omega, by go_num, by rw [HST2.out]; simp, Lib.hid (by rw [HST2.out]; have := HO8.out; simpa [cellsN] using this), HB8.out⟩
                  case measure => simp [intOf]; omega
              · have ga1 : decide (DX.length ≤ j) = true := by simp; omega
                have ga2 : decide ((DX.length : Int) ≤ (j : Int)) = true := by simp; omega
                have ga3 : decide ((j : Int) < (DX.length : Int)) = false := by simp; omega
                have ka0 : ¬ (j : Int) < (DX.length : Int) := by omega
                by_cases hb' : j < DY.length
                · have kb1 : (j : Int) < (DY.length : Int) := by omega
                  have HST2 := Lib.hid (HYES.out (by rw [List.getElem?_eq_getElem hb', List.getElem?_eq_none (Nat.le_of_not_lt ha)]; simp))
                  clear HYES HNO
                  generalize diffJ DX DY j = dj at *
                  go_wp2_with fail
                  go_quiet (fail)
                  have HO3 := Lib.hid (ownsRow_drewN HP.out nq)
                  go_wp2_with (at_builtin; refine wpList_append_own _ rfl _ _ 29 rfl wz.heap.size 3 i0 (.int .i64 0) 1 8 Try.underlying29 hi0 hz0 hz1 hz2 rfl (by decide) _ _ _ rfl (HO3.out.alloc _) ⟨_, 0, none⟩ 1 1 [.int .i64 (j : Int)] rfl rfl (World.news_of_block (cs := #[.int .i64 (j : Int)]) (t := 3) (fr := (0, 0)) (Lies.new (by simp))) (by simp [Value.oneCell']) (by unfold maxLen; omega) (by omega) (by simp; omega) ?_; intro v' w8 hown' hgrow _; have HB8 := Lib.hid (below_own (w0 := wz) (B := wz.heap.size) (by (repeat' (first | (with_reducible exact Below.refl _ _) | (with_reducible assumption) | (with_reducible refine Below.alloc ?_ ?_ _) | (with_reducible refine Below.setCell ?_ ?_ _) | (with_reducible refine below_row ?_ ?_ _) | (with_reducible refine Below.drew ?_) | (with_reducible refine below_drewN ?_ _) | (with_reducible refine Below.trans ?_ (Below.mono (by assumption) ?_)) | (first | exact Nat.le_refl _ | omega | (simp; done) | (simp; omega) | (exact Below.size (by assumption)))))) (HO3.out.alloc (.cells #[.int .i64 (j : Int)] 3)) hgrow (Nat.le_refl _) (by simp; omega)); have HO8 := Lib.hid hown'; obtain ⟨A8, c8, g8, rfl, -⟩ := own_form hown'; clear hown' hgrow)
                  go_roundw
                  case rel => exact ⟨j + 1, A8, c8, by omega, by go_num, by rw [HST2.out]; simp, Lib.hid (by rw [HST2.out]; have := HO8.out; simpa [cellsN] using this), HB8.out⟩
                  case measure => simp [intOf]; omega
                · have kb0 : ¬ (j : Int) < (DY.length : Int) := by omega
                  have hje : j = M := by omega
                  subst hje
                  clear HYES HNO
                  generalize diffJ DX DY j = dj at *
                  go_wp2_with fail
                  go_ret3
                  obtain rfl := HRR.out
                  exact ⟨.slice AO CL.length cO, .slice AP dj.length cP, rfl, HCH.out _ hbp, ints_of_own HP.out, hbwp⟩
      · rw [Bool.not_eq_true] at ht
        rw [if_neg (by rw [hf, ht]; decide)]
        have HF2 := Lib.hid (fun W hW => HFN.out t ht W hW)
        clear h0 h2 h3 hns HFY HFN h hA hc hf ht hqf hifI hv1 hv2 HSM hsf hAX hcX HNU
        generalize xs.getD (idxN xs d f) zeroI = x at *
        generalize x.dims = DX at *
        generalize x.d = xd at *
        generalize x.l = xl at *
        generalize x.k = xk at *
        go_enter Try.func44, Try.ntmps44
        go_wp2_with fail
        refine (HCK.out _ (by (repeat' (first | (with_reducible exact Below.refl _ _) | (with_reducible assumption) | (with_reducible refine Below.alloc ?_ ?_ _) | (with_reducible refine Below.setCell ?_ ?_ _) | (with_reducible refine below_row ?_ ?_ _) | (with_reducible refine Below.drew ?_) | (with_reducible refine below_drewN ?_ _) | (with_reducible refine Below.trans ?_ (Below.mono (by assumption) ?_)) | (first | exact Nat.le_refl _ | omega | (simp; done) | (simp; omega) | (exact Below.size (by assumption))))))).mono ?_
        rintro e w1 ⟨rfl, hb1⟩
        have s1 := hb1.size; try simp only [World.size_alloc, World.size_setCell, World.size_drew, setRow_size] at s1
        have hbw1 : Below w.heap.size w w1 := by (repeat' (first | (with_reducible exact Below.refl _ _) | (with_reducible assumption) | (with_reducible refine Below.alloc ?_ ?_ _) | (with_reducible refine Below.setCell ?_ ?_ _) | (with_reducible refine below_row ?_ ?_ _) | (with_reducible refine Below.drew ?_) | (with_reducible refine below_drewN ?_ _) | (with_reducible refine Below.trans ?_ (Below.mono (by assumption) ?_)) | (first | exact Nat.le_refl _ | omega | (simp; done) | (simp; omega) | (exact Below.size (by assumption)))))
        have LR1 := Lib.hid (LR.out.after hb1)
        have y0 := LR1.out.cell 0
        have zy := LR1.out.lt
        clear hb1 LR HCK
        go_wp2_with fail
        refine (HF1.out _ (by (repeat' (first | (with_reducible exact Below.refl _ _) | (with_reducible assumption) | (with_reducible refine Below.alloc ?_ ?_ _) | (with_reducible refine Below.setCell ?_ ?_ _) | (with_reducible refine below_row ?_ ?_ _) | (with_reducible refine Below.drew ?_) | (with_reducible refine below_drewN ?_ _) | (with_reducible refine Below.trans ?_ (Below.mono (by assumption) ?_)) | (first | exact Nat.le_refl _ | omega | (simp; done) | (simp; omega) | (exact Below.size (by assumption))))))).mono ?_
        rintro e w2 ⟨rfl, hb2⟩
        have s2 := hb2.size; try simp only [World.size_alloc, World.size_setCell, World.size_drew, setRow_size] at s2
        have hbw2 : Below w.heap.size w w2 := by (repeat' (first | (with_reducible exact Below.refl _ _) | (with_reducible assumption) | (with_reducible refine Below.alloc ?_ ?_ _) | (with_reducible refine Below.setCell ?_ ?_ _) | (with_reducible refine below_row ?_ ?_ _) | (with_reducible refine Below.drew ?_) | (with_reducible refine below_drewN ?_ _) | (with_reducible refine Below.trans ?_ (Below.mono (by assumption) ?_)) | (first | exact Nat.le_refl _ | omega | (simp; done) | (simp; omega) | (exact Below.size (by assumption)))))
        have LR2 := Lib.hid ((LR1.out.after hb2).alloc (.cells #[.int .i64 xd, .int .i64 xl, .int .u8 xk, .slice A1 n1 c1, .slice A2 DX.length c2] 45))
        have d0 := LR2.out.cell 0
        have zd := LR2.out.lt
        clear hb2 LR1 y0 zy HF1
        go_wp2_with fail
        refine (HF2.out _ (by (repeat' (first | (with_reducible exact Below.refl _ _) | (with_reducible assumption) | (with_reducible refine Below.alloc ?_ ?_ _) | (with_reducible refine Below.setCell ?_ ?_ _) | (with_reducible refine below_row ?_ ?_ _) | (with_reducible refine Below.drew ?_) | (with_reducible refine below_drewN ?_ _) | (with_reducible refine Below.trans ?_ (Below.mono (by assumption) ?_)) | (first | exact Nat.le_refl _ | omega | (simp; done) | (simp; omega) | (exact Below.size (by assumption))))))).mono ?_
        rintro e w3 ⟨rfl, hb3⟩
        have s3 := hb3.size; try simp only [World.size_alloc, World.size_setCell, World.size_drew, setRow_size] at s3
        have hbw3 : Below w.heap.size w w3 := by (repeat' (first | (with_reducible exact Below.refl _ _) | (with_reducible assumption) | (with_reducible refine Below.alloc ?_ ?_ _) | (with_reducible refine Below.setCell ?_ ?_ _) | (with_reducible refine below_row ?_ ?_ _) | (with_reducible refine Below.drew ?_) | (with_reducible refine below_drewN ?_ _) | (with_reducible refine Below.trans ?_ (Below.mono (by assumption) ?_)) | (first | exact Nat.le_refl _ | omega | (simp; done) | (simp; omega) | (exact Below.size (by assumption)))))
        clear hb3 LR2 d0 zd HF2
        go_wp2_with fail
        go_ret3
        exact ⟨.slice none 0 0, .slice none 0 0, rfl, changes_nil _, ints_nil _, by (repeat' (first | (with_reducible exact Below.refl _ _) | (with_reducible assumption) | (with_reducible refine Below.alloc ?_ ?_ _) | (with_reducible refine Below.setCell ?_ ?_ _) | (with_reducible refine below_row ?_ ?_ _) | (with_reducible refine Below.drew ?_) | (with_reducible refine below_drewN ?_ _) | (with_reducible refine Below.trans ?_ (Below.mono (by assumption) ?_)) | (first | exact Nat.le_refl _ | omega | (simp; done) | (simp; omega) | (exact Below.size (by assumption)))))⟩
    · rw [Bool.not_eq_true] at hf
      rw [if_neg (by rw [hf]; simp)]
      have HF1 := Lib.hid (fun W hW => HFN.out f hf W hW)
      have HF2 : Hid (∀ W, Below w.heap.size w W → Calls Try.prog 71 #[.agg #[.slice A xs.length c], .agg #[.int .i64 d, .int .i64 t]] W fun e w' => (∃ xd xl xk A1 n1 c1 A2 n2 c2 r, e = .returned (.tuple #[.agg #[.int .i64 xd, .int .i64 xl, .int .u8 xk, .slice A1 n1 c1, .slice A2 n2 c2], .bool r])) ∧ Below W.heap.size W w') := Lib.hid (fun W hW => by
        by_cases ht : hasN xs d t = true
        · obtain ⟨⟨B1, m1, e1, hu1⟩, B2, m2, e2, hu2⟩ := hc.slices (of_decide_eq_true ht)
          refine (HFY.out t ht W hW).mono ?_
          rintro e w' ⟨rfl, hb⟩
          rw [hu1, hu2]
          exact ⟨⟨_, _, _, _, _, _, _, _, _, _, rfl⟩, hb⟩
        · rw [Bool.not_eq_true] at ht
          refine (HFN.out t ht W hW).mono ?_
          rintro e w' ⟨rfl, hb⟩
          exact ⟨⟨0, 0, 0, none, 0, 0, none, 0, 0, false, rfl⟩, hb⟩)
      clear h0 h2 h3 hns HFY HFN h hA hc hf HSM HNU
      go_enter Try.func44, Try.ntmps44
      go_wp2_with fail
      refine (HCK.out _ (by (repeat' (first | (with_reducible exact Below.refl _ _) | (with_reducible assumption) | (with_reducible refine Below.alloc ?_ ?_ _) | (with_reducible refine Below.setCell ?_ ?_ _) | (with_reducible refine below_row ?_ ?_ _) | (with_reducible refine Below.drew ?_) | (with_reducible refine below_drewN ?_ _) | (with_reducible refine Below.trans ?_ (Below.mono (by assumption) ?_)) | (first | exact Nat.le_refl _ | omega | (simp; done) | (simp; omega) | (exact Below.size (by assumption))))))).mono ?_
      rintro e w1 ⟨rfl, hb1⟩
      have s1 := hb1.size; try simp only [World.size_alloc, World.size_setCell, World.size_drew, setRow_size] at s1
      have hbw1 : Below w.heap.size w w1 := by (repeat' (first | (with_reducible exact Below.refl _ _) | (with_reducible assumption) | (with_reducible refine Below.alloc ?_ ?_ _) | (with_reducible refine Below.setCell ?_ ?_ _) | (with_reducible refine below_row ?_ ?_ _) | (with_reducible refine Below.drew ?_) | (with_reducible refine below_drewN ?_ _) | (with_reducible refine Below.trans ?_ (Below.mono (by assumption) ?_)) | (first | exact Nat.le_refl _ | omega | (simp; done) | (simp; omega) | (exact Below.size (by assumption)))))
      have LR1 := Lib.hid (LR.out.after hb1)
      have y0 := LR1.out.cell 0
      have zy := LR1.out.lt
      clear hb1 LR HCK
      go_wp2_with fail
      refine (HF1.out _ (by (repeat' (first | (with_reducible exact Below.refl _ _) | (with_reducible assumption) | (with_reducible refine Below.alloc ?_ ?_ _) | (with_reducible refine Below.setCell ?_ ?_ _) | (with_reducible refine below_row ?_ ?_ _) | (with_reducible refine Below.drew ?_) | (with_reducible refine below_drewN ?_ _) | (with_reducible refine Below.trans ?_ (Below.mono (by assumption) ?_)) | (first | exact Nat.le_refl _ | omega | (simp; done) | (simp; omega) | (exact Below.size (by assumption))))))).mono ?_
      rintro e w2 ⟨rfl, hb2⟩
      have s2 := hb2.size; try simp only [World.size_alloc, World.size_setCell, World.size_drew, setRow_size] at s2
      have hbw2 : Below w.heap.size w w2 := by (repeat' (first | (with_reducible exact Below.refl _ _) | (with_reducible assumption) | (with_reducible refine Below.alloc ?_ ?_ _) | (with_reducible refine Below.setCell ?_ ?_ _) | (with_reducible refine below_row ?_ ?_ _) | (with_reducible refine Below.drew ?_) | (with_reducible refine below_drewN ?_ _) | (with_reducible refine Below.trans ?_ (Below.mono (by assumption) ?_)) | (first | exact Nat.le_refl _ | omega | (simp; done) | (simp; omega) | (exact Below.size (by assumption)))))
      have LR2 := Lib.hid ((LR1.out.after hb2).alloc (.cells #[.int .i64 0, .int .i64 0, .int .u8 0, .slice none 0 0, .slice none 0 0] 45))
      have d0 := LR2.out.cell 0
      have zd := LR2.out.lt
      clear hb2 LR1 y0 zy HF1
      go_wp2_with fail
      refine (HF2.out _ (by (repeat' (first | (with_reducible exact Below.refl _ _) | (with_reducible assumption) | (with_reducible refine Below.alloc ?_ ?_ _) | (with_reducible refine Below.setCell ?_ ?_ _) | (with_reducible refine below_row ?_ ?_ _) | (with_reducible refine Below.drew ?_) | (with_reducible refine below_drewN ?_ _) | (with_reducible refine Below.trans ?_ (Below.mono (by assumption) ?_)) | (first | exact Nat.le_refl _ | omega | (simp; done) | (simp; omega) | (exact Below.size (by assumption))))))).mono ?_
      rintro e w3 ⟨⟨xd, xl, xk, B1, m1, f1, B2, m2, f2, rr, rfl⟩, hb3⟩
      have s3 := hb3.size; try simp only [World.size_alloc, World.size_setCell, World.size_drew, setRow_size] at s3
      have hbw3 : Below w.heap.size w w3 := by (repeat' (first | (with_reducible exact Below.refl _ _) | (with_reducible assumption) | (with_reducible refine Below.alloc ?_ ?_ _) | (with_reducible refine Below.setCell ?_ ?_ _) | (with_reducible refine below_row ?_ ?_ _) | (with_reducible refine Below.drew ?_) | (with_reducible refine below_drewN ?_ _) | (with_reducible refine Below.trans ?_ (Below.mono (by assumption) ?_)) | (first | exact Nat.le_refl _ | omega | (simp; done) | (simp; omega) | (exact Below.size (by assumption)))))
      clear hb3 LR2 d0 zd HF2
      go_wp2_with fail
      go_ret3
      exact ⟨.slice none 0 0, .slice none 0 0, rfl, changes_nil _, ints_nil _, by (repeat' (first | (with_reducible exact Below.refl _ _) | (with_reducible assumption) | (with_reducible refine Below.alloc ?_ ?_ _) | (with_reducible refine Below.setCell ?_ ?_ _) | (with_reducible refine below_row ?_ ?_ _) | (with_reducible refine Below.drew ?_) | (with_reducible refine below_drewN ?_ _) | (with_reducible refine Below.trans ?_ (Below.mono (by assumption) ?_)) | (first | exact Nat.le_refl _ | omega | (simp; done) | (simp; omega) | (exact Below.size (by assumption)))))⟩
  · rw [if_pos h0]
    have hne : (layE xs != 0) = true := by simpa using h0
    clear h0 hc hA h HNU HSM
    generalize layE xs = ee at *
    go_enter Try.func44, Try.ntmps44
    go_wp2_with fail
    refine (HCK.out _ (by (repeat' (first | (with_reducible exact Below.refl _ _) | (with_reducible assumption) | (with_reducible refine Below.alloc ?_ ?_ _) | (with_reducible refine Below.setCell ?_ ?_ _) | (with_reducible refine below_row ?_ ?_ _) | (with_reducible refine Below.drew ?_) | (with_reducible refine below_drewN ?_ _) | (with_reducible refine Below.trans ?_ (Below.mono (by assumption) ?_)) | (first | exact Nat.le_refl _ | omega | (simp; done) | (simp; omega) | (exact Below.size (by assumption))))))).mono ?_
    rintro e w1 ⟨rfl, hb1⟩
    have s1 := hb1.size; try simp only [World.size_alloc, World.size_setCell, World.size_drew, setRow_size] at s1
    go_wp2_with fail
    go_ret3
    exact ⟨.slice none 0 0, .slice none 0 0, rfl, changes_nil _, ints_nil _, by (repeat' (first | (with_reducible exact Below.refl _ _) | (with_reducible assumption) | (with_reducible refine Below.alloc ?_ ?_ _) | (with_reducible refine Below.setCell ?_ ?_ _) | (with_reducible refine below_row ?_ ?_ _) | (with_reducible refine Below.drew ?_) | (with_reducible refine below_drewN ?_ _) | (with_reducible refine Below.trans ?_ (Below.mono (by assumption) ?_)) | (first | exact Nat.le_refl _ | omega | (simp; done) | (simp; omega) | (exact Below.size (by assumption)))))⟩
end Go.Proofs.Ytnmcpkmiomknmaa
