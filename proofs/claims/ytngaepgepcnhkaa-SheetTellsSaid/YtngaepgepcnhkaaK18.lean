/- The reference: Check, Drawings, Last, Depth. -/
import Derived.Test.YtngaepgepcnhkaaJM2
namespace Go.Proofs.Ytngaepgepcnhkaa
set_option linter.unusedVariables false
set_option linter.unusedSimpArgs false
open Go.RowKit

theorem mostL_step {l : List Int} {k : Nat} (h : k < l.length) : mostL (l.take (k + 1)) = max (mostL (l.take k)) l[k] := by
  unfold mostL
  rw [List.take_succ_eq_append_getElem h, List.foldl_append]; rfl
/-- depths behind listed. -/
theorem rDepths_v {w : World} {vI : Value} {xs : List Iss} (h : RegAt w vI xs) (hl : listedR xs = true) :
    Calls Try.prog 68 #[.agg #[vI]] w fun e w' => ∃ g, e = .returned (.slice (some ⟨g, 0, none⟩) (numbersR xs).length (numbersR xs).length) ∧ Lies w' g 3 (rowN ((numbersR xs).map (depF xs ((numbersR xs).length + 1)))) ∧ Below w.heap.size w w' := by
  obtain ⟨h1, h2, h3, h4⟩ := listed_iff.1 hl
  obtain ⟨A, c, b, off, vi, vd, rfl, hA, hc⟩ := h.at_.row
  have h60 : xs.length ≤ 60 := by
    unfold inB at h1
    simp at h1
    omega
  have hn := numbers_same h2
  exact rDepths_any A c b off xs vi vd w (by omega) (fun x hx => (h.small x hx).1) hA hc (by rw [hn]; exact numbers_strict h2) (by rw [hn]; exact numbers_has h2) (by rw [hn]; exact complete_mem h4)
theorem rListed_v {w : World} {vI : Value} {xs : List Iss} (h : RegAt w vI xs) : Calls Try.prog 67 #[.agg #[vI]] w fun e w' => e = .returned (.bool (listedR xs)) ∧ Below w.heap.size w w' := by
  obtain ⟨A, c, b, off, vi, vd, rfl, hA, hc⟩ := h.at_.row
  exact rListed_any A c b off xs vi vd w h.len h.small hA hc
theorem rNumbers_v {w : World} {vI : Value} {xs : List Iss} (h : RegAt w vI xs) : Calls Try.prog 59 #[.agg #[vI]] w fun e w' => ∃ v, e = .returned v ∧ w'.ownsRow w.heap.size 3 1 v (numbersR xs).length (cellsN (numbersR xs)) ∧ Below w.heap.size w w' := by
  obtain ⟨A, c, b, off, vi, vd, rfl, hA, hc⟩ := h.at_.row
  exact rNumbers_any A c b off xs vi vd w h.len hA hc
theorem rLastOf_v {w : World} {vI : Value} {xs : List Iss} (d : Int) (h : RegAt w vI xs) : Calls Try.prog 62 #[.agg #[vI], .int .i64 d] w fun e w' => e = .returned (.int .i64 (lastOfR d 0 xs)) ∧ Below w.heap.size w w' := by
  obtain ⟨A, c, b, off, vi, vd, rfl, hA, hc⟩ := h.at_.row
  exact rLastOf_any A c b off xs vi vd d w h.len hA hc

set_option maxRecDepth 100000 in
set_option maxHeartbeats 4000000 in
theorem rCheckR {vI : Value} {xs : List Iss} {w : World} (h : RegAt w vI xs) : Calls Try.prog 24 #[.agg #[vI]] w fun e w' => e = .returned (.int .i64 (checkR xs)) ∧ Below w.heap.size w w' := by
  have HLS := Lib.hid (fun W (hW : Below w.heap.size w W) => rListed_v (h.after hW))
  have HDP := Lib.hid (fun hl W (hW : Below w.heap.size w W) => rDepths_v (h.after hW) hl)
  have HC0 : Hid (checkR xs = if listedR xs = false then 20 else circR (numbersR xs).length ((numbersR xs).map (depF xs ((numbersR xs).length + 1)))) := Lib.hid rfl
  have hnl : (numbersR xs).length ≤ 1000 := Nat.le_trans (numK_le xs xs.length) h.len
  have HV0 : Hid (∀ y, 0 ≤ depF xs ((numbersR xs).length + 1) y ∧ depF xs ((numbersR xs).length + 1) y ≤ (numbersR xs).length + 1) := Lib.hid (fun y => depF_bd xs _ y)
  have HLE : Hid (∃ le, listedR xs = le) := Lib.hid ⟨_, rfl⟩
  obtain ⟨le, hle⟩ := HLE.out
  rw [hle] at HLS HDP HC0
  obtain ⟨A, c, rfl⟩ := h.slice
  have HD0 := Lib.hid (Lies.made w 24 #[.slice A xs.length c])
  have HCR : Hid (∃ cr, checkR xs = cr) := Lib.hid ⟨_, rfl⟩
  obtain ⟨cr, hcr⟩ := HCR.out
  rw [hcr] at HC0 ⊢
  clear h HLE hle HCR hcr
  cases le
  · have HC1 : Hid (cr = 20) := Lib.hid (by rw [HC0.out]; rfl)
    clear HDP HV0 HC0
    go_enter Try.func24, Try.ntmps24
    go_wp2_with fail
    refine (HLS.out _ (by (repeat' (first | (with_reducible exact Below.refl _ _) | (with_reducible assumption) | (with_reducible refine Below.alloc ?_ ?_ _) | (with_reducible refine Below.setCell ?_ ?_ _) | (with_reducible refine below_row ?_ ?_ _) | (with_reducible refine Below.drew ?_) | (with_reducible refine below_drewN ?_ _) | (with_reducible refine Below.trans ?_ (Below.mono (by assumption) ?_)) | (first | exact Nat.le_refl _ | omega | (simp; done) | (simp; omega) | (exact Below.size (by assumption))))))).mono ?_
    rintro e w1 ⟨rfl, hb1⟩
    have s1 := hb1.size; try simp only [World.size_alloc, World.size_setCell, World.size_drew, setRow_size] at s1
    go_wp2
    go_ret
    exact ⟨ret_int HC1.out.symm, by (repeat' (first | (with_reducible exact Below.refl _ _) | (with_reducible assumption) | (with_reducible refine Below.alloc ?_ ?_ _) | (with_reducible refine Below.setCell ?_ ?_ _) | (with_reducible refine below_row ?_ ?_ _) | (with_reducible refine Below.drew ?_) | (with_reducible refine below_drewN ?_ _) | (with_reducible refine Below.trans ?_ (Below.mono (by assumption) ?_)) | (first | exact Nat.le_refl _ | omega | (simp; done) | (simp; omega) | (exact Below.size (by assumption)))))⟩
  · have HC1 : Hid (cr = circR (numbersR xs).length ((numbersR xs).map (depF xs ((numbersR xs).length + 1)))) := Lib.hid (by rw [HC0.out]; rfl)
    have HDQ := Lib.hid (HDP.out rfl)
    clear HC0 HDP
    generalize depF xs ((numbersR xs).length + 1) = f at *
    generalize numbersR xs = zs at *
    go_enter Try.func24, Try.ntmps24
    go_wp2_with fail
    refine (HLS.out _ (by (repeat' (first | (with_reducible exact Below.refl _ _) | (with_reducible assumption) | (with_reducible refine Below.alloc ?_ ?_ _) | (with_reducible refine Below.setCell ?_ ?_ _) | (with_reducible refine below_row ?_ ?_ _) | (with_reducible refine Below.drew ?_) | (with_reducible refine below_drewN ?_ _) | (with_reducible refine Below.trans ?_ (Below.mono (by assumption) ?_)) | (first | exact Nat.le_refl _ | omega | (simp; done) | (simp; omega) | (exact Below.size (by assumption))))))).mono ?_
    rintro e w1 ⟨rfl, hb1⟩
    have s1 := hb1.size; try simp only [World.size_alloc, World.size_setCell, World.size_drew, setRow_size] at s1
    have HD1 := Lib.hid (HD0.out.after hb1)
    have d1 := HD1.out.cell 0
    have zd1 := HD1.out.lt
    have hbw1 : Below w.heap.size w w1 := by (repeat' (first | (with_reducible exact Below.refl _ _) | (with_reducible assumption) | (with_reducible refine Below.alloc ?_ ?_ _) | (with_reducible refine Below.setCell ?_ ?_ _) | (with_reducible refine below_row ?_ ?_ _) | (with_reducible refine Below.drew ?_) | (with_reducible refine below_drewN ?_ _) | (with_reducible refine Below.trans ?_ (Below.mono (by assumption) ?_)) | (first | exact Nat.le_refl _ | omega | (simp; done) | (simp; omega) | (exact Below.size (by assumption)))))
    clear hb1
    go_wp2_with fail
    refine (HDQ.out _ (by (repeat' (first | (with_reducible exact Below.refl _ _) | (with_reducible assumption) | (with_reducible refine Below.alloc ?_ ?_ _) | (with_reducible refine Below.setCell ?_ ?_ _) | (with_reducible refine below_row ?_ ?_ _) | (with_reducible refine Below.drew ?_) | (with_reducible refine below_drewN ?_ _) | (with_reducible refine Below.trans ?_ (Below.mono (by assumption) ?_)) | (first | exact Nat.le_refl _ | omega | (simp; done) | (simp; omega) | (exact Below.size (by assumption))))))).mono ?_
    rintro e w2 ⟨g, rfl, hg, hb2⟩
    have s2 := hb2.size; try simp only [World.size_alloc, World.size_setCell, World.size_drew, setRow_size] at s2
    have HG := Lib.hid hg
    have hbw2 : Below w.heap.size w w2 := by (repeat' (first | (with_reducible exact Below.refl _ _) | (with_reducible assumption) | (with_reducible refine Below.alloc ?_ ?_ _) | (with_reducible refine Below.setCell ?_ ?_ _) | (with_reducible refine below_row ?_ ?_ _) | (with_reducible refine Below.drew ?_) | (with_reducible refine below_drewN ?_ _) | (with_reducible refine Below.trans ?_ (Below.mono (by assumption) ?_)) | (first | exact Nat.le_refl _ | omega | (simp; done) | (simp; omega) | (exact Below.size (by assumption)))))
    clear hg hb2
    go_wp2_with fail
    go_loopw [4, 5] (fun m i wr => ∃ (k : Nat) (mm : Int), k ≤ zs.length ∧ i = .int .i64 k ∧ m = .int .i64 mm ∧ Hid (mm = mostL ((zs.map f).take k)) ∧ 0 ≤ mm ∧ mm ≤ zs.length + 1 ∧ Hid (Lies wr g 3 (rowN (zs.map f))) ∧ Below w.heap.size w wr) (fun _ i _ => zs.length - (intOf i).toNat)
    case atStart => exact ⟨0, 0, by omega, rfl, rfl, Lib.hid rfl, Int.le_refl _, by omega, HG, hbw2⟩
    case round =>
      obtain ⟨k, mm, hk, rfl, rfl, HM, hm0, hm1, HG2, hb⟩ := hrel
      have hz := hb.size
      by_cases hlt : k < zs.length
      · have hkl : k < (zs.map f).length := by simpa using hlt
        have g0 := HG2.out.cell k
        rw [rowN_at hkl] at g0
        have kl1 : (k : Int) < (zs.length : Int) := by omega
        have HS := Lib.hid (mostL_step hkl)
        have hv : 0 ≤ (zs.map f)[k] ∧ (zs.map f)[k] ≤ zs.length + 1 := by rw [List.getElem_map]; exact HV0.out _
        have zg := HG2.out.lt
        generalize (zs.map f)[k] = v at *
        by_cases hmv : mm < v
        · have HS2 : Hid (v = mostL ((zs.map f).take (k + 1))) := Lib.hid (by rw [HS.out, ← HM.out, Int.max_def]; split <;> omega)
          go_wp2_with fail
          go_roundw
          case rel => exact ⟨k + 1, v, by omega, by go_num, rfl, HS2, by omega, by omega, HG2, hb⟩
          case measure => simp [intOf]; omega
        · have HS2 : Hid (mm = mostL ((zs.map f).take (k + 1))) := Lib.hid (by rw [HS.out, ← HM.out, Int.max_def]; split <;> omega)
          go_wp2_with fail
          go_roundw
          case rel => exact ⟨k + 1, mm, by omega, by go_num, rfl, HS2, by omega, by omega, HG2, hb⟩
          case measure => simp [intOf]; omega
      · have hke : k = zs.length := by omega
        subst hke
        have HMM : Hid (mm = mostL (zs.map f)) := Lib.hid (by rw [HM.out, List.take_of_length_le (by simp)])
        have HC2 : Hid (cr = if (zs.length : Int) < mm then 21 else if 6 < mm then 20 else 0) := Lib.hid (by rw [HC1.out, circR, ← HMM.out])
        clear HC1 HM HMM
        by_cases e1 : (zs.length : Int) < mm
        · have HC3 : Hid (cr = 21) := Lib.hid (by rw [HC2.out, if_pos e1])
          go_wp2
          go_ret
          exact ⟨ret_int HC3.out.symm, hb⟩
        · by_cases e2 : 6 < mm
          · have HC3 : Hid (cr = 20) := Lib.hid (by rw [HC2.out, if_neg e1, if_pos e2])
            go_wp2
            go_ret
            exact ⟨ret_int HC3.out.symm, hb⟩
          · have HC3 : Hid (cr = 0) := Lib.hid (by rw [HC2.out, if_neg e1, if_neg e2])
            go_wp2
            go_ret
            exact ⟨ret_int HC3.out.symm, hb⟩
theorem rCheck_any {vI : Value} {xs : List Iss} {w : World} (h : RegAt w vI xs) : Calls Try.prog 24 #[.agg #[vI]] w fun e w' => e = .returned (.int .i64 (layE xs)) ∧ Below w.heap.size w w' := by
  rw [← check_same]; exact rCheckR h

set_option maxHeartbeats 2000000 in
theorem rDrawings_any {vI : Value} {xs : List Iss} {w : World} (h : RegAt w vI xs) : Calls Try.prog 20 #[.agg #[vI]] w (DrawP xs w) := by
  have HCK := Lib.hid (fun W (hW : Below w.heap.size w W) => rCheck_any (h.after hW))
  have HNU := Lib.hid (fun W (hW : Below w.heap.size w W) => rNumbers_v (h.after hW))
  obtain ⟨A, c, rfl⟩ := h.slice
  have HD0 := Lib.hid (Lies.made w 24 #[.slice A xs.length c])
  clear h
  show Calls _ _ _ _ (DrawQ (layE xs) (if layE xs = 0 then numbersL xs else []) w)
  by_cases h0 : layE xs = 0
  · have hns := numbers_same (layE_ok h0).2.1
    rw [h0] at HCK
    rw [h0, if_pos rfl]
    rw [hns] at HNU
    clear h0 hns
    generalize numbersL xs = zs at *
    go_enter Try.func20, Try.ntmps20
    go_wp2_with fail
    refine (HCK.out _ (by (repeat' (first | (with_reducible exact Below.refl _ _) | (with_reducible assumption) | (with_reducible refine Below.alloc ?_ ?_ _) | (with_reducible refine Below.setCell ?_ ?_ _) | (with_reducible refine below_row ?_ ?_ _) | (with_reducible refine Below.drew ?_) | (with_reducible refine below_drewN ?_ _) | (with_reducible refine Below.trans ?_ (Below.mono (by assumption) ?_)) | (first | exact Nat.le_refl _ | omega | (simp; done) | (simp; omega) | (exact Below.size (by assumption))))))).mono ?_
    rintro e w1 ⟨rfl, hb1⟩
    have s1 := hb1.size; try simp only [World.size_alloc, World.size_setCell, World.size_drew, setRow_size] at s1
    have HD1 := Lib.hid (HD0.out.after hb1)
    have d1 := HD1.out.cell 0
    have zd1 := HD1.out.lt
    have hbw1 : Below w.heap.size w w1 := by (repeat' (first | (with_reducible exact Below.refl _ _) | (with_reducible assumption) | (with_reducible refine Below.alloc ?_ ?_ _) | (with_reducible refine Below.setCell ?_ ?_ _) | (with_reducible refine below_row ?_ ?_ _) | (with_reducible refine Below.drew ?_) | (with_reducible refine below_drewN ?_ _) | (with_reducible refine Below.trans ?_ (Below.mono (by assumption) ?_)) | (first | exact Nat.le_refl _ | omega | (simp; done) | (simp; omega) | (exact Below.size (by assumption)))))
    clear hb1
    go_wp2_with fail
    refine (HNU.out _ (by (repeat' (first | (with_reducible exact Below.refl _ _) | (with_reducible assumption) | (with_reducible refine Below.alloc ?_ ?_ _) | (with_reducible refine Below.setCell ?_ ?_ _) | (with_reducible refine below_row ?_ ?_ _) | (with_reducible refine Below.drew ?_) | (with_reducible refine below_drewN ?_ _) | (with_reducible refine Below.trans ?_ (Below.mono (by assumption) ?_)) | (first | exact Nat.le_refl _ | omega | (simp; done) | (simp; omega) | (exact Below.size (by assumption))))))).mono ?_
    rintro e w2 ⟨v, rfl, hown, hb2⟩
    have s2 := hb2.size; try simp only [World.size_alloc, World.size_setCell, World.size_drew, setRow_size] at s2
    have HI := Lib.hid (ints_of_own hown)
    obtain ⟨A6, c6, g6, rfl, -⟩ := own_form hown
    clear hown
    have hbw2 : Below w.heap.size w w2 := by (repeat' (first | (with_reducible exact Below.refl _ _) | (with_reducible assumption) | (with_reducible refine Below.alloc ?_ ?_ _) | (with_reducible refine Below.setCell ?_ ?_ _) | (with_reducible refine below_row ?_ ?_ _) | (with_reducible refine Below.drew ?_) | (with_reducible refine below_drewN ?_ _) | (with_reducible refine Below.trans ?_ (Below.mono (by assumption) ?_)) | (first | exact Nat.le_refl _ | omega | (simp; done) | (simp; omega) | (exact Below.size (by assumption)))))
    go_wp2
    go_ret2
    exact ⟨_, rfl, HI.out, hbw2⟩
  · rw [if_neg h0]
    generalize layE xs = ee at *
    have hne : (ee != 0) = true := by simpa using h0
    clear h0 HNU
    go_enter Try.func20, Try.ntmps20
    go_wp2_with fail
    refine (HCK.out _ (by (repeat' (first | (with_reducible exact Below.refl _ _) | (with_reducible assumption) | (with_reducible refine Below.alloc ?_ ?_ _) | (with_reducible refine Below.setCell ?_ ?_ _) | (with_reducible refine below_row ?_ ?_ _) | (with_reducible refine Below.drew ?_) | (with_reducible refine below_drewN ?_ _) | (with_reducible refine Below.trans ?_ (Below.mono (by assumption) ?_)) | (first | exact Nat.le_refl _ | omega | (simp; done) | (simp; omega) | (exact Below.size (by assumption))))))).mono ?_
    rintro e w1 ⟨rfl, hb1⟩
    have s1 := hb1.size; try simp only [World.size_alloc, World.size_setCell, World.size_drew, setRow_size] at s1
    go_wp2
    go_ret2
    exact ⟨_, rfl, ⟨none, 0, 0, 0, rfl, fun h => absurd h (by simp), fun i h => absurd h (by simp)⟩, by (repeat' (first | (with_reducible exact Below.refl _ _) | (with_reducible assumption) | (with_reducible refine Below.alloc ?_ ?_ _) | (with_reducible refine Below.setCell ?_ ?_ _) | (with_reducible refine below_row ?_ ?_ _) | (with_reducible refine Below.drew ?_) | (with_reducible refine below_drewN ?_ _) | (with_reducible refine Below.trans ?_ (Below.mono (by assumption) ?_)) | (first | exact Nat.le_refl _ | omega | (simp; done) | (simp; omega) | (exact Below.size (by assumption)))))⟩

set_option maxHeartbeats 2000000 in
theorem rLast_any {vI : Value} {xs : List Iss} {w : World} (d : Int) (h : RegAt w vI xs) : Calls Try.prog 22 #[.agg #[vI], .int .i64 d] w fun e w' => e = .returned (.tuple #[.int .i64 ((lastE xs d).1), .int .i64 ((lastE xs d).2)]) ∧ Below w.heap.size w w' := by
  have HCK := Lib.hid (fun W (hW : Below w.heap.size w W) => rCheck_any (h.after hW))
  have HLO := Lib.hid (fun W (hW : Below w.heap.size w W) => rLastOf_v d (h.after hW))
  obtain ⟨A, c, rfl⟩ := h.slice
  have HD0 := Lib.hid (Lies.made w 24 #[.slice A xs.length c])
  clear h
  unfold lastE
  by_cases h0 : layE xs = 0
  · have hns := last_same (d := d) (layE_ok h0).2.1
    rw [h0] at HCK
    rw [if_neg (by rw [h0]; decide)]
    rw [hns] at HLO
    clear h0 hns
    generalize lastS xs d = ls at *
    by_cases e1 : ls = 0
    · rw [if_pos e1]
      subst e1
      go_enter Try.func22, Try.ntmps22
      go_wp2_with fail
      refine (HCK.out _ (by (repeat' (first | (with_reducible exact Below.refl _ _) | (with_reducible assumption) | (with_reducible refine Below.alloc ?_ ?_ _) | (with_reducible refine Below.setCell ?_ ?_ _) | (with_reducible refine below_row ?_ ?_ _) | (with_reducible refine Below.drew ?_) | (with_reducible refine below_drewN ?_ _) | (with_reducible refine Below.trans ?_ (Below.mono (by assumption) ?_)) | (first | exact Nat.le_refl _ | omega | (simp; done) | (simp; omega) | (exact Below.size (by assumption))))))).mono ?_
      rintro e w1 ⟨rfl, hb1⟩
      have s1 := hb1.size; try simp only [World.size_alloc, World.size_setCell, World.size_drew, setRow_size] at s1
      have HD1 := Lib.hid (HD0.out.after hb1)
      have d1 := HD1.out.cell 0
      have zd1 := HD1.out.lt
      have hbw1 : Below w.heap.size w w1 := by (repeat' (first | (with_reducible exact Below.refl _ _) | (with_reducible assumption) | (with_reducible refine Below.alloc ?_ ?_ _) | (with_reducible refine Below.setCell ?_ ?_ _) | (with_reducible refine below_row ?_ ?_ _) | (with_reducible refine Below.drew ?_) | (with_reducible refine below_drewN ?_ _) | (with_reducible refine Below.trans ?_ (Below.mono (by assumption) ?_)) | (first | exact Nat.le_refl _ | omega | (simp; done) | (simp; omega) | (exact Below.size (by assumption)))))
      clear hb1
      go_wp2_with fail
      refine (HLO.out _ (by (repeat' (first | (with_reducible exact Below.refl _ _) | (with_reducible assumption) | (with_reducible refine Below.alloc ?_ ?_ _) | (with_reducible refine Below.setCell ?_ ?_ _) | (with_reducible refine below_row ?_ ?_ _) | (with_reducible refine Below.drew ?_) | (with_reducible refine below_drewN ?_ _) | (with_reducible refine Below.trans ?_ (Below.mono (by assumption) ?_)) | (first | exact Nat.le_refl _ | omega | (simp; done) | (simp; omega) | (exact Below.size (by assumption))))))).mono ?_
      rintro e w2 ⟨rfl, hb2⟩
      have s2 := hb2.size; try simp only [World.size_alloc, World.size_setCell, World.size_drew, setRow_size] at s2
      go_wp2
      go_ret2
      exact ⟨rfl, by (repeat' (first | (with_reducible exact Below.refl _ _) | (with_reducible assumption) | (with_reducible refine Below.alloc ?_ ?_ _) | (with_reducible refine Below.setCell ?_ ?_ _) | (with_reducible refine below_row ?_ ?_ _) | (with_reducible refine Below.drew ?_) | (with_reducible refine below_drewN ?_ _) | (with_reducible refine Below.trans ?_ (Below.mono (by assumption) ?_)) | (first | exact Nat.le_refl _ | omega | (simp; done) | (simp; omega) | (exact Below.size (by assumption)))))⟩
    · rw [if_neg e1]
      have hne : (ls == 0) = false := by simpa using e1
      clear e1
      go_enter Try.func22, Try.ntmps22
      go_wp2_with fail
      refine (HCK.out _ (by (repeat' (first | (with_reducible exact Below.refl _ _) | (with_reducible assumption) | (with_reducible refine Below.alloc ?_ ?_ _) | (with_reducible refine Below.setCell ?_ ?_ _) | (with_reducible refine below_row ?_ ?_ _) | (with_reducible refine Below.drew ?_) | (with_reducible refine below_drewN ?_ _) | (with_reducible refine Below.trans ?_ (Below.mono (by assumption) ?_)) | (first | exact Nat.le_refl _ | omega | (simp; done) | (simp; omega) | (exact Below.size (by assumption))))))).mono ?_
      rintro e w1 ⟨rfl, hb1⟩
      have s1 := hb1.size; try simp only [World.size_alloc, World.size_setCell, World.size_drew, setRow_size] at s1
      have HD1 := Lib.hid (HD0.out.after hb1)
      have d1 := HD1.out.cell 0
      have zd1 := HD1.out.lt
      have hbw1 : Below w.heap.size w w1 := by (repeat' (first | (with_reducible exact Below.refl _ _) | (with_reducible assumption) | (with_reducible refine Below.alloc ?_ ?_ _) | (with_reducible refine Below.setCell ?_ ?_ _) | (with_reducible refine below_row ?_ ?_ _) | (with_reducible refine Below.drew ?_) | (with_reducible refine below_drewN ?_ _) | (with_reducible refine Below.trans ?_ (Below.mono (by assumption) ?_)) | (first | exact Nat.le_refl _ | omega | (simp; done) | (simp; omega) | (exact Below.size (by assumption)))))
      clear hb1
      go_wp2_with fail
      refine (HLO.out _ (by (repeat' (first | (with_reducible exact Below.refl _ _) | (with_reducible assumption) | (with_reducible refine Below.alloc ?_ ?_ _) | (with_reducible refine Below.setCell ?_ ?_ _) | (with_reducible refine below_row ?_ ?_ _) | (with_reducible refine Below.drew ?_) | (with_reducible refine below_drewN ?_ _) | (with_reducible refine Below.trans ?_ (Below.mono (by assumption) ?_)) | (first | exact Nat.le_refl _ | omega | (simp; done) | (simp; omega) | (exact Below.size (by assumption))))))).mono ?_
      rintro e w2 ⟨rfl, hb2⟩
      have s2 := hb2.size; try simp only [World.size_alloc, World.size_setCell, World.size_drew, setRow_size] at s2
      go_wp2
      go_ret2
      exact ⟨rfl, by (repeat' (first | (with_reducible exact Below.refl _ _) | (with_reducible assumption) | (with_reducible refine Below.alloc ?_ ?_ _) | (with_reducible refine Below.setCell ?_ ?_ _) | (with_reducible refine below_row ?_ ?_ _) | (with_reducible refine Below.drew ?_) | (with_reducible refine below_drewN ?_ _) | (with_reducible refine Below.trans ?_ (Below.mono (by assumption) ?_)) | (first | exact Nat.le_refl _ | omega | (simp; done) | (simp; omega) | (exact Below.size (by assumption)))))⟩
  · rw [if_pos h0]
    generalize layE xs = ee at *
    have hne : (ee != 0) = true := by simpa using h0
    clear h0 HLO
    go_enter Try.func22, Try.ntmps22
    go_wp2_with fail
    refine (HCK.out _ (by (repeat' (first | (with_reducible exact Below.refl _ _) | (with_reducible assumption) | (with_reducible refine Below.alloc ?_ ?_ _) | (with_reducible refine Below.setCell ?_ ?_ _) | (with_reducible refine below_row ?_ ?_ _) | (with_reducible refine Below.drew ?_) | (with_reducible refine below_drewN ?_ _) | (with_reducible refine Below.trans ?_ (Below.mono (by assumption) ?_)) | (first | exact Nat.le_refl _ | omega | (simp; done) | (simp; omega) | (exact Below.size (by assumption))))))).mono ?_
    rintro e w1 ⟨rfl, hb1⟩
    have s1 := hb1.size; try simp only [World.size_alloc, World.size_setCell, World.size_drew, setRow_size] at s1
    go_wp2
    go_ret2
    exact ⟨rfl, by (repeat' (first | (with_reducible exact Below.refl _ _) | (with_reducible assumption) | (with_reducible refine Below.alloc ?_ ?_ _) | (with_reducible refine Below.setCell ?_ ?_ _) | (with_reducible refine below_row ?_ ?_ _) | (with_reducible refine Below.drew ?_) | (with_reducible refine below_drewN ?_ _) | (with_reducible refine Below.trans ?_ (Below.mono (by assumption) ?_)) | (first | exact Nat.le_refl _ | omega | (simp; done) | (simp; omega) | (exact Below.size (by assumption)))))⟩

set_option maxRecDepth 100000 in
set_option maxHeartbeats 4000000 in
theorem rDepth_any {vI : Value} {xs : List Iss} {w : World} (d : Int) (h : RegAt w vI xs) : Calls Try.prog 29 #[.agg #[vI], .int .i64 d] w fun e w' => e = .returned (.tuple #[.int .i64 ((depthE xs d).1), .int .i64 ((depthE xs d).2)]) ∧ Below w.heap.size w w' := by
  have HCK := Lib.hid (fun W (hW : Below w.heap.size w W) => rCheck_any (h.after hW))
  have HNU := Lib.hid (fun W (hW : Below w.heap.size w W) => rNumbers_v (h.after hW))
  have HDP := Lib.hid (fun hl W (hW : Below w.heap.size w W) => rDepths_v (h.after hW) hl)
  have hnl : (numbersR xs).length ≤ 1000 := Nat.le_trans (numK_le xs xs.length) h.len
  obtain ⟨A, c, rfl⟩ := h.slice
  have HD0 := Lib.hid (Lies.made w 24 #[.slice A xs.length c])
  clear h
  unfold depthE
  by_cases h0 : layE xs = 0
  · obtain ⟨h1, h2, h3, h4, -, -⟩ := layE_ok h0
    have hli : listedR xs = true := listed_iff.2 ⟨by unfold inB; simp; omega, h2, h3, h4⟩
    have HDQ := Lib.hid (HDP.out hli)
    clear HDP
    have hds := depths_same h0
    have hns := numbers_same h2
    rw [hds] at HDQ
    rw [hns] at HDQ HNU hnl
    rw [h0] at HCK
    rw [if_neg (by rw [h0]; decide)]
    have HCH : Hid (chainsL xs (numbersL xs) = (numbersL xs).map (depW xs (numbersL xs) (numbersL xs).length)) := Lib.hid rfl
    clear h0 h1 h2 h3 h4 hli hds hns
    generalize chainsL xs (numbersL xs) = cs at *
    generalize depW xs (numbersL xs) (numbersL xs).length = dw at *
    generalize numbersL xs = zs at *
    by_cases hd : d ∈ zs
    · rw [if_pos hd]
      obtain ⟨q, hq, hz, hp⟩ := idx_spec hd
      have HQ := Lib.hid hz
      clear hz hd
      go_enter Try.func29, Try.ntmps29
      go_wp2_with fail
      refine (HCK.out _ (by (repeat' (first | (with_reducible exact Below.refl _ _) | (with_reducible assumption) | (with_reducible refine Below.alloc ?_ ?_ _) | (with_reducible refine Below.setCell ?_ ?_ _) | (with_reducible refine below_row ?_ ?_ _) | (with_reducible refine Below.drew ?_) | (with_reducible refine below_drewN ?_ _) | (with_reducible refine Below.trans ?_ (Below.mono (by assumption) ?_)) | (first | exact Nat.le_refl _ | omega | (simp; done) | (simp; omega) | (exact Below.size (by assumption))))))).mono ?_
      rintro e w1 ⟨rfl, hb1⟩
      have s1 := hb1.size; try simp only [World.size_alloc, World.size_setCell, World.size_drew, setRow_size] at s1
      have HD1 := Lib.hid (HD0.out.after hb1)
      have d1 := HD1.out.cell 0
      have zd1 := HD1.out.lt
      have hbw1 : Below w.heap.size w w1 := by (repeat' (first | (with_reducible exact Below.refl _ _) | (with_reducible assumption) | (with_reducible refine Below.alloc ?_ ?_ _) | (with_reducible refine Below.setCell ?_ ?_ _) | (with_reducible refine below_row ?_ ?_ _) | (with_reducible refine Below.drew ?_) | (with_reducible refine below_drewN ?_ _) | (with_reducible refine Below.trans ?_ (Below.mono (by assumption) ?_)) | (first | exact Nat.le_refl _ | omega | (simp; done) | (simp; omega) | (exact Below.size (by assumption)))))
      clear hb1
      go_wp2_with fail
      refine (HNU.out _ (by (repeat' (first | (with_reducible exact Below.refl _ _) | (with_reducible assumption) | (with_reducible refine Below.alloc ?_ ?_ _) | (with_reducible refine Below.setCell ?_ ?_ _) | (with_reducible refine below_row ?_ ?_ _) | (with_reducible refine Below.drew ?_) | (with_reducible refine below_drewN ?_ _) | (with_reducible refine Below.trans ?_ (Below.mono (by assumption) ?_)) | (first | exact Nat.le_refl _ | omega | (simp; done) | (simp; omega) | (exact Below.size (by assumption))))))).mono ?_
      rintro e w2 ⟨v, rfl, hown, hb2⟩
      have s2 := hb2.size; try simp only [World.size_alloc, World.size_setCell, World.size_drew, setRow_size] at s2
      have HD2 := Lib.hid (HD1.out.after hb2)
      have d2 := HD2.out.cell 0
      have zd2 := HD2.out.lt
      have hbw2 : Below w.heap.size w w2 := by (repeat' (first | (with_reducible exact Below.refl _ _) | (with_reducible assumption) | (with_reducible refine Below.alloc ?_ ?_ _) | (with_reducible refine Below.setCell ?_ ?_ _) | (with_reducible refine below_row ?_ ?_ _) | (with_reducible refine Below.drew ?_) | (with_reducible refine below_drewN ?_ _) | (with_reducible refine Below.trans ?_ (Below.mono (by assumption) ?_)) | (first | exact Nat.le_refl _ | omega | (simp; done) | (simp; omega) | (exact Below.size (by assumption)))))
      obtain ⟨A6, c6, b6, o6, rfl, hA6, hc6⟩ := ints_of_own hown
      have HIX := Lib.hid (rIndex_any A6 c6 b6 o6 zs d w2 hA6 (by omega) hc6)
      rw [hp] at HIX
      clear hA6 hc6 hown hb2
      go_wp2_with fail
      refine HIX.out.mono ?_
      rintro e w3 ⟨rfl, rfl⟩
      go_wp2_with fail
      refine (HDQ.out _ (by (repeat' (first | (with_reducible exact Below.refl _ _) | (with_reducible assumption) | (with_reducible refine Below.alloc ?_ ?_ _) | (with_reducible refine Below.setCell ?_ ?_ _) | (with_reducible refine below_row ?_ ?_ _) | (with_reducible refine Below.drew ?_) | (with_reducible refine below_drewN ?_ _) | (with_reducible refine Below.trans ?_ (Below.mono (by assumption) ?_)) | (first | exact Nat.le_refl _ | omega | (simp; done) | (simp; omega) | (exact Below.size (by assumption))))))).mono ?_
      rintro e w4 ⟨g, rfl, hg, hb4⟩
      have s4 := hb4.size; try simp only [World.size_alloc, World.size_setCell, World.size_drew, setRow_size] at s4
      have g0 : w4.cell? ⟨g, q, none⟩ = some (.int .i64 (dw d)) := by
        rw [HCH.out] at hg
        exact rowMap_at HQ.out hg
      have ql : (q : Int) < (zs.length : Int) := by omega
      have zg := hg.lt
      clear hg
      go_wp2
      go_ret2
      exact ⟨rfl, by (repeat' (first | (with_reducible exact Below.refl _ _) | (with_reducible assumption) | (with_reducible refine Below.alloc ?_ ?_ _) | (with_reducible refine Below.setCell ?_ ?_ _) | (with_reducible refine below_row ?_ ?_ _) | (with_reducible refine Below.drew ?_) | (with_reducible refine below_drewN ?_ _) | (with_reducible refine Below.trans ?_ (Below.mono (by assumption) ?_)) | (first | exact Nat.le_refl _ | omega | (simp; done) | (simp; omega) | (exact Below.size (by assumption)))))⟩
    · rw [if_neg hd]
      have hp : idxL zs d = -1 := idxL_no (fun j hj e => hd (e ▸ List.getElem_mem hj))
      clear hd HDQ
      go_enter Try.func29, Try.ntmps29
      go_wp2_with fail
      refine (HCK.out _ (by (repeat' (first | (with_reducible exact Below.refl _ _) | (with_reducible assumption) | (with_reducible refine Below.alloc ?_ ?_ _) | (with_reducible refine Below.setCell ?_ ?_ _) | (with_reducible refine below_row ?_ ?_ _) | (with_reducible refine Below.drew ?_) | (with_reducible refine below_drewN ?_ _) | (with_reducible refine Below.trans ?_ (Below.mono (by assumption) ?_)) | (first | exact Nat.le_refl _ | omega | (simp; done) | (simp; omega) | (exact Below.size (by assumption))))))).mono ?_
      rintro e w1 ⟨rfl, hb1⟩
      have s1 := hb1.size; try simp only [World.size_alloc, World.size_setCell, World.size_drew, setRow_size] at s1
      have HD1 := Lib.hid (HD0.out.after hb1)
      have d1 := HD1.out.cell 0
      have zd1 := HD1.out.lt
      have hbw1 : Below w.heap.size w w1 := by (repeat' (first | (with_reducible exact Below.refl _ _) | (with_reducible assumption) | (with_reducible refine Below.alloc ?_ ?_ _) | (with_reducible refine Below.setCell ?_ ?_ _) | (with_reducible refine below_row ?_ ?_ _) | (with_reducible refine Below.drew ?_) | (with_reducible refine below_drewN ?_ _) | (with_reducible refine Below.trans ?_ (Below.mono (by assumption) ?_)) | (first | exact Nat.le_refl _ | omega | (simp; done) | (simp; omega) | (exact Below.size (by assumption)))))
      clear hb1
      go_wp2_with fail
      refine (HNU.out _ (by (repeat' (first | (with_reducible exact Below.refl _ _) | (with_reducible assumption) | (with_reducible refine Below.alloc ?_ ?_ _) | (with_reducible refine Below.setCell ?_ ?_ _) | (with_reducible refine below_row ?_ ?_ _) | (with_reducible refine Below.drew ?_) | (with_reducible refine below_drewN ?_ _) | (with_reducible refine Below.trans ?_ (Below.mono (by assumption) ?_)) | (first | exact Nat.le_refl _ | omega | (simp; done) | (simp; omega) | (exact Below.size (by assumption))))))).mono ?_
      rintro e w2 ⟨v, rfl, hown, hb2⟩
      have s2 := hb2.size; try simp only [World.size_alloc, World.size_setCell, World.size_drew, setRow_size] at s2
      have HD2 := Lib.hid (HD1.out.after hb2)
      have d2 := HD2.out.cell 0
      have zd2 := HD2.out.lt
      have hbw2 : Below w.heap.size w w2 := by (repeat' (first | (with_reducible exact Below.refl _ _) | (with_reducible assumption) | (with_reducible refine Below.alloc ?_ ?_ _) | (with_reducible refine Below.setCell ?_ ?_ _) | (with_reducible refine below_row ?_ ?_ _) | (with_reducible refine Below.drew ?_) | (with_reducible refine below_drewN ?_ _) | (with_reducible refine Below.trans ?_ (Below.mono (by assumption) ?_)) | (first | exact Nat.le_refl _ | omega | (simp; done) | (simp; omega) | (exact Below.size (by assumption)))))
      obtain ⟨A6, c6, b6, o6, rfl, hA6, hc6⟩ := ints_of_own hown
      have HIX := Lib.hid (rIndex_any A6 c6 b6 o6 zs d w2 hA6 (by omega) hc6)
      rw [hp] at HIX
      clear hA6 hc6 hown hb2
      go_wp2_with fail
      refine HIX.out.mono ?_
      rintro e w3 ⟨rfl, rfl⟩
      go_wp2
      go_ret2
      exact ⟨rfl, by (repeat' (first | (with_reducible exact Below.refl _ _) | (with_reducible assumption) | (with_reducible refine Below.alloc ?_ ?_ _) | (with_reducible refine Below.setCell ?_ ?_ _) | (with_reducible refine below_row ?_ ?_ _) | (with_reducible refine Below.drew ?_) | (with_reducible refine below_drewN ?_ _) | (with_reducible refine Below.trans ?_ (Below.mono (by assumption) ?_)) | (first | exact Nat.le_refl _ | omega | (simp; done) | (simp; omega) | (exact Below.size (by assumption)))))⟩
  · rw [if_pos h0]
    generalize layE xs = ee at *
    have hne : (ee != 0) = true := by simpa using h0
    clear h0 HNU HDP
    go_enter Try.func29, Try.ntmps29
    go_wp2_with fail
    refine (HCK.out _ (by (repeat' (first | (with_reducible exact Below.refl _ _) | (with_reducible assumption) | (with_reducible refine Below.alloc ?_ ?_ _) | (with_reducible refine Below.setCell ?_ ?_ _) | (with_reducible refine below_row ?_ ?_ _) | (with_reducible refine Below.drew ?_) | (with_reducible refine below_drewN ?_ _) | (with_reducible refine Below.trans ?_ (Below.mono (by assumption) ?_)) | (first | exact Nat.le_refl _ | omega | (simp; done) | (simp; omega) | (exact Below.size (by assumption))))))).mono ?_
    rintro e w1 ⟨rfl, hb1⟩
    have s1 := hb1.size; try simp only [World.size_alloc, World.size_setCell, World.size_drew, setRow_size] at s1
    go_wp2
    go_ret2
    exact ⟨rfl, by (repeat' (first | (with_reducible exact Below.refl _ _) | (with_reducible assumption) | (with_reducible refine Below.alloc ?_ ?_ _) | (with_reducible refine Below.setCell ?_ ?_ _) | (with_reducible refine below_row ?_ ?_ _) | (with_reducible refine Below.drew ?_) | (with_reducible refine below_drewN ?_ _) | (with_reducible refine Below.trans ?_ (Below.mono (by assumption) ?_)) | (first | exact Nat.le_refl _ | omega | (simp; done) | (simp; omega) | (exact Below.size (by assumption)))))⟩
end Go.Proofs.Ytngaepgepcnhkaa
