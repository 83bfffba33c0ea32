/- Share, where there is a hole. -/
import Derived.Test.YtldjkdomklgmaaaDoorC7
namespace Go.Proofs.YtldjkdomklgmaaaDoor
set_option linter.unusedVariables false
set_option linter.unusedSimpArgs false
open Go.RowKit

set_option maxHeartbeats 1600000 in
theorem Share_poor1 (nom lo hi : Int) (w : World) (n0 : 0 ≤ nom) (n1 : nom ≤ 1000000000) (h2 : wantS lo hi = true) (hs : downS 100 nom = nom) (hh : okD nom nom (nom + downS 100 ((hi - lo) / 2)) = true) (hr : ¬ roomHi nom lo < roomLo (nom + downS 100 ((hi - lo) / 2)) hi)
    (x y z e : Int) (hc : convS 1 nom (roomLo (nom + downS 100 ((hi - lo) / 2)) hi) (roomHi nom lo) = ((x, y, z), e)) (he : e ≠ 0) :
    Calls Tryd.prog 27 #[.int .i64 nom, .agg #[.int .i64 lo, .int .i64 hi], .int .u8 1] w (Gives2 (noTwo e) w) := by
  have H1 := Lib.hid (show allIn 0 1000000000 [nom] = true by rw [in1]; simp; omega)
  have H2 := Lib.hid h2
  have hs1 : (downS 100 nom != nom) = false := by simpa using hs
  have HC := Lib.hid hh
  have hw3 : -1000000000 ≤ lo ∧ lo ≤ hi ∧ hi ≤ 1000000000 := by simpa [wantS] using h2
  obtain ⟨v0, v1, v2⟩ := hw3
  have hdb := downS_bd (st := 100) (n := (hi - lo) / 2) (by omega) (by omega)
  obtain ⟨y0, y1, -⟩ := hdb
  have HR := Lib.hid (fun W => Room_fits nom nom _ lo hi W hh h2 hr)
  have HV := Lib.hid (fun W => Convert_any 1 nom (roomLo (nom + downS 100 ((hi - lo) / 2)) hi) (roomHi nom lo) W)
  rw [hc] at HV
  generalize roomLo (nom + downS 100 ((hi - lo) / 2)) hi = rl at *
  generalize roomHi nom lo = rh at *
  clear h2 hs hh hr hc
  have he1 : (e != 0) = true := by simpa using he
  have he2 : (e == 0) = false := by simpa using he
  clear he
  go_enter Tryd.func27, Tryd.ntmps27
  go_wp2_with fail
  refine (within_1 _ _ nom _ _ _ ((Lies.new (by simp)).cell 0)).mono ?_
  rw [H1.out]
  rintro e w1 ⟨rfl, hb1⟩
  have s1 := hb1.size; try simp only [World.size_alloc, World.size_setCell, World.size_drew, setRow_size] at s1
  have LW := ((((Lies.new (u := w) (t := 31) (cs := #[.int .i64 lo, .int .i64 hi]) rfl).alloc _).alloc _).alloc _).after hb1
  have LH := (((Lies.new (u := w.alloc (.cells #[.int .i64 lo, .int .i64 hi] 31)) (t := 28) (cs := #[.int .i64 0, .int .i64 0, .int .i64 0]) rfl).alloc _).alloc _).after hb1
  have LS := ((Lies.new (t := 28) (cs := #[.int .i64 0, .int .i64 0, .int .i64 0]) rfl).alloc _).after hb1
  simp only [World.size_alloc] at LH LS
  have HW := Lib.hid LW
  have HH := Lib.hid LH
  have HS := Lib.hid LS
  clear LW LH LS
  obtain ⟨c0, c1, -, -⟩ := HW.out.c2
  have zW := HW.out.lt
  go_wp2_with fail
  refine (want_any lo hi _).mono ?_
  rw [H2.out]
  rintro e w2 ⟨rfl, hb2⟩
  have s2 := hb2.size; try simp only [World.size_alloc, World.size_setCell, World.size_drew, setRow_size] at s2
  have HW2 := Lib.hid (HW.out.after hb2)
  have HH2 := Lib.hid (HH.out.after hb2)
  have HS2 := Lib.hid (HS.out.after hb2)
  clear c0 c1 zW
  go_wp2_with fail
  refine (scaleOf_1 _).mono ?_
  rintro e w3 ⟨b1, b2, rfl, ho, hb3⟩
  have s3 := hb3.size; try simp only [World.size_alloc, World.size_setCell, World.size_drew, setRow_size] at s3
  have HO := Lib.hid ho
  clear ho
  go_wp2_with fail
  refine (down_any nom 100 b1 _ (HO.out.alloc _).c1 n0 (by omega) (by omega)).mono ?_
  rintro e w4 ⟨rfl, k, hk⟩
  have hb4 := quiet_below hk
  clear hk
  have s4 := hb4.size; try simp only [World.size_alloc, World.size_setCell, World.size_drew, setRow_size] at s4
  have HO4 := Lib.hid ((HO.out.alloc _).after hb4)
  have HW4 := Lib.hid (((HW2.out.after hb3).alloc _).after hb4)
  have HH4 := Lib.hid (((HH2.out.after hb3).alloc _).after hb4)
  have HS4 := Lib.hid (((HS2.out.after hb3).alloc _).after hb4)
  have LSC := (Lies.new (t := 77) (cs := #[.int .u8 1, .int .i64 100, .int .i64 3, .string (⟨#[109, 109]⟩), .func (.func 74) #[] #[.pointer (some ⟨b1, 0, none⟩)], .func (.func 75) #[] #[.pointer (some ⟨b1, 0, none⟩)], .func (.func 76) #[] #[.pointer (some ⟨b2, 0, none⟩), .pointer (some ⟨b1, 0, none⟩)]]) rfl).after hb4
  have q5 := LSC.cell 5
  have zC := LSC.lt
  clear LSC
  obtain ⟨c0, c1, -, -⟩ := HW4.out.c2
  have zW := HW4.out.lt
  go_wp2_with fail
  refine (down_any ((hi - lo) / 2) 100 b1 _ HO4.out.c1 (by omega) (by omega) (by omega)).mono ?_
  rintro e w5 ⟨rfl, k2, hk⟩
  have hb5 := quiet_below hk
  clear hk
  have s5 := hb5.size; try simp only [World.size_alloc, World.size_setCell, World.size_drew, setRow_size] at s5
  have HW5 := Lib.hid (HW4.out.after hb5)
  have HH5 := Lib.hid (HH4.out.after hb5)
  have HS5 := Lib.hid (HS4.out.after hb5)
  clear c0 c1
  obtain ⟨a0, a1, a2, f0, f1, f2⟩ := HH5.out.c3
  obtain ⟨d0, d1, d2, g0, g1, g2⟩ := HS5.out.c3
  have zH := HH5.out.lt
  have zS := HS5.out.lt
  go_wp2_with fail
  refine (Check_ok nom nom (nom + downS 100 ((hi - lo) / 2)) _ HC.out).mono ?_
  rintro e w6 ⟨rfl, hb6⟩
  have s6 := hb6.size; try simp only [World.size_alloc, World.size_setCell, World.size_drew, setRow_size] at s6
  have HH6 := Lib.hid ((((HH5.out.store 0 (.int .i64 nom)).store 1 (.int .i64 nom)).store 2 (.int .i64 (nom + downS 100 ((hi - lo) / 2)))).after hb6)
  have HS6 := Lib.hid ((((HS5.out.other (p := ⟨w.heap.size + 1, 0, none⟩) (by simp) (.int .i64 nom)).other (p := ⟨w.heap.size + 1, 1, none⟩) (by simp) (.int .i64 nom)).other (p := ⟨w.heap.size + 1, 2, none⟩) (by simp) (.int .i64 (nom + downS 100 ((hi - lo) / 2)))).after hb6)
  have HW6 := Lib.hid ((((HW5.out.other (p := ⟨w.heap.size + 1, 0, none⟩) (by simp) (.int .i64 nom)).other (p := ⟨w.heap.size + 1, 1, none⟩) (by simp) (.int .i64 nom)).other (p := ⟨w.heap.size + 1, 2, none⟩) (by simp) (.int .i64 (nom + downS 100 ((hi - lo) / 2)))).after hb6)
  clear a0 a1 a2 f0 f1 f2 d0 d1 d2 g0 g1 g2
  obtain ⟨a0, a1, a2, f0, f1, f2⟩ := HH6.out.c3
  obtain ⟨d0, d1, d2, g0, g1, g2⟩ := HS6.out.c3
  have zH := HH6.out.lt
  have zS := HS6.out.lt
  obtain ⟨c0, c1, -, -⟩ := HW6.out.c2
  have zW6 := HW6.out.lt
  go_wp2_with fail
  refine (HR.out _).mono ?_
  rintro e w7 ⟨rfl, hb7⟩
  have s7 := hb7.size; try simp only [World.size_alloc, World.size_setCell, World.size_drew, setRow_size] at s7
  have HH7 := Lib.hid (HH6.out.after hb7)
  have HS7 := Lib.hid (HS6.out.after hb7)
  clear a0 a1 a2 f0 f1 f2 d0 d1 d2 g0 g1 g2 c0 c1
  obtain ⟨a0, a1, a2, f0, f1, f2⟩ := HH7.out.c3
  obtain ⟨d0, d1, d2, g0, g1, g2⟩ := HS7.out.c3
  have zH := HH7.out.lt
  have zS := HS7.out.lt
  go_wp2_with fail
  refine (HV.out _).mono ?_
  rintro _ w8 ⟨rfl, hb8⟩
  have s8 := hb8.size; try simp only [World.size_alloc, World.size_setCell, World.size_drew, setRow_size] at s8
  have HH8 := Lib.hid ((((HH7.out.other (p := ⟨w.heap.size + 1 + 1, 0, none⟩) (by simp) (.int .i64 nom)).other (p := ⟨w.heap.size + 1 + 1, 1, none⟩) (by simp) (.int .i64 rl)).other (p := ⟨w.heap.size + 1 + 1, 2, none⟩) (by simp) (.int .i64 rh)).after hb8)
  have HS8 := Lib.hid ((((HS7.out.store 0 (.int .i64 nom)).store 1 (.int .i64 rl)).store 2 (.int .i64 rh)).after hb8)
  clear a0 a1 a2 f0 f1 f2 d0 d1 d2 g0 g1 g2
  go_wp2_with (first | (refine wpList_store_row rfl 28 (.tmp 7) (.tmp 71) rfl (w.heap.size + 1 + 1) #[.int .i64 x, .int .i64 y, .int .i64 z] rfl rfl _ _ (HS8.out) (by kernel_rfl) rfl (by kernel_rfl) ?_) | (refine wpList_store_row rfl 28 (.tmp 6) (.tmp 75) rfl (w.heap.size + 1) #[.int .i64 0, .int .i64 0, .int .i64 0] rfl rfl _ _ (HH8.out.elsewhere (by omega) _) (by kernel_rfl) rfl (by kernel_rfl) ?_) | (refine wpList_store_row rfl 28 (.tmp 7) (.tmp 76) rfl (w.heap.size + 1 + 1) #[.int .i64 0, .int .i64 0, .int .i64 0] rfl rfl _ _ ((HS8.out.row #[.int .i64 x, .int .i64 y, .int .i64 z]).elsewhere (by omega) _) (by kernel_rfl) rfl (by kernel_rfl) ?_))
  have FH := ((HH8.out.elsewhere (g' := w.heap.size + 1 + 1) (by omega) #[.int .i64 x, .int .i64 y, .int .i64 z]).row #[.int .i64 0, .int .i64 0, .int .i64 0]).elsewhere (g' := w.heap.size + 1 + 1) (by omega) #[.int .i64 0, .int .i64 0, .int .i64 0]
  have FS := ((HS8.out.row #[.int .i64 x, .int .i64 y, .int .i64 z]).elsewhere (g' := w.heap.size + 1) (by omega) #[.int .i64 0, .int .i64 0, .int .i64 0]).row #[.int .i64 0, .int .i64 0, .int .i64 0]
  refine bodyPost_ret (v := .tuple #[.agg #[.int .i64 0, .int .i64 0, .int .i64 0], .agg #[.int .i64 0, .int .i64 0, .int .i64 0], .int .i64 e]) (results_cct Tryd.results27 _ _ (w.heap.size + 1) (w.heap.size + 1 + 1) _ _ _ _ _ _ rfl rfl FH FS Tryd.underlying28 rfl (by kernel_rfl) Tryd.underlying28 rfl (by kernel_rfl)) rfl ⟨rfl, ?_⟩
  (repeat' (first | (with_reducible exact Below.refl _ _) | (with_reducible assumption) | (with_reducible refine Below.alloc ?_ ?_ _) | (with_reducible refine Below.setCell ?_ ?_ _) | (with_reducible refine below_row ?_ ?_ _) | (with_reducible refine Below.drew ?_) | (with_reducible refine below_drewN ?_ _) | (with_reducible refine Below.trans ?_ (Below.mono (by assumption) ?_)) | (first | exact Nat.le_refl _ | omega | (simp; done) | (simp; omega))))

set_option maxHeartbeats 1600000 in
theorem Share_poor2 (nom lo hi : Int) (w : World) (n0 : 0 ≤ nom) (n1 : nom ≤ 1000000000) (h2 : wantS lo hi = true) (hs : downS 254 nom = nom) (hh : okD nom nom (nom + downS 254 ((hi - lo) / 2)) = true) (hr : ¬ roomHi nom lo < roomLo (nom + downS 254 ((hi - lo) / 2)) hi)
    (x y z e : Int) (hc : convS 2 nom (roomLo (nom + downS 254 ((hi - lo) / 2)) hi) (roomHi nom lo) = ((x, y, z), e)) (he : e ≠ 0) :
    Calls Tryd.prog 27 #[.int .i64 nom, .agg #[.int .i64 lo, .int .i64 hi], .int .u8 2] w (Gives2 (noTwo e) w) := by
  have H1 := Lib.hid (show allIn 0 1000000000 [nom] = true by rw [in1]; simp; omega)
  have H2 := Lib.hid h2
  have hs1 : (downS 254 nom != nom) = false := by simpa using hs
  have HC := Lib.hid hh
  have hw3 : -1000000000 ≤ lo ∧ lo ≤ hi ∧ hi ≤ 1000000000 := by simpa [wantS] using h2
  obtain ⟨v0, v1, v2⟩ := hw3
  have hdb := downS_bd (st := 254) (n := (hi - lo) / 2) (by omega) (by omega)
  obtain ⟨y0, y1, -⟩ := hdb
  have HR := Lib.hid (fun W => Room_fits nom nom _ lo hi W hh h2 hr)
  have HV := Lib.hid (fun W => Convert_any 2 nom (roomLo (nom + downS 254 ((hi - lo) / 2)) hi) (roomHi nom lo) W)
  rw [hc] at HV
  generalize roomLo (nom + downS 254 ((hi - lo) / 2)) hi = rl at *
  generalize roomHi nom lo = rh at *
  clear h2 hs hh hr hc
  have he1 : (e != 0) = true := by simpa using he
  have he2 : (e == 0) = false := by simpa using he
  clear he
  go_enter Tryd.func27, Tryd.ntmps27
  go_wp2_with fail
  refine (within_1 _ _ nom _ _ _ ((Lies.new (by simp)).cell 0)).mono ?_
  rw [H1.out]
  rintro e w1 ⟨rfl, hb1⟩
  have s1 := hb1.size; try simp only [World.size_alloc, World.size_setCell, World.size_drew, setRow_size] at s1
  have LW := ((((Lies.new (u := w) (t := 31) (cs := #[.int .i64 lo, .int .i64 hi]) rfl).alloc _).alloc _).alloc _).after hb1
  have LH := (((Lies.new (u := w.alloc (.cells #[.int .i64 lo, .int .i64 hi] 31)) (t := 28) (cs := #[.int .i64 0, .int .i64 0, .int .i64 0]) rfl).alloc _).alloc _).after hb1
  have LS := ((Lies.new (t := 28) (cs := #[.int .i64 0, .int .i64 0, .int .i64 0]) rfl).alloc _).after hb1
  simp only [World.size_alloc] at LH LS
  have HW := Lib.hid LW
  have HH := Lib.hid LH
  have HS := Lib.hid LS
  clear LW LH LS
  obtain ⟨c0, c1, -, -⟩ := HW.out.c2
  have zW := HW.out.lt
  go_wp2_with fail
  refine (want_any lo hi _).mono ?_
  rw [H2.out]
  rintro e w2 ⟨rfl, hb2⟩
  have s2 := hb2.size; try simp only [World.size_alloc, World.size_setCell, World.size_drew, setRow_size] at s2
  have HW2 := Lib.hid (HW.out.after hb2)
  have HH2 := Lib.hid (HH.out.after hb2)
  have HS2 := Lib.hid (HS.out.after hb2)
  clear c0 c1 zW
  go_wp2_with fail
  refine (scaleOf_2 _).mono ?_
  rintro e w3 ⟨b1, b2, rfl, ho, hb3⟩
  have s3 := hb3.size; try simp only [World.size_alloc, World.size_setCell, World.size_drew, setRow_size] at s3
  have HO := Lib.hid ho
  clear ho
  go_wp2_with fail
  refine (down_any nom 254 b1 _ (HO.out.alloc _).c1 n0 (by omega) (by omega)).mono ?_
  rintro e w4 ⟨rfl, k, hk⟩
  have hb4 := quiet_below hk
  clear hk
  have s4 := hb4.size; try simp only [World.size_alloc, World.size_setCell, World.size_drew, setRow_size] at s4
  have HO4 := Lib.hid ((HO.out.alloc _).after hb4)
  have HW4 := Lib.hid (((HW2.out.after hb3).alloc _).after hb4)
  have HH4 := Lib.hid (((HH2.out.after hb3).alloc _).after hb4)
  have HS4 := Lib.hid (((HS2.out.after hb3).alloc _).after hb4)
  have LSC := (Lies.new (t := 77) (cs := #[.int .u8 2, .int .i64 254, .int .i64 4, .string (⟨#[105, 110]⟩), .func (.func 74) #[] #[.pointer (some ⟨b1, 0, none⟩)], .func (.func 75) #[] #[.pointer (some ⟨b1, 0, none⟩)], .func (.func 76) #[] #[.pointer (some ⟨b2, 0, none⟩), .pointer (some ⟨b1, 0, none⟩)]]) rfl).after hb4
  have q5 := LSC.cell 5
  have zC := LSC.lt
  clear LSC
  obtain ⟨c0, c1, -, -⟩ := HW4.out.c2
  have zW := HW4.out.lt
  go_wp2_with fail
  refine (down_any ((hi - lo) / 2) 254 b1 _ HO4.out.c1 (by omega) (by omega) (by omega)).mono ?_
  rintro e w5 ⟨rfl, k2, hk⟩
  have hb5 := quiet_below hk
  clear hk
  have s5 := hb5.size; try simp only [World.size_alloc, World.size_setCell, World.size_drew, setRow_size] at s5
  have HW5 := Lib.hid (HW4.out.after hb5)
  have HH5 := Lib.hid (HH4.out.after hb5)
  have HS5 := Lib.hid (HS4.out.after hb5)
  clear c0 c1
  obtain ⟨a0, a1, a2, f0, f1, f2⟩ := HH5.out.c3
  obtain ⟨d0, d1, d2, g0, g1, g2⟩ := HS5.out.c3
  have zH := HH5.out.lt
  have zS := HS5.out.lt
  go_wp2_with fail
  refine (Check_ok nom nom (nom + downS 254 ((hi - lo) / 2)) _ HC.out).mono ?_
  rintro e w6 ⟨rfl, hb6⟩
  have s6 := hb6.size; try simp only [World.size_alloc, World.size_setCell, World.size_drew, setRow_size] at s6
  have HH6 := Lib.hid ((((HH5.out.store 0 (.int .i64 nom)).store 1 (.int .i64 nom)).store 2 (.int .i64 (nom + downS 254 ((hi - lo) / 2)))).after hb6)
  have HS6 := Lib.hid ((((HS5.out.other (p := ⟨w.heap.size + 1, 0, none⟩) (by simp) (.int .i64 nom)).other (p := ⟨w.heap.size + 1, 1, none⟩) (by simp) (.int .i64 nom)).other (p := ⟨w.heap.size + 1, 2, none⟩) (by simp) (.int .i64 (nom + downS 254 ((hi - lo) / 2)))).after hb6)
  have HW6 := Lib.hid ((((HW5.out.other (p := ⟨w.heap.size + 1, 0, none⟩) (by simp) (.int .i64 nom)).other (p := ⟨w.heap.size + 1, 1, none⟩) (by simp) (.int .i64 nom)).other (p := ⟨w.heap.size + 1, 2, none⟩) (by simp) (.int .i64 (nom + downS 254 ((hi - lo) / 2)))).after hb6)
  clear a0 a1 a2 f0 f1 f2 d0 d1 d2 g0 g1 g2
  obtain ⟨a0, a1, a2, f0, f1, f2⟩ := HH6.out.c3
  obtain ⟨d0, d1, d2, g0, g1, g2⟩ := HS6.out.c3
  have zH := HH6.out.lt
  have zS := HS6.out.lt
  obtain ⟨c0, c1, -, -⟩ := HW6.out.c2
  have zW6 := HW6.out.lt
  go_wp2_with fail
  refine (HR.out _).mono ?_
  rintro e w7 ⟨rfl, hb7⟩
  have s7 := hb7.size; try simp only [World.size_alloc, World.size_setCell, World.size_drew, setRow_size] at s7
  have HH7 := Lib.hid (HH6.out.after hb7)
  have HS7 := Lib.hid (HS6.out.after hb7)
  clear a0 a1 a2 f0 f1 f2 d0 d1 d2 g0 g1 g2 c0 c1
  obtain ⟨a0, a1, a2, f0, f1, f2⟩ := HH7.out.c3
  obtain ⟨d0, d1, d2, g0, g1, g2⟩ := HS7.out.c3
  have zH := HH7.out.lt
  have zS := HS7.out.lt
  go_wp2_with fail
  refine (HV.out _).mono ?_
  rintro _ w8 ⟨rfl, hb8⟩
  have s8 := hb8.size; try simp only [World.size_alloc, World.size_setCell, World.size_drew, setRow_size] at s8
  have HH8 := Lib.hid ((((HH7.out.other (p := ⟨w.heap.size + 1 + 1, 0, none⟩) (by simp) (.int .i64 nom)).other (p := ⟨w.heap.size + 1 + 1, 1, none⟩) (by simp) (.int .i64 rl)).other (p := ⟨w.heap.size + 1 + 1, 2, none⟩) (by simp) (.int .i64 rh)).after hb8)
  have HS8 := Lib.hid ((((HS7.out.store 0 (.int .i64 nom)).store 1 (.int .i64 rl)).store 2 (.int .i64 rh)).after hb8)
  clear a0 a1 a2 f0 f1 f2 d0 d1 d2 g0 g1 g2
  go_wp2_with (first | (refine wpList_store_row rfl 28 (.tmp 7) (.tmp 71) rfl (w.heap.size + 1 + 1) #[.int .i64 x, .int .i64 y, .int .i64 z] rfl rfl _ _ (HS8.out) (by kernel_rfl) rfl (by kernel_rfl) ?_) | (refine wpList_store_row rfl 28 (.tmp 6) (.tmp 75) rfl (w.heap.size + 1) #[.int .i64 0, .int .i64 0, .int .i64 0] rfl rfl _ _ (HH8.out.elsewhere (by omega) _) (by kernel_rfl) rfl (by kernel_rfl) ?_) | (refine wpList_store_row rfl 28 (.tmp 7) (.tmp 76) rfl (w.heap.size + 1 + 1) #[.int .i64 0, .int .i64 0, .int .i64 0] rfl rfl _ _ ((HS8.out.row #[.int .i64 x, .int .i64 y, .int .i64 z]).elsewhere (by omega) _) (by kernel_rfl) rfl (by kernel_rfl) ?_))
  have FH := ((HH8.out.elsewhere (g' := w.heap.size + 1 + 1) (by omega) #[.int .i64 x, .int .i64 y, .int .i64 z]).row #[.int .i64 0, .int .i64 0, .int .i64 0]).elsewhere (g' := w.heap.size + 1 + 1) (by omega) #[.int .i64 0, .int .i64 0, .int .i64 0]
  have FS := ((HS8.out.row #[.int .i64 x, .int .i64 y, .int .i64 z]).elsewhere (g' := w.heap.size + 1) (by omega) #[.int .i64 0, .int .i64 0, .int .i64 0]).row #[.int .i64 0, .int .i64 0, .int .i64 0]
  refine bodyPost_ret (v := .tuple #[.agg #[.int .i64 0, .int .i64 0, .int .i64 0], .agg #[.int .i64 0, .int .i64 0, .int .i64 0], .int .i64 e]) (results_cct Tryd.results27 _ _ (w.heap.size + 1) (w.heap.size + 1 + 1) _ _ _ _ _ _ rfl rfl FH FS Tryd.underlying28 rfl (by kernel_rfl) Tryd.underlying28 rfl (by kernel_rfl)) rfl ⟨rfl, ?_⟩
  (repeat' (first | (with_reducible exact Below.refl _ _) | (with_reducible assumption) | (with_reducible refine Below.alloc ?_ ?_ _) | (with_reducible refine Below.setCell ?_ ?_ _) | (with_reducible refine below_row ?_ ?_ _) | (with_reducible refine Below.drew ?_) | (with_reducible refine below_drewN ?_ _) | (with_reducible refine Below.trans ?_ (Below.mono (by assumption) ?_)) | (first | exact Nat.le_refl _ | omega | (simp; done) | (simp; omega))))
end Go.Proofs.YtldjkdomklgmaaaDoor
