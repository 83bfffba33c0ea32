/- Share. -/
import Derived.Test.YtldjkdomklgmaaaDoorC4
import Derived.Test.YtldjkdomklgmaaaDoorA5
namespace Go.Proofs.YtldjkdomklgmaaaDoor
set_option linter.unusedVariables false
set_option linter.unusedSimpArgs false
open Go.RowKit

/-- The results of a function that returns two structs and one value more. -/
theorem results_cct {P : Program} {fn : Func} {p q r : Tmp} {ty tq : TypeId} (h : fn.results = #[.cell p ty, .cell q tq, .tmp r]) (tmps : Array Value) (w : World) (g g2 : Nat) (t t2 : TypeId) (cs cs2 : Array Value) (d d2 : TypeDesc)
    (hp : tmps.getD p undef = .pointer (some ⟨g, 0, none⟩)) (hq : tmps.getD q undef = .pointer (some ⟨g2, 0, none⟩)) (hg : Lies w g t cs) (hg2 : Lies w g2 t2 cs2)
    (hu : P.underlying ty = some d) (hd : (match d with | .struct _ | .array _ _ => true | _ => false) = true) (hi : (P.info? ty).map (·.size) = some cs.size)
    (hu2 : P.underlying tq = some d2) (hd2 : (match d2 with | .struct _ | .array _ _ => true | _ => false) = true) (hi2 : (P.info? tq).map (·.size) = some cs2.size) :
    (results fn tmps).run P w = .ok (.tuple #[.agg cs, .agg cs2, tmps.getD r undef]) w := by
  have hp' : tmps[p]?.getD undef = .pointer (some ⟨g, 0, none⟩) := by simpa using hp
  have hq' : tmps[q]?.getD undef = .pointer (some ⟨g2, 0, none⟩) := by simpa using hq
  have e1 := run_loadVar_row (P := P) w g t ty cs (0, 0) d hg hu hd hi
  have e2 := run_loadVar_row (P := P) w g2 t2 tq cs2 (0, 0) d2 hg2 hu2 hd2 hi2
  simp [results, h, hp', hq', asAddr, e1, e2]

/-- Two sizes and an error come back. -/
def Gives2 (r : D3 × D3 × Int) (w : World) (e : Ending) (w' : World) : Prop := e = .returned (.tuple #[.agg #[.int .i64 r.1.1, .int .i64 r.1.2.1, .int .i64 r.1.2.2], .agg #[.int .i64 r.2.1.1, .int .i64 r.2.1.2.1, .int .i64 r.2.1.2.2], .int .i64 r.2.2]) ∧ Below w.heap.size w w'
def noTwo (e : Int) : D3 × D3 × Int := ((0, 0, 0), (0, 0, 0), e)

theorem in1 (x : Int) : allIn 0 1000000000 [x] = decide (0 ≤ x ∧ x ≤ 1000000000) := by simp [allIn]

theorem quiet_below {w w' : World} {k : Nat} (h : w' = w.drewN k) : Below w.heap.size w w' := by
  subst h; exact below_drewN (Below.refl _ _) _

set_option maxHeartbeats 400000 in
theorem Share_arg1 (nom lo hi un : Int) (w : World) (h1 : allIn 0 1000000000 [nom] = false) :
    Calls Tryd.prog 27 #[.int .i64 nom, .agg #[.int .i64 lo, .int .i64 hi], .int .u8 un] w (Gives2 (noTwo 2) w) := by
  have H1 := Lib.hid h1
  clear h1
  go_enter Tryd.func27, Tryd.ntmps27
  go_wp2_with fail
  refine (within_1 _ _ nom _ _ _ ((Lies.new (by simp)).cell 0)).mono ?_
  rw [H1.out]
  rintro e w1 ⟨rfl, hb1⟩
  have s1 := hb1.size; try simp only [World.size_alloc, World.size_setCell, World.size_drew, setRow_size] at s1
  have LW := ((((Lies.new (u := w) (t := 31) (cs := #[.int .i64 lo, .int .i64 hi]) rfl).alloc _).alloc _).alloc _).after hb1
  have LH := (((Lies.new (u := w.alloc (.cells #[.int .i64 lo, .int .i64 hi] 31)) (t := 28) (cs := #[.int .i64 0, .int .i64 0, .int .i64 0]) rfl).alloc _).alloc _).after hb1
  have LS := ((Lies.new (t := 28) (cs := #[.int .i64 0, .int .i64 0, .int .i64 0]) rfl).alloc _).after hb1
  simp only [World.size_alloc] at LH LS
  have HW := Lib.hid LW
  have HH := Lib.hid LH
  have HS := Lib.hid LS
  clear LW LH LS
  obtain ⟨a0, a1, a2, f0, f1, f2⟩ := HH.out.c3
  obtain ⟨d0, d1, d2, g0, g1, g2⟩ := HS.out.c3
  have zH := HH.out.lt
  have zS := HS.out.lt
  go_wp2_with fail
  have FH := ((((((HH.out.store 0 (.int .i64 0)).store 1 (.int .i64 0)).store 2 (.int .i64 0)).other (p := ⟨w.heap.size + 1 + 1, 0, none⟩) (by simp) (.int .i64 0)).other (p := ⟨w.heap.size + 1 + 1, 1, none⟩) (by simp) (.int .i64 0)).other (p := ⟨w.heap.size + 1 + 1, 2, none⟩) (by simp) (.int .i64 0))
  have FS := ((((((HS.out.other (p := ⟨w.heap.size + 1, 0, none⟩) (by simp) (.int .i64 0)).other (p := ⟨w.heap.size + 1, 1, none⟩) (by simp) (.int .i64 0)).other (p := ⟨w.heap.size + 1, 2, none⟩) (by simp) (.int .i64 0)).store 0 (.int .i64 0)).store 1 (.int .i64 0)).store 2 (.int .i64 0))
  refine bodyPost_ret (v := .tuple #[.agg #[.int .i64 0, .int .i64 0, .int .i64 0], .agg #[.int .i64 0, .int .i64 0, .int .i64 0], .int .i64 2]) (results_cct Tryd.results27 _ _ (w.heap.size + 1) (w.heap.size + 1 + 1) _ _ _ _ _ _ rfl rfl FH FS Tryd.underlying28 rfl (by kernel_rfl) Tryd.underlying28 rfl (by kernel_rfl)) rfl ⟨rfl, ?_⟩
  (repeat' (first | (with_reducible exact Below.refl _ _) | (with_reducible assumption) | (with_reducible refine Below.alloc ?_ ?_ _) | (with_reducible refine Below.setCell ?_ ?_ _) | (with_reducible refine below_row ?_ ?_ _) | (with_reducible refine Below.drew ?_) | (with_reducible refine below_drewN ?_ _) | (with_reducible refine Below.trans ?_ (Below.mono (by assumption) ?_)) | (first | exact Nat.le_refl _ | omega | (simp; done) | (simp; omega))))

set_option maxHeartbeats 400000 in
theorem Share_arg2 (nom lo hi un : Int) (w : World) (h1 : allIn 0 1000000000 [nom] = true) (h2 : wantS lo hi = false) :
    Calls Tryd.prog 27 #[.int .i64 nom, .agg #[.int .i64 lo, .int .i64 hi], .int .u8 un] w (Gives2 (noTwo 2) w) := by
  have H1 := Lib.hid h1
  have H2 := Lib.hid h2
  clear h1 h2
  go_enter Tryd.func27, Tryd.ntmps27
  go_wp2_with fail
  refine (within_1 _ _ nom _ _ _ ((Lies.new (by simp)).cell 0)).mono ?_
  rw [H1.out]
  rintro e w1 ⟨rfl, hb1⟩
  have s1 := hb1.size; try simp only [World.size_alloc, World.size_setCell, World.size_drew, setRow_size] at s1
  have LW := ((((Lies.new (u := w) (t := 31) (cs := #[.int .i64 lo, .int .i64 hi]) rfl).alloc _).alloc _).alloc _).after hb1
  have LH := (((Lies.new (u := w.alloc (.cells #[.int .i64 lo, .int .i64 hi] 31)) (t := 28) (cs := #[.int .i64 0, .int .i64 0, .int .i64 0]) rfl).alloc _).alloc _).after hb1
  have LS := ((Lies.new (t := 28) (cs := #[.int .i64 0, .int .i64 0, .int .i64 0]) rfl).alloc _).after hb1
  simp only [World.size_alloc] at LH LS
  have HW := Lib.hid LW
  have HH := Lib.hid LH
  have HS := Lib.hid LS
  clear LW LH LS
  obtain ⟨c0, c1, -, -⟩ := HW.out.c2
  have zW := HW.out.lt
  go_wp2_with fail
  refine (want_any lo hi _).mono ?_
  rw [H2.out]
  rintro e w2 ⟨rfl, hb2⟩
  have s2 := hb2.size; try simp only [World.size_alloc, World.size_setCell, World.size_drew, setRow_size] at s2
  have HW2 := Lib.hid (HW.out.after hb2)
  have HH2 := Lib.hid (HH.out.after hb2)
  have HS2 := Lib.hid (HS.out.after hb2)
  clear c0 c1 zW
  obtain ⟨a0, a1, a2, f0, f1, f2⟩ := HH2.out.c3
  obtain ⟨d0, d1, d2, g0, g1, g2⟩ := HS2.out.c3
  have zH := HH2.out.lt
  have zS := HS2.out.lt
  go_wp2_with fail
  have FH := ((((((HH2.out.store 0 (.int .i64 0)).store 1 (.int .i64 0)).store 2 (.int .i64 0)).other (p := ⟨w.heap.size + 1 + 1, 0, none⟩) (by simp) (.int .i64 0)).other (p := ⟨w.heap.size + 1 + 1, 1, none⟩) (by simp) (.int .i64 0)).other (p := ⟨w.heap.size + 1 + 1, 2, none⟩) (by simp) (.int .i64 0))
  have FS := ((((((HS2.out.other (p := ⟨w.heap.size + 1, 0, none⟩) (by simp) (.int .i64 0)).other (p := ⟨w.heap.size + 1, 1, none⟩) (by simp) (.int .i64 0)).other (p := ⟨w.heap.size + 1, 2, none⟩) (by simp) (.int .i64 0)).store 0 (.int .i64 0)).store 1 (.int .i64 0)).store 2 (.int .i64 0))
  refine bodyPost_ret (v := .tuple #[.agg #[.int .i64 0, .int .i64 0, .int .i64 0], .agg #[.int .i64 0, .int .i64 0, .int .i64 0], .int .i64 2]) (results_cct Tryd.results27 _ _ (w.heap.size + 1) (w.heap.size + 1 + 1) _ _ _ _ _ _ rfl rfl FH FS Tryd.underlying28 rfl (by kernel_rfl) Tryd.underlying28 rfl (by kernel_rfl)) rfl ⟨rfl, ?_⟩
  (repeat' (first | (with_reducible exact Below.refl _ _) | (with_reducible assumption) | (with_reducible refine Below.alloc ?_ ?_ _) | (with_reducible refine Below.setCell ?_ ?_ _) | (with_reducible refine below_row ?_ ?_ _) | (with_reducible refine Below.drew ?_) | (with_reducible refine below_drewN ?_ _) | (with_reducible refine Below.trans ?_ (Below.mono (by assumption) ?_)) | (first | exact Nat.le_refl _ | omega | (simp; done) | (simp; omega))))

set_option maxHeartbeats 400000 in
theorem Share_step1 (nom lo hi : Int) (w : World) (n0 : 0 ≤ nom) (n1 : nom ≤ 1000000000) (h2 : wantS lo hi = true) (hs : downS 100 nom ≠ nom) :
    Calls Tryd.prog 27 #[.int .i64 nom, .agg #[.int .i64 lo, .int .i64 hi], .int .u8 1] w (Gives2 (noTwo 12) w) := by
  have H1 := Lib.hid (show allIn 0 1000000000 [nom] = true by rw [in1]; simp; omega)
  have H2 := Lib.hid h2
  have hs1 : (downS 100 nom != nom) = true := by simpa using hs
  clear h2 hs
  go_enter Tryd.func27, Tryd.ntmps27
  go_wp2_with fail
  refine (within_1 _ _ nom _ _ _ ((Lies.new (by simp)).cell 0)).mono ?_
  rw [H1.out]
  rintro e w1 ⟨rfl, hb1⟩
  have s1 := hb1.size; try simp only [World.size_alloc, World.size_setCell, World.size_drew, setRow_size] at s1
  have LW := ((((Lies.new (u := w) (t := 31) (cs := #[.int .i64 lo, .int .i64 hi]) rfl).alloc _).alloc _).alloc _).after hb1
  have LH := (((Lies.new (u := w.alloc (.cells #[.int .i64 lo, .int .i64 hi] 31)) (t := 28) (cs := #[.int .i64 0, .int .i64 0, .int .i64 0]) rfl).alloc _).alloc _).after hb1
  have LS := ((Lies.new (t := 28) (cs := #[.int .i64 0, .int .i64 0, .int .i64 0]) rfl).alloc _).after hb1
  simp only [World.size_alloc] at LH LS
  have HW := Lib.hid LW
  have HH := Lib.hid LH
  have HS := Lib.hid LS
  clear LW LH LS
  obtain ⟨c0, c1, -, -⟩ := HW.out.c2
  have zW := HW.out.lt
  go_wp2_with fail
  refine (want_any lo hi _).mono ?_
  rw [H2.out]
  rintro e w2 ⟨rfl, hb2⟩
  have s2 := hb2.size; try simp only [World.size_alloc, World.size_setCell, World.size_drew, setRow_size] at s2
  have HW2 := Lib.hid (HW.out.after hb2)
  have HH2 := Lib.hid (HH.out.after hb2)
  have HS2 := Lib.hid (HS.out.after hb2)
  clear c0 c1 zW
  go_wp2_with fail
  refine (scaleOf_1 _).mono ?_
  rintro e w3 ⟨b1, b2, rfl, ho, hb3⟩
  have s3 := hb3.size; try simp only [World.size_alloc, World.size_setCell, World.size_drew, setRow_size] at s3
  have HO := Lib.hid ho
  clear ho
  go_wp2_with fail
  refine (down_any nom 100 b1 _ (HO.out.alloc _).c1 n0 (by omega) (by omega)).mono ?_
  rintro e w4 ⟨rfl, k, hk⟩
  have hb4 := quiet_below hk
  clear hk
  have s4 := hb4.size; try simp only [World.size_alloc, World.size_setCell, World.size_drew, setRow_size] at s4
  have HO4 := Lib.hid ((HO.out.alloc _).after hb4)
  have HW4 := Lib.hid (((HW2.out.after hb3).alloc _).after hb4)
  have HH4 := Lib.hid (((HH2.out.after hb3).alloc _).after hb4)
  have HS4 := Lib.hid (((HS2.out.after hb3).alloc _).after hb4)
  have LSC := (Lies.new (t := 77) (cs := #[.int .u8 1, .int .i64 100, .int .i64 3, .string (⟨#[109, 109]⟩), .func (.func 74) #[] #[.pointer (some ⟨b1, 0, none⟩)], .func (.func 75) #[] #[.pointer (some ⟨b1, 0, none⟩)], .func (.func 76) #[] #[.pointer (some ⟨b2, 0, none⟩), .pointer (some ⟨b1, 0, none⟩)]]) rfl).after hb4
  have q5 := LSC.cell 5
  have zC := LSC.lt
  clear LSC
  obtain ⟨a0, a1, a2, f0, f1, f2⟩ := HH4.out.c3
  obtain ⟨d0, d1, d2, g0, g1, g2⟩ := HS4.out.c3
  have zH := HH4.out.lt
  have zS := HS4.out.lt
  go_wp2_with fail
  have FH := ((((((HH4.out.store 0 (.int .i64 0)).store 1 (.int .i64 0)).store 2 (.int .i64 0)).other (p := ⟨w.heap.size + 1 + 1, 0, none⟩) (by simp) (.int .i64 0)).other (p := ⟨w.heap.size + 1 + 1, 1, none⟩) (by simp) (.int .i64 0)).other (p := ⟨w.heap.size + 1 + 1, 2, none⟩) (by simp) (.int .i64 0))
  have FS := ((((((HS4.out.other (p := ⟨w.heap.size + 1, 0, none⟩) (by simp) (.int .i64 0)).other (p := ⟨w.heap.size + 1, 1, none⟩) (by simp) (.int .i64 0)).other (p := ⟨w.heap.size + 1, 2, none⟩) (by simp) (.int .i64 0)).store 0 (.int .i64 0)).store 1 (.int .i64 0)).store 2 (.int .i64 0))
  refine bodyPost_ret (v := .tuple #[.agg #[.int .i64 0, .int .i64 0, .int .i64 0], .agg #[.int .i64 0, .int .i64 0, .int .i64 0], .int .i64 12]) (results_cct Tryd.results27 _ _ (w.heap.size + 1) (w.heap.size + 1 + 1) _ _ _ _ _ _ rfl rfl FH FS Tryd.underlying28 rfl (by kernel_rfl) Tryd.underlying28 rfl (by kernel_rfl)) rfl ⟨rfl, ?_⟩
  (repeat' (first | (with_reducible exact Below.refl _ _) | (with_reducible assumption) | (with_reducible refine Below.alloc ?_ ?_ _) | (with_reducible refine Below.setCell ?_ ?_ _) | (with_reducible refine below_row ?_ ?_ _) | (with_reducible refine Below.drew ?_) | (with_reducible refine below_drewN ?_ _) | (with_reducible refine Below.trans ?_ (Below.mono (by assumption) ?_)) | (first | exact Nat.le_refl _ | omega | (simp; done) | (simp; omega))))

set_option maxHeartbeats 400000 in
theorem Share_step2 (nom lo hi : Int) (w : World) (n0 : 0 ≤ nom) (n1 : nom ≤ 1000000000) (h2 : wantS lo hi = true) (hs : downS 254 nom ≠ nom) :
    Calls Tryd.prog 27 #[.int .i64 nom, .agg #[.int .i64 lo, .int .i64 hi], .int .u8 2] w (Gives2 (noTwo 12) w) := by
  have H1 := Lib.hid (show allIn 0 1000000000 [nom] = true by rw [in1]; simp; omega)
  have H2 := Lib.hid h2
  have hs1 : (downS 254 nom != nom) = true := by simpa using hs
  clear h2 hs
  go_enter Tryd.func27, Tryd.ntmps27
  go_wp2_with fail
  refine (within_1 _ _ nom _ _ _ ((Lies.new (by simp)).cell 0)).mono ?_
  rw [H1.out]
  rintro e w1 ⟨rfl, hb1⟩
  have s1 := hb1.size; try simp only [World.size_alloc, World.size_setCell, World.size_drew, setRow_size] at s1
  have LW := ((((Lies.new (u := w) (t := 31) (cs := #[.int .i64 lo, .int .i64 hi]) rfl).alloc _).alloc _).alloc _).after hb1
  have LH := (((Lies.new (u := w.alloc (.cells #[.int .i64 lo, .int .i64 hi] 31)) (t := 28) (cs := #[.int .i64 0, .int .i64 0, .int .i64 0]) rfl).alloc _).alloc _).after hb1
  have LS := ((Lies.new (t := 28) (cs := #[.int .i64 0, .int .i64 0, .int .i64 0]) rfl).alloc _).after hb1
  simp only [World.size_alloc] at LH LS
  have HW := Lib.hid LW
  have HH := Lib.hid LH
  have HS := Lib.hid LS
  clear LW LH LS
  obtain ⟨c0, c1, -, -⟩ := HW.out.c2
  have zW := HW.out.lt
  go_wp2_with fail
  refine (want_any lo hi _).mono ?_
  rw [H2.out]
  rintro e w2 ⟨rfl, hb2⟩
  have s2 := hb2.size; try simp only [World.size_alloc, World.size_setCell, World.size_drew, setRow_size] at s2
  have HW2 := Lib.hid (HW.out.after hb2)
  have HH2 := Lib.hid (HH.out.after hb2)
  have HS2 := Lib.hid (HS.out.after hb2)
  clear c0 c1 zW
  go_wp2_with fail
  refine (scaleOf_2 _).mono ?_
  rintro e w3 ⟨b1, b2, rfl, ho, hb3⟩
  have s3 := hb3.size; try simp only [World.size_alloc, World.size_setCell, World.size_drew, setRow_size] at s3
  have HO := Lib.hid ho
  clear ho
  go_wp2_with fail
  refine (down_any nom 254 b1 _ (HO.out.alloc _).c1 n0 (by omega) (by omega)).mono ?_
  rintro e w4 ⟨rfl, k, hk⟩
  have hb4 := quiet_below hk
  clear hk
  have s4 := hb4.size; try simp only [World.size_alloc, World.size_setCell, World.size_drew, setRow_size] at s4
  have HO4 := Lib.hid ((HO.out.alloc _).after hb4)
  have HW4 := Lib.hid (((HW2.out.after hb3).alloc _).after hb4)
  have HH4 := Lib.hid (((HH2.out.after hb3).alloc _).after hb4)
  have HS4 := Lib.hid (((HS2.out.after hb3).alloc _).after hb4)
  have LSC := (Lies.new (t := 77) (cs := #[.int .u8 2, .int .i64 254, .int .i64 4, .string (⟨#[105, 110]⟩), .func (.func 74) #[] #[.pointer (some ⟨b1, 0, none⟩)], .func (.func 75) #[] #[.pointer (some ⟨b1, 0, none⟩)], .func (.func 76) #[] #[.pointer (some ⟨b2, 0, none⟩), .pointer (some ⟨b1, 0, none⟩)]]) rfl).after hb4
  have q5 := LSC.cell 5
  have zC := LSC.lt
  clear LSC
  obtain ⟨a0, a1, a2, f0, f1, f2⟩ := HH4.out.c3
  obtain ⟨d0, d1, d2, g0, g1, g2⟩ := HS4.out.c3
  have zH := HH4.out.lt
  have zS := HS4.out.lt
  go_wp2_with fail
  have FH := ((((((HH4.out.store 0 (.int .i64 0)).store 1 (.int .i64 0)).store 2 (.int .i64 0)).other (p := ⟨w.heap.size + 1 + 1, 0, none⟩) (by simp) (.int .i64 0)).other (p := ⟨w.heap.size + 1 + 1, 1, none⟩) (by simp) (.int .i64 0)).other (p := ⟨w.heap.size + 1 + 1, 2, none⟩) (by simp) (.int .i64 0))
  have FS := ((((((HS4.out.other (p := ⟨w.heap.size + 1, 0, none⟩) (by simp) (.int .i64 0)).other (p := ⟨w.heap.size + 1, 1, none⟩) (by simp) (.int .i64 0)).other (p := ⟨w.heap.size + 1, 2, none⟩) (by simp) (.int .i64 0)).store 0 (.int .i64 0)).store 1 (.int .i64 0)).store 2 (.int .i64 0))
  refine bodyPost_ret (v := .tuple #[.agg #[.int .i64 0, .int .i64 0, .int .i64 0], .agg #[.int .i64 0, .int .i64 0, .int .i64 0], .int .i64 12]) (results_cct Tryd.results27 _ _ (w.heap.size + 1) (w.heap.size + 1 + 1) _ _ _ _ _ _ rfl rfl FH FS Tryd.underlying28 rfl (by kernel_rfl) Tryd.underlying28 rfl (by kernel_rfl)) rfl ⟨rfl, ?_⟩
  (repeat' (first | (with_reducible exact Below.refl _ _) | (with_reducible assumption) | (with_reducible refine Below.alloc ?_ ?_ _) | (with_reducible refine Below.setCell ?_ ?_ _) | (with_reducible refine below_row ?_ ?_ _) | (with_reducible refine Below.drew ?_) | (with_reducible refine below_drewN ?_ _) | (with_reducible refine Below.trans ?_ (Below.mono (by assumption) ?_)) | (first | exact Nat.le_refl _ | omega | (simp; done) | (simp; omega))))

set_option maxHeartbeats 400000 in
theorem Share_hole1 (nom lo hi : Int) (w : World) (n0 : 0 ≤ nom) (n1 : nom ≤ 1000000000) (h2 : wantS lo hi = true) (hs : downS 100 nom = nom) (hh : okD nom nom (nom + downS 100 ((hi - lo) / 2)) = false) :
    Calls Tryd.prog 27 #[.int .i64 nom, .agg #[.int .i64 lo, .int .i64 hi], .int .u8 1] w (Gives2 (noTwo 6) w) := by
  have H1 := Lib.hid (show allIn 0 1000000000 [nom] = true by rw [in1]; simp; omega)
  have H2 := Lib.hid h2
  have hs1 : (downS 100 nom != nom) = false := by simpa using hs
  have HC := Lib.hid hh
  have hw3 : -1000000000 ≤ lo ∧ lo ≤ hi ∧ hi ≤ 1000000000 := by simpa [wantS] using h2
  obtain ⟨v0, v1, v2⟩ := hw3
  have hdb := downS_bd (st := 100) (n := (hi - lo) / 2) (by omega) (by omega)
  obtain ⟨y0, y1, -⟩ := hdb
  clear h2 hs hh
  go_enter Tryd.func27, Tryd.ntmps27
  go_wp2_with fail
  refine (within_1 _ _ nom _ _ _ ((Lies.new (by simp)).cell 0)).mono ?_
  rw [H1.out]
  rintro e w1 ⟨rfl, hb1⟩
  have s1 := hb1.size; try simp only [World.size_alloc, World.size_setCell, World.size_drew, setRow_size] at s1
  have LW := ((((Lies.new (u := w) (t := 31) (cs := #[.int .i64 lo, .int .i64 hi]) rfl).alloc _).alloc _).alloc _).after hb1
  have LH := (((Lies.new (u := w.alloc (.cells #[.int .i64 lo, .int .i64 hi] 31)) (t := 28) (cs := #[.int .i64 0, .int .i64 0, .int .i64 0]) rfl).alloc _).alloc _).after hb1
  have LS := ((Lies.new (t := 28) (cs := #[.int .i64 0, .int .i64 0, .int .i64 0]) rfl).alloc _).after hb1
  simp only [World.size_alloc] at LH LS
  have HW := Lib.hid LW
  have HH := Lib.hid LH
  have HS := Lib.hid LS
  clear LW LH LS
  obtain ⟨c0, c1, -, -⟩ := HW.out.c2
  have zW := HW.out.lt
  go_wp2_with fail
  refine (want_any lo hi _).mono ?_
  rw [H2.out]
  rintro e w2 ⟨rfl, hb2⟩
  have s2 := hb2.size; try simp only [World.size_alloc, World.size_setCell, World.size_drew, setRow_size] at s2
  have HW2 := Lib.hid (HW.out.after hb2)
  have HH2 := Lib.hid (HH.out.after hb2)
  have HS2 := Lib.hid (HS.out.after hb2)
  clear c0 c1 zW
  go_wp2_with fail
  refine (scaleOf_1 _).mono ?_
  rintro e w3 ⟨b1, b2, rfl, ho, hb3⟩
  have s3 := hb3.size; try simp only [World.size_alloc, World.size_setCell, World.size_drew, setRow_size] at s3
  have HO := Lib.hid ho
  clear ho
  go_wp2_with fail
  refine (down_any nom 100 b1 _ (HO.out.alloc _).c1 n0 (by omega) (by omega)).mono ?_
  rintro e w4 ⟨rfl, k, hk⟩
  have hb4 := quiet_below hk
  clear hk
  have s4 := hb4.size; try simp only [World.size_alloc, World.size_setCell, World.size_drew, setRow_size] at s4
  have HO4 := Lib.hid ((HO.out.alloc _).after hb4)
  have HW4 := Lib.hid (((HW2.out.after hb3).alloc _).after hb4)
  have HH4 := Lib.hid (((HH2.out.after hb3).alloc _).after hb4)
  have HS4 := Lib.hid (((HS2.out.after hb3).alloc _).after hb4)
  have LSC := (Lies.new (t := 77) (cs := #[.int .u8 1, .int .i64 100, .int .i64 3, .string (⟨#[109, 109]⟩), .func (.func 74) #[] #[.pointer (some ⟨b1, 0, none⟩)], .func (.func 75) #[] #[.pointer (some ⟨b1, 0, none⟩)], .func (.func 76) #[] #[.pointer (some ⟨b2, 0, none⟩), .pointer (some ⟨b1, 0, none⟩)]]) rfl).after hb4
  have q5 := LSC.cell 5
  have zC := LSC.lt
  clear LSC
  obtain ⟨c0, c1, -, -⟩ := HW4.out.c2
  have zW := HW4.out.lt
  go_wp2_with fail
  refine (down_any ((hi - lo) / 2) 100 b1 _ HO4.out.c1 (by omega) (by omega) (by omega)).mono ?_
  rintro e w5 ⟨rfl, k2, hk⟩
  have hb5 := quiet_below hk
  clear hk
  have s5 := hb5.size; try simp only [World.size_alloc, World.size_setCell, World.size_drew, setRow_size] at s5
  have HW5 := Lib.hid (HW4.out.after hb5)
  have HH5 := Lib.hid (HH4.out.after hb5)
  have HS5 := Lib.hid (HS4.out.after hb5)
  clear c0 c1
  obtain ⟨a0, a1, a2, f0, f1, f2⟩ := HH5.out.c3
  obtain ⟨d0, d1, d2, g0, g1, g2⟩ := HS5.out.c3
  have zH := HH5.out.lt
  have zS := HS5.out.lt
  go_wp2_with fail
  refine (Check_no nom nom (nom + downS 100 ((hi - lo) / 2)) _ HC.out).mono ?_
  rintro e w6 ⟨rfl, hb6⟩
  have s6 := hb6.size; try simp only [World.size_alloc, World.size_setCell, World.size_drew, setRow_size] at s6
  have HH6 := Lib.hid ((((HH5.out.store 0 (.int .i64 nom)).store 1 (.int .i64 nom)).store 2 (.int .i64 (nom + downS 100 ((hi - lo) / 2)))).after hb6)
  have HS6 := Lib.hid ((((HS5.out.other (p := ⟨w.heap.size + 1, 0, none⟩) (by simp) (.int .i64 nom)).other (p := ⟨w.heap.size + 1, 1, none⟩) (by simp) (.int .i64 nom)).other (p := ⟨w.heap.size + 1, 2, none⟩) (by simp) (.int .i64 (nom + downS 100 ((hi - lo) / 2)))).after hb6)
  have HW6 := Lib.hid ((((HW5.out.other (p := ⟨w.heap.size + 1, 0, none⟩) (by simp) (.int .i64 nom)).other (p := ⟨w.heap.size + 1, 1, none⟩) (by simp) (.int .i64 nom)).other (p := ⟨w.heap.size + 1, 2, none⟩) (by simp) (.int .i64 (nom + downS 100 ((hi - lo) / 2)))).after hb6)
  clear a0 a1 a2 f0 f1 f2 d0 d1 d2 g0 g1 g2
  obtain ⟨a0, a1, a2, f0, f1, f2⟩ := HH6.out.c3
  obtain ⟨d0, d1, d2, g0, g1, g2⟩ := HS6.out.c3
  have zH := HH6.out.lt
  have zS := HS6.out.lt
  go_wp2_with fail
  have FH := ((((((HH6.out.store 0 (.int .i64 0)).store 1 (.int .i64 0)).store 2 (.int .i64 0)).other (p := ⟨w.heap.size + 1 + 1, 0, none⟩) (by simp) (.int .i64 0)).other (p := ⟨w.heap.size + 1 + 1, 1, none⟩) (by simp) (.int .i64 0)).other (p := ⟨w.heap.size + 1 + 1, 2, none⟩) (by simp) (.int .i64 0))
  have FS := ((((((HS6.out.other (p := ⟨w.heap.size + 1, 0, none⟩) (by simp) (.int .i64 0)).other (p := ⟨w.heap.size + 1, 1, none⟩) (by simp) (.int .i64 0)).other (p := ⟨w.heap.size + 1, 2, none⟩) (by simp) (.int .i64 0)).store 0 (.int .i64 0)).store 1 (.int .i64 0)).store 2 (.int .i64 0))
  refine bodyPost_ret (v := .tuple #[.agg #[.int .i64 0, .int .i64 0, .int .i64 0], .agg #[.int .i64 0, .int .i64 0, .int .i64 0], .int .i64 6]) (results_cct Tryd.results27 _ _ (w.heap.size + 1) (w.heap.size + 1 + 1) _ _ _ _ _ _ rfl rfl FH FS Tryd.underlying28 rfl (by kernel_rfl) Tryd.underlying28 rfl (by kernel_rfl)) rfl ⟨rfl, ?_⟩
  (repeat' (first | (with_reducible exact Below.refl _ _) | (with_reducible assumption) | (with_reducible refine Below.alloc ?_ ?_ _) | (with_reducible refine Below.setCell ?_ ?_ _) | (with_reducible refine below_row ?_ ?_ _) | (with_reducible refine Below.drew ?_) | (with_reducible refine below_drewN ?_ _) | (with_reducible refine Below.trans ?_ (Below.mono (by assumption) ?_)) | (first | exact Nat.le_refl _ | omega | (simp; done) | (simp; omega))))

set_option maxHeartbeats 400000 in
theorem Share_hole2 (nom lo hi : Int) (w : World) (n0 : 0 ≤ nom) (n1 : nom ≤ 1000000000) (h2 : wantS lo hi = true) (hs : downS 254 nom = nom) (hh : okD nom nom (nom + downS 254 ((hi - lo) / 2)) = false) :
    Calls Tryd.prog 27 #[.int .i64 nom, .agg #[.int .i64 lo, .int .i64 hi], .int .u8 2] w (Gives2 (noTwo 6) w) := by
  have H1 := Lib.hid (show allIn 0 1000000000 [nom] = true by rw [in1]; simp; omega)
  have H2 := Lib.hid h2
  have hs1 : (downS 254 nom != nom) = false := by simpa using hs
  have HC := Lib.hid hh
  have hw3 : -1000000000 ≤ lo ∧ lo ≤ hi ∧ hi ≤ 1000000000 := by simpa [wantS] using h2
  obtain ⟨v0, v1, v2⟩ := hw3
  have hdb := downS_bd (st := 254) (n := (hi - lo) / 2) (by omega) (by omega)
  obtain ⟨y0, y1, -⟩ := hdb
  clear h2 hs hh
  go_enter Tryd.func27, Tryd.ntmps27
  go_wp2_with fail
  refine (within_1 _ _ nom _ _ _ ((Lies.new (by simp)).cell 0)).mono ?_
  rw [H1.out]
  rintro e w1 ⟨rfl, hb1⟩
  have s1 := hb1.size; try simp only [World.size_alloc, World.size_setCell, World.size_drew, setRow_size] at s1
  have LW := ((((Lies.new (u := w) (t := 31) (cs := #[.int .i64 lo, .int .i64 hi]) rfl).alloc _).alloc _).alloc _).after hb1
  have LH := (((Lies.new (u := w.alloc (.cells #[.int .i64 lo, .int .i64 hi] 31)) (t := 28) (cs := #[.int .i64 0, .int .i64 0, .int .i64 0]) rfl).alloc _).alloc _).after hb1
  have LS := ((Lies.new (t := 28) (cs := #[.int .i64 0, .int .i64 0, .int .i64 0]) rfl).alloc _).after hb1
  simp only [World.size_alloc] at LH LS
  have HW := Lib.hid LW
  have HH := Lib.hid LH
  have HS := Lib.hid LS
  clear LW LH LS
  obtain ⟨c0, c1, -, -⟩ := HW.out.c2
  have zW := HW.out.lt
  go_wp2_with fail
  refine (want_any lo hi _).mono ?_
  rw [H2.out]
  rintro e w2 ⟨rfl, hb2⟩
  have s2 := hb2.size; try simp only [World.size_alloc, World.size_setCell, World.size_drew, setRow_size] at s2
  have HW2 := Lib.hid (HW.out.after hb2)
  have HH2 := Lib.hid (HH.out.after hb2)
  have HS2 := Lib.hid (HS.out.after hb2)
  clear c0 c1 zW
  go_wp2_with fail
  refine (scaleOf_2 _).mono ?_
  rintro e w3 ⟨b1, b2, rfl, ho, hb3⟩
  have s3 := hb3.size; try simp only [World.size_alloc, World.size_setCell, World.size_drew, setRow_size] at s3
  have HO := Lib.hid ho
  clear ho
  go_wp2_with fail
  refine (down_any nom 254 b1 _ (HO.out.alloc _).c1 n0 (by omega) (by omega)).mono ?_
  rintro e w4 ⟨rfl, k, hk⟩
  have hb4 := quiet_below hk
  clear hk
  have s4 := hb4.size; try simp only [World.size_alloc, World.size_setCell, World.size_drew, setRow_size] at s4
  have HO4 := Lib.hid ((HO.out.alloc _).after hb4)
  have HW4 := Lib.hid (((HW2.out.after hb3).alloc _).after hb4)
  have HH4 := Lib.hid (((HH2.out.after hb3).alloc _).after hb4)
  have HS4 := Lib.hid (((HS2.out.after hb3).alloc _).after hb4)
  have LSC := (Lies.new (t := 77) (cs := #[.int .u8 2, .int .i64 254, .int .i64 4, .string (⟨#[105, 110]⟩), .func (.func 74) #[] #[.pointer (some ⟨b1, 0, none⟩)], .func (.func 75) #[] #[.pointer (some ⟨b1, 0, none⟩)], .func (.func 76) #[] #[.pointer (some ⟨b2, 0, none⟩), .pointer (some ⟨b1, 0, none⟩)]]) rfl).after hb4
  have q5 := LSC.cell 5
  have zC := LSC.lt
  clear LSC
  obtain ⟨c0, c1, -, -⟩ := HW4.out.c2
  have zW := HW4.out.lt
  go_wp2_with fail
  refine (down_any ((hi - lo) / 2) 254 b1 _ HO4.out.c1 (by omega) (by omega) (by omega)).mono ?_
  rintro e w5 ⟨rfl, k2, hk⟩
  have hb5 := quiet_below hk
  clear hk
  have s5 := hb5.size; try simp only [World.size_alloc, World.size_setCell, World.size_drew, setRow_size] at s5
  have HW5 := Lib.hid (HW4.out.after hb5)
  have HH5 := Lib.hid (HH4.out.after hb5)
  have HS5 := Lib.hid (HS4.out.after hb5)
  clear c0 c1
  obtain ⟨a0, a1, a2, f0, f1, f2⟩ := HH5.out.c3
  obtain ⟨d0, d1, d2, g0, g1, g2⟩ := HS5.out.c3
  have zH := HH5.out.lt
  have zS := HS5.out.lt
  go_wp2_with fail
  refine (Check_no nom nom (nom + downS 254 ((hi - lo) / 2)) _ HC.out).mono ?_
  rintro e w6 ⟨rfl, hb6⟩
  have s6 := hb6.size; try simp only [World.size_alloc, World.size_setCell, World.size_drew, setRow_size] at s6
  have HH6 := Lib.hid ((((HH5.out.store 0 (.int .i64 nom)).store 1 (.int .i64 nom)).store 2 (.int .i64 (nom + downS 254 ((hi - lo) / 2)))).after hb6)
  have HS6 := Lib.hid ((((HS5.out.other (p := ⟨w.heap.size + 1, 0, none⟩) (by simp) (.int .i64 nom)).other (p := ⟨w.heap.size + 1, 1, none⟩) (by simp) (.int .i64 nom)).other (p := ⟨w.heap.size + 1, 2, none⟩) (by simp) (.int .i64 (nom + downS 254 ((hi - lo) / 2)))).after hb6)
  have HW6 := Lib.hid ((((HW5.out.other (p := ⟨w.heap.size + 1, 0, none⟩) (by simp) (.int .i64 nom)).other (p := ⟨w.heap.size + 1, 1, none⟩) (by simp) (.int .i64 nom)).other (p := ⟨w.heap.size + 1, 2, none⟩) (by simp) (.int .i64 (nom + downS 254 ((hi - lo) / 2)))).after hb6)
  clear a0 a1 a2 f0 f1 f2 d0 d1 d2 g0 g1 g2
  obtain ⟨a0, a1, a2, f0, f1, f2⟩ := HH6.out.c3
  obtain ⟨d0, d1, d2, g0, g1, g2⟩ := HS6.out.c3
  have zH := HH6.out.lt
  have zS := HS6.out.lt
  go_wp2_with fail
  have FH := ((((((HH6.out.store 0 (.int .i64 0)).store 1 (.int .i64 0)).store 2 (.int .i64 0)).other (p := ⟨w.heap.size + 1 + 1, 0, none⟩) (by simp) (.int .i64 0)).other (p := ⟨w.heap.size + 1 + 1, 1, none⟩) (by simp) (.int .i64 0)).other (p := ⟨w.heap.size + 1 + 1, 2, none⟩) (by simp) (.int .i64 0))
  have FS := ((((((HS6.out.other (p := ⟨w.heap.size + 1, 0, none⟩) (by simp) (.int .i64 0)).other (p := ⟨w.heap.size + 1, 1, none⟩) (by simp) (.int .i64 0)).other (p := ⟨w.heap.size + 1, 2, none⟩) (by simp) (.int .i64 0)).store 0 (.int .i64 0)).store 1 (.int .i64 0)).store 2 (.int .i64 0))
  refine bodyPost_ret (v := .tuple #[.agg #[.int .i64 0, .int .i64 0, .int .i64 0], .agg #[.int .i64 0, .int .i64 0, .int .i64 0], .int .i64 6]) (results_cct Tryd.results27 _ _ (w.heap.size + 1) (w.heap.size + 1 + 1) _ _ _ _ _ _ rfl rfl FH FS Tryd.underlying28 rfl (by kernel_rfl) Tryd.underlying28 rfl (by kernel_rfl)) rfl ⟨rfl, ?_⟩
  (repeat' (first | (with_reducible exact Below.refl _ _) | (with_reducible assumption) | (with_reducible refine Below.alloc ?_ ?_ _) | (with_reducible refine Below.setCell ?_ ?_ _) | (with_reducible refine below_row ?_ ?_ _) | (with_reducible refine Below.drew ?_) | (with_reducible refine below_drewN ?_ _) | (with_reducible refine Below.trans ?_ (Below.mono (by assumption) ?_)) | (first | exact Nat.le_refl _ | omega | (simp; done) | (simp; omega))))
end Go.Proofs.YtldjkdomklgmaaaDoor
