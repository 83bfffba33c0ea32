/- The reference: Share, the hole, the room, and what is shared. -/
import Derived.Test.YtldjkdomklgmaaaS3
import Derived.Test.YtldjkdomklgmaaaR6
import Derived.Test.YtldjkdomklgmaaaR1
import Derived.Deep.RegionHeld3
import Derived.Deep.DeepCutAuto
import Derived.Deep.CutRange
namespace Go.Proofs.Ytldjkdomklgmaaa
set_option linter.unusedVariables false
set_option linter.unusedSimpArgs false
open Go.RowKit

theorem mid_alloc (w0 w : World) (hb : Below w0.heap.size w0 w) (cs : Array Value) (t : TypeId) : ∃ W, w.alloc (.cells cs t) = W ∧ Below w0.heap.size w0 W ∧ (∀ g t' cs', Lies w g t' cs' → Lies W g t' cs') ∧ Lies W w.heap.size t cs ∧ W.heap.size = w.heap.size + 1 :=
  ⟨_, rfl, hb.alloc hb.size _, fun _ _ _ h => h.alloc _, Lies.made _ _ _, by simp⟩

set_option maxHeartbeats 4000000 in
theorem rShare_hole1 (nom lo hi : Int) (w : World) (n0 : 0 ≤ nom) (n1 : nom ≤ 1000000000) (hw : wantS lo hi = true) (hm : nom % 100 = 0) (hh : okD nom nom (nom + downS 100 ((hi - lo) / 2)) = false) :
    Calls Try.prog 18 #[.int .i64 nom, .agg #[.int .i64 lo, .int .i64 hi], .int .u8 1] w (Gives2 (noTwo 6) w) := by
  have HS := Lib.hid (fun W => rStep_any 1 W)
  have HN := Lib.hid (fun W => rwithin_any nom 0 1000000000 W)
  have HW := Lib.hid (fun W => rWanted_any lo hi W)
  rw [show stepR 1 = 100 from rfl] at HS
  rw [decide_eq_true (show 0 ≤ nom ∧ nom ≤ 1000000000 from ⟨n0, n1⟩)] at HN
  obtain ⟨g1, g2, g3⟩ : -1000000000 ≤ lo ∧ lo ≤ hi ∧ hi ≤ 1000000000 := by simpa [wantS] using hw
  rw [hw] at HW
  have hb : ((nom % 100) != 0) = false := by rw [hm]; rfl
  obtain ⟨p0, p1, -⟩ := downS_bd (st := 100) (n := (hi - lo) / 2) (by omega) (by omega)
  have hp : (hi - lo) / 2 / 100 * 100 = downS 100 ((hi - lo) / 2) := rfl
  generalize downS 100 ((hi - lo) / 2) = p at *
  have p2 : p ≤ 1000000000 := by omega
  clear hm hw
  have hgt : 1000000000 < nom + p := by
    have := okD_no.1 hh
    omega
  clear hh
  go_enter Try.func18, Try.ntmps18
  go_wp2_with fail
  refine (HS.out _).mono ?_
  rintro e w1 ⟨rfl, k1, rfl⟩
  go_wp2_with fail
  refine (HN.out _).mono ?_
  rintro e w1 ⟨rfl, k2, rfl⟩
  go_wp2_with fail
  refine (HW.out _).mono ?_
  rintro e w1 ⟨rfl, hb1⟩
  have s1 : w.heap.size + 1 + 1 + 1 ≤ w1.heap.size := by
    have t : (((w.alloc (.cells #[.int .i64 lo, .int .i64 hi] 38)).alloc (.cells #[.int .i64 0, .int .i64 0, .int .i64 0] 23)).alloc (.cells #[.int .i64 0, .int .i64 0, .int .i64 0] 23)).heap.size ≤ w1.heap.size := hb1.size
    simpa using t
  have HH0 : Lies w1 (w.heap.size + 1) 23 #[.int .i64 0, .int .i64 0, .int .i64 0] := Lies.after (Lies.drewN ((Lies.new (u := w.alloc (.cells #[.int .i64 lo, .int .i64 hi] 38)) (by simp)).alloc (.cells #[.int .i64 0, .int .i64 0, .int .i64 0] 23)) _) hb1
  have HZ0 : Lies w1 (w.heap.size + 1 + 1) 23 #[.int .i64 0, .int .i64 0, .int .i64 0] := Lies.after (Lies.drewN (Lies.new (by simp)) _) hb1
  have HP0 : Lies w1 w.heap.size 38 #[.int .i64 lo, .int .i64 hi] := Lies.after (Lies.drewN (((Lies.made w 38 #[.int .i64 lo, .int .i64 hi]).alloc _).alloc _) _) hb1
  have HH := Lib.hid HH0
  have HZ := Lib.hid HZ0
  have HP := Lib.hid HP0
  have hbw : Below w.heap.size w w1 := by
    have hq : Below w.heap.size w (((w.alloc (.cells #[.int .i64 lo, .int .i64 hi] 38)).alloc (.cells #[.int .i64 0, .int .i64 0, .int .i64 0] 23)).alloc (.cells #[.int .i64 0, .int .i64 0, .int .i64 0] 23)) := by (repeat' (first | (with_reducible exact Below.refl _ _) | (with_reducible assumption) | (with_reducible refine Below.alloc ?_ ?_ _) | (with_reducible refine Below.setCell ?_ ?_ _) | (with_reducible refine below_row ?_ ?_ _) | (with_reducible refine Below.drew ?_) | (with_reducible refine below_drewN ?_ _) | (with_reducible refine Below.trans ?_ (Below.mono (by assumption) ?_)) | (first | exact Nat.le_refl _ | omega | (simp; done) | (simp; omega))))
    exact hq.trans (Below.trans (below_drewN (Below.refl _ _) _) (hb1.mono (show w.heap.size ≤ (((w.alloc (.cells #[.int .i64 lo, .int .i64 hi] 38)).alloc (.cells #[.int .i64 0, .int .i64 0, .int .i64 0] 23)).alloc (.cells #[.int .i64 0, .int .i64 0, .int .i64 0] 23)).heap.size by simp; omega)))
  clear hb1 HH0 HZ0 HP0
  obtain ⟨c0, c1, -, -⟩ := HP.out.c2
  have zP := HP.out.lt
  have HHw1 := HH
  have HZw1 := HZ
  have Bw1 := hbw
  go_upto_region 10 with fail
  obtain ⟨v, hv, hbv, hkeep, HNEW, hsz⟩ := mid_alloc w w1 Bw1 #[.int .i64 nom, .int .i64 nom, .int .i64 (nom + p)] 23
  rw [hv]
  have HHv := Lib.hid (hkeep _ _ _ HHw1.out)
  have HZv := Lib.hid (hkeep _ _ _ HZw1.out)
  have h0 := HNEW.cell 0
  have h1 := HNEW.cell 1
  have h2 := HNEW.cell 2
  have hz := HNEW.lt
  clear hv hkeep HNEW
  obtain ⟨a0, a1, a2, f0, f1, f2⟩ := HHv.out.c3
  obtain ⟨d0, d1, d2, y0, y1, y2⟩ := HZv.out.c3
  go_wp2_with fail
  have FH := ((((((HHv.out.store 0 (.int .i64 0)).store 1 (.int .i64 0)).store 2 (.int .i64 0)).other (p := ⟨w.heap.size + 1 + 1, 0, none⟩) (by simp) (.int .i64 0)).other (p := ⟨w.heap.size + 1 + 1, 1, none⟩) (by simp) (.int .i64 0)).other (p := ⟨w.heap.size + 1 + 1, 2, none⟩) (by simp) (.int .i64 0))
  have FS := ((((((HZv.out.other (p := ⟨w.heap.size + 1, 0, none⟩) (by simp) (.int .i64 0)).other (p := ⟨w.heap.size + 1, 1, none⟩) (by simp) (.int .i64 0)).other (p := ⟨w.heap.size + 1, 2, none⟩) (by simp) (.int .i64 0)).store 0 (.int .i64 0)).store 1 (.int .i64 0)).store 2 (.int .i64 0))
  refine bodyPost_ret (v := .tuple #[.agg #[.int .i64 0, .int .i64 0, .int .i64 0], .agg #[.int .i64 0, .int .i64 0, .int .i64 0], .int .i64 6]) (results_cct Try.results18 _ _ (w.heap.size + 1) (w.heap.size + 1 + 1) _ _ _ _ _ _ rfl rfl FH FS Try.underlying23 rfl (by kernel_rfl) Try.underlying23 rfl (by kernel_rfl)) rfl ⟨rfl, ?_⟩
  (repeat' (first | (with_reducible exact Below.refl _ _) | (with_reducible assumption) | (with_reducible refine Below.alloc ?_ ?_ _) | (with_reducible refine Below.setCell ?_ ?_ _) | (with_reducible refine below_row ?_ ?_ _) | (with_reducible refine Below.drew ?_) | (with_reducible refine below_drewN ?_ _) | (with_reducible refine Below.trans ?_ (Below.mono (by assumption) ?_)) | (first | exact Nat.le_refl _ | omega | (simp; done) | (simp; omega))))
set_option maxHeartbeats 4000000 in
theorem rShare_none1 (nom lo hi : Int) (w : World) (n0 : 0 ≤ nom) (n1 : nom ≤ 1000000000) (hw : wantS lo hi = true) (hm : nom % 100 = 0) (hh : okD nom nom (nom + downS 100 ((hi - lo) / 2)) = true) (hr : roomHi nom lo < roomLo (nom + downS 100 ((hi - lo) / 2)) hi) :
    Calls Try.prog 18 #[.int .i64 nom, .agg #[.int .i64 lo, .int .i64 hi], .int .u8 1] w (Gives2 (noTwo 6) w) := by
  have hwc := hw
  have HS := Lib.hid (fun W => rStep_any 1 W)
  have HN := Lib.hid (fun W => rwithin_any nom 0 1000000000 W)
  have HW := Lib.hid (fun W => rWanted_any lo hi W)
  rw [show stepR 1 = 100 from rfl] at HS
  rw [decide_eq_true (show 0 ≤ nom ∧ nom ≤ 1000000000 from ⟨n0, n1⟩)] at HN
  obtain ⟨g1, g2, g3⟩ : -1000000000 ≤ lo ∧ lo ≤ hi ∧ hi ≤ 1000000000 := by simpa [wantS] using hw
  rw [hw] at HW
  have hb : ((nom % 100) != 0) = false := by rw [hm]; rfl
  obtain ⟨p0, p1, -⟩ := downS_bd (st := 100) (n := (hi - lo) / 2) (by omega) (by omega)
  have hp : (hi - lo) / 2 / 100 * 100 = downS 100 ((hi - lo) / 2) := rfl
  generalize downS 100 ((hi - lo) / 2) = p at *
  have p2 : p ≤ 1000000000 := by omega
  clear hm hw
  have hle : ¬ 1000000000 < nom + p := by
    have := okD_iff.1 hh
    omega
  have hle' : nom + p ≤ 1000000000 := by omega
  have HRm := Lib.hid (fun W => rroom_any nom nom (nom + p) lo hi W hh hwc)
  rw [decide_eq_false (show ¬ roomLo (nom + p) hi ≤ roomHi nom lo by omega)] at HRm
  generalize roomLo (nom + p) hi = rl at *
  generalize roomHi nom lo = rh at *
  clear hh hr hwc
  go_enter Try.func18, Try.ntmps18
  go_wp2_with fail
  refine (HS.out _).mono ?_
  rintro e w1 ⟨rfl, k1, rfl⟩
  go_wp2_with fail
  refine (HN.out _).mono ?_
  rintro e w1 ⟨rfl, k2, rfl⟩
  go_wp2_with fail
  refine (HW.out _).mono ?_
  rintro e w1 ⟨rfl, hb1⟩
  have s1 : w.heap.size + 1 + 1 + 1 ≤ w1.heap.size := by
    have t : (((w.alloc (.cells #[.int .i64 lo, .int .i64 hi] 38)).alloc (.cells #[.int .i64 0, .int .i64 0, .int .i64 0] 23)).alloc (.cells #[.int .i64 0, .int .i64 0, .int .i64 0] 23)).heap.size ≤ w1.heap.size := hb1.size
    simpa using t
  have HH0 : Lies w1 (w.heap.size + 1) 23 #[.int .i64 0, .int .i64 0, .int .i64 0] := Lies.after (Lies.drewN ((Lies.new (u := w.alloc (.cells #[.int .i64 lo, .int .i64 hi] 38)) (by simp)).alloc (.cells #[.int .i64 0, .int .i64 0, .int .i64 0] 23)) _) hb1
  have HZ0 : Lies w1 (w.heap.size + 1 + 1) 23 #[.int .i64 0, .int .i64 0, .int .i64 0] := Lies.after (Lies.drewN (Lies.new (by simp)) _) hb1
  have HP0 : Lies w1 w.heap.size 38 #[.int .i64 lo, .int .i64 hi] := Lies.after (Lies.drewN (((Lies.made w 38 #[.int .i64 lo, .int .i64 hi]).alloc _).alloc _) _) hb1
  have HH := Lib.hid HH0
  have HZ := Lib.hid HZ0
  have HP := Lib.hid HP0
  have hbw : Below w.heap.size w w1 := by
    have hq : Below w.heap.size w (((w.alloc (.cells #[.int .i64 lo, .int .i64 hi] 38)).alloc (.cells #[.int .i64 0, .int .i64 0, .int .i64 0] 23)).alloc (.cells #[.int .i64 0, .int .i64 0, .int .i64 0] 23)) := by (repeat' (first | (with_reducible exact Below.refl _ _) | (with_reducible assumption) | (with_reducible refine Below.alloc ?_ ?_ _) | (with_reducible refine Below.setCell ?_ ?_ _) | (with_reducible refine below_row ?_ ?_ _) | (with_reducible refine Below.drew ?_) | (with_reducible refine below_drewN ?_ _) | (with_reducible refine Below.trans ?_ (Below.mono (by assumption) ?_)) | (first | exact Nat.le_refl _ | omega | (simp; done) | (simp; omega))))
    exact hq.trans (Below.trans (below_drewN (Below.refl _ _) _) (hb1.mono (show w.heap.size ≤ (((w.alloc (.cells #[.int .i64 lo, .int .i64 hi] 38)).alloc (.cells #[.int .i64 0, .int .i64 0, .int .i64 0] 23)).alloc (.cells #[.int .i64 0, .int .i64 0, .int .i64 0] 23)).heap.size by simp; omega)))
  clear hb1 HH0 HZ0 HP0
  obtain ⟨c0, c1, -, -⟩ := HP.out.c2
  have zP := HP.out.lt
  have HHw1 := HH
  have HZw1 := HZ
  have Bw1 := hbw
  go_wp2_with fail
  refine (HRm.out _).mono ?_
  rintro e w2 ⟨rfl, hb2⟩
  have s2 := hb2.size; try simp only [World.size_alloc, World.size_setCell, World.size_drew, setRow_size] at s2
  have HHw2 := Lib.hid ((HHw1.out.alloc (.cells #[.int .i64 nom, .int .i64 nom, .int .i64 (nom + p)] 23)).after hb2)
  have HZw2 := Lib.hid ((HZw1.out.alloc (.cells #[.int .i64 nom, .int .i64 nom, .int .i64 (nom + p)] 23)).after hb2)
  have HBw2 := Lib.hid ((Lies.made w1 23 #[.int .i64 nom, .int .i64 nom, .int .i64 (nom + p)]).after hb2)
  have Bw2 : Below w.heap.size w w2 := Bw1.trans (Below.trans ((Below.refl w1.heap.size w1).alloc (Nat.le_refl _) _ |>.mono Bw1.size) (hb2.mono (by have := Bw1.size; simp; omega)))
  go_upto_region 13 with fail
  obtain ⟨v, hv, hbv, hkeep, HNEW, hsz⟩ := mid_alloc w w2 Bw2 #[.int .i64 nom, .int .i64 rl, .int .i64 rh] 23
  rw [hv]
  have HHv := Lib.hid (hkeep _ _ _ HHw2.out)
  have HZv := Lib.hid (hkeep _ _ _ HZw2.out)
  clear hv hkeep HNEW
  obtain ⟨a0, a1, a2, f0, f1, f2⟩ := HHv.out.c3
  obtain ⟨d0, d1, d2, y0, y1, y2⟩ := HZv.out.c3
  go_wp2_with fail
  have FH := ((((((HHv.out.store 0 (.int .i64 0)).store 1 (.int .i64 0)).store 2 (.int .i64 0)).other (p := ⟨w.heap.size + 1 + 1, 0, none⟩) (by simp) (.int .i64 0)).other (p := ⟨w.heap.size + 1 + 1, 1, none⟩) (by simp) (.int .i64 0)).other (p := ⟨w.heap.size + 1 + 1, 2, none⟩) (by simp) (.int .i64 0))
  have FS := ((((((HZv.out.other (p := ⟨w.heap.size + 1, 0, none⟩) (by simp) (.int .i64 0)).other (p := ⟨w.heap.size + 1, 1, none⟩) (by simp) (.int .i64 0)).other (p := ⟨w.heap.size + 1, 2, none⟩) (by simp) (.int .i64 0)).store 0 (.int .i64 0)).store 1 (.int .i64 0)).store 2 (.int .i64 0))
  refine bodyPost_ret (v := .tuple #[.agg #[.int .i64 0, .int .i64 0, .int .i64 0], .agg #[.int .i64 0, .int .i64 0, .int .i64 0], .int .i64 6]) (results_cct Try.results18 _ _ (w.heap.size + 1) (w.heap.size + 1 + 1) _ _ _ _ _ _ rfl rfl FH FS Try.underlying23 rfl (by kernel_rfl) Try.underlying23 rfl (by kernel_rfl)) rfl ⟨rfl, ?_⟩
  (repeat' (first | (with_reducible exact Below.refl _ _) | (with_reducible assumption) | (with_reducible refine Below.alloc ?_ ?_ _) | (with_reducible refine Below.setCell ?_ ?_ _) | (with_reducible refine below_row ?_ ?_ _) | (with_reducible refine Below.drew ?_) | (with_reducible refine below_drewN ?_ _) | (with_reducible refine Below.trans ?_ (Below.mono (by assumption) ?_)) | (first | exact Nat.le_refl _ | omega | (simp; done) | (simp; omega))))
set_option maxHeartbeats 4000000 in
theorem rShare_poor1 (nom lo hi : Int) (w : World) (n0 : 0 ≤ nom) (n1 : nom ≤ 1000000000) (hw : wantS lo hi = true) (hm : nom % 100 = 0) (hh : okD nom nom (nom + downS 100 ((hi - lo) / 2)) = true) (hr : ¬ roomHi nom lo < roomLo (nom + downS 100 ((hi - lo) / 2)) hi) (hx5 : downS 100 (roomHi nom lo) < upS 100 (roomLo (nom + downS 100 ((hi - lo) / 2)) hi)) :
    Calls Try.prog 18 #[.int .i64 nom, .agg #[.int .i64 lo, .int .i64 hi], .int .u8 1] w (Gives2 (noTwo 6) w) := by
  have hwc := hw
  have HS := Lib.hid (fun W => rStep_any 1 W)
  have HN := Lib.hid (fun W => rwithin_any nom 0 1000000000 W)
  have HW := Lib.hid (fun W => rWanted_any lo hi W)
  rw [show stepR 1 = 100 from rfl] at HS
  rw [decide_eq_true (show 0 ≤ nom ∧ nom ≤ 1000000000 from ⟨n0, n1⟩)] at HN
  obtain ⟨g1, g2, g3⟩ : -1000000000 ≤ lo ∧ lo ≤ hi ∧ hi ≤ 1000000000 := by simpa [wantS] using hw
  rw [hw] at HW
  have hb : ((nom % 100) != 0) = false := by rw [hm]; rfl
  obtain ⟨p0, p1, -⟩ := downS_bd (st := 100) (n := (hi - lo) / 2) (by omega) (by omega)
  have hp : (hi - lo) / 2 / 100 * 100 = downS 100 ((hi - lo) / 2) := rfl
  generalize downS 100 ((hi - lo) / 2) = p at *
  have p2 : p ≤ 1000000000 := by omega
  clear hm hw
  have hle : ¬ 1000000000 < nom + p := by
    have := okD_iff.1 hh
    omega
  have hle' : nom + p ≤ 1000000000 := by omega
  have HRm := Lib.hid (fun W => rroom_any nom nom (nom + p) lo hi W hh hwc)
  rw [decide_eq_true (show roomLo (nom + p) hi ≤ roomHi nom lo by omega)] at HRm
  have hx : 0 ≤ roomLo (nom + p) hi ∧ roomLo (nom + p) hi ≤ 1000000000 ∧ 0 ≤ roomHi nom lo ∧ roomHi nom lo ≤ 1000000000 := by
    unfold roomHi roomLo at hr ⊢
    split <;> split <;> omega
  generalize roomLo (nom + p) hi = rl at *
  generalize roomHi nom lo = rh at *
  obtain ⟨x1, x2, x3, x4⟩ := hx
  have HAg := Lib.hid (fun W => rAgain_any nom rl rh 100 W n0 n1 x1 x2 x3 x4 (by omega))
  unfold againR at HAg
  rw [decide_eq_false (show ¬ upS 100 rl ≤ downS 100 rh by omega)] at HAg
  generalize upS 100 rl = y at *
  generalize downS 100 rh = z at *
  generalize nearS 100 nom = x at *
  clear hh hr hwc hx5
  go_enter Try.func18, Try.ntmps18
  go_wp2_with fail
  refine (HS.out _).mono ?_
  rintro e w1 ⟨rfl, k1, rfl⟩
  go_wp2_with fail
  refine (HN.out _).mono ?_
  rintro e w1 ⟨rfl, k2, rfl⟩
  go_wp2_with fail
  refine (HW.out _).mono ?_
  rintro e w1 ⟨rfl, hb1⟩
  have s1 : w.heap.size + 1 + 1 + 1 ≤ w1.heap.size := by
    have t : (((w.alloc (.cells #[.int .i64 lo, .int .i64 hi] 38)).alloc (.cells #[.int .i64 0, .int .i64 0, .int .i64 0] 23)).alloc (.cells #[.int .i64 0, .int .i64 0, .int .i64 0] 23)).heap.size ≤ w1.heap.size := hb1.size
    simpa using t
  have HH0 : Lies w1 (w.heap.size + 1) 23 #[.int .i64 0, .int .i64 0, .int .i64 0] := Lies.after (Lies.drewN ((Lies.new (u := w.alloc (.cells #[.int .i64 lo, .int .i64 hi] 38)) (by simp)).alloc (.cells #[.int .i64 0, .int .i64 0, .int .i64 0] 23)) _) hb1
  have HZ0 : Lies w1 (w.heap.size + 1 + 1) 23 #[.int .i64 0, .int .i64 0, .int .i64 0] := Lies.after (Lies.drewN (Lies.new (by simp)) _) hb1
  have HP0 : Lies w1 w.heap.size 38 #[.int .i64 lo, .int .i64 hi] := Lies.after (Lies.drewN (((Lies.made w 38 #[.int .i64 lo, .int .i64 hi]).alloc _).alloc _) _) hb1
  have HH := Lib.hid HH0
  have HZ := Lib.hid HZ0
  have HP := Lib.hid HP0
  have hbw : Below w.heap.size w w1 := by
    have hq : Below w.heap.size w (((w.alloc (.cells #[.int .i64 lo, .int .i64 hi] 38)).alloc (.cells #[.int .i64 0, .int .i64 0, .int .i64 0] 23)).alloc (.cells #[.int .i64 0, .int .i64 0, .int .i64 0] 23)) := by (repeat' (first | (with_reducible exact Below.refl _ _) | (with_reducible assumption) | (with_reducible refine Below.alloc ?_ ?_ _) | (with_reducible refine Below.setCell ?_ ?_ _) | (with_reducible refine below_row ?_ ?_ _) | (with_reducible refine Below.drew ?_) | (with_reducible refine below_drewN ?_ _) | (with_reducible refine Below.trans ?_ (Below.mono (by assumption) ?_)) | (first | exact Nat.le_refl _ | omega | (simp; done) | (simp; omega))))
    exact hq.trans (Below.trans (below_drewN (Below.refl _ _) _) (hb1.mono (show w.heap.size ≤ (((w.alloc (.cells #[.int .i64 lo, .int .i64 hi] 38)).alloc (.cells #[.int .i64 0, .int .i64 0, .int .i64 0] 23)).alloc (.cells #[.int .i64 0, .int .i64 0, .int .i64 0] 23)).heap.size by simp; omega)))
  clear hb1 HH0 HZ0 HP0
  obtain ⟨c0, c1, -, -⟩ := HP.out.c2
  have zP := HP.out.lt
  have HHw1 := HH
  have HZw1 := HZ
  have Bw1 := hbw
  go_wp2_with fail
  refine (HRm.out _).mono ?_
  rintro e w2 ⟨rfl, hb2⟩
  have s2 := hb2.size; try simp only [World.size_alloc, World.size_setCell, World.size_drew, setRow_size] at s2
  have HHw2 := Lib.hid ((HHw1.out.alloc (.cells #[.int .i64 nom, .int .i64 nom, .int .i64 (nom + p)] 23)).after hb2)
  have HZw2 := Lib.hid ((HZw1.out.alloc (.cells #[.int .i64 nom, .int .i64 nom, .int .i64 (nom + p)] 23)).after hb2)
  have HBw2 := Lib.hid ((Lies.made w1 23 #[.int .i64 nom, .int .i64 nom, .int .i64 (nom + p)]).after hb2)
  have Bw2 : Below w.heap.size w w2 := Bw1.trans (Below.trans ((Below.refl w1.heap.size w1).alloc (Nat.le_refl _) _ |>.mono Bw1.size) (hb2.mono (by have := Bw1.size; simp; omega)))
  go_wp2_with fail
  refine (HAg.out _).mono ?_
  rintro e w3 ⟨rfl, hb3⟩
  have s3 := hb3.size; try simp only [World.size_alloc, World.size_setCell, World.size_drew, setRow_size] at s3
  have HHw3 := Lib.hid ((HHw2.out.alloc (.cells #[.int .i64 nom, .int .i64 rl, .int .i64 rh] 23)).after hb3)
  have HZw3 := Lib.hid ((HZw2.out.alloc (.cells #[.int .i64 nom, .int .i64 rl, .int .i64 rh] 23)).after hb3)
  have HBw3 := Lib.hid ((Lies.made w2 23 #[.int .i64 nom, .int .i64 rl, .int .i64 rh]).after hb3)
  have Bw3 : Below w.heap.size w w3 := Bw2.trans (Below.trans ((Below.refl w2.heap.size w2).alloc (Nat.le_refl _) _ |>.mono Bw2.size) (hb3.mono (by have := Bw2.size; simp; omega)))
  go_upto_region 16 with fail
  obtain ⟨v, hv, hbv, hkeep, HNEW, hsz⟩ := mid_alloc w w3 Bw3 #[.int .i64 x, .int .i64 y, .int .i64 z] 23
  rw [hv]
  have HHv := Lib.hid (hkeep _ _ _ HHw3.out)
  have HZv := Lib.hid (hkeep _ _ _ HZw3.out)
  clear hv hkeep HNEW
  obtain ⟨a0, a1, a2, f0, f1, f2⟩ := HHv.out.c3
  obtain ⟨d0, d1, d2, y0, y1, y2⟩ := HZv.out.c3
  go_wp2_with fail
  have FH := ((((((HHv.out.store 0 (.int .i64 0)).store 1 (.int .i64 0)).store 2 (.int .i64 0)).other (p := ⟨w.heap.size + 1 + 1, 0, none⟩) (by simp) (.int .i64 0)).other (p := ⟨w.heap.size + 1 + 1, 1, none⟩) (by simp) (.int .i64 0)).other (p := ⟨w.heap.size + 1 + 1, 2, none⟩) (by simp) (.int .i64 0))
  have FS := ((((((HZv.out.other (p := ⟨w.heap.size + 1, 0, none⟩) (by simp) (.int .i64 0)).other (p := ⟨w.heap.size + 1, 1, none⟩) (by simp) (.int .i64 0)).other (p := ⟨w.heap.size + 1, 2, none⟩) (by simp) (.int .i64 0)).store 0 (.int .i64 0)).store 1 (.int .i64 0)).store 2 (.int .i64 0))
  refine bodyPost_ret (v := .tuple #[.agg #[.int .i64 0, .int .i64 0, .int .i64 0], .agg #[.int .i64 0, .int .i64 0, .int .i64 0], .int .i64 6]) (results_cct Try.results18 _ _ (w.heap.size + 1) (w.heap.size + 1 + 1) _ _ _ _ _ _ rfl rfl FH FS Try.underlying23 rfl (by kernel_rfl) Try.underlying23 rfl (by kernel_rfl)) rfl ⟨rfl, ?_⟩
  (repeat' (first | (with_reducible exact Below.refl _ _) | (with_reducible assumption) | (with_reducible refine Below.alloc ?_ ?_ _) | (with_reducible refine Below.setCell ?_ ?_ _) | (with_reducible refine below_row ?_ ?_ _) | (with_reducible refine Below.drew ?_) | (with_reducible refine below_drewN ?_ _) | (with_reducible refine Below.trans ?_ (Below.mono (by assumption) ?_)) | (first | exact Nat.le_refl _ | omega | (simp; done) | (simp; omega))))
set_option maxHeartbeats 4000000 in
theorem rShare_good1 (nom lo hi : Int) (w : World) (n0 : 0 ≤ nom) (n1 : nom ≤ 1000000000) (hw : wantS lo hi = true) (hm : nom % 100 = 0) (hh : okD nom nom (nom + downS 100 ((hi - lo) / 2)) = true) (hr : ¬ roomHi nom lo < roomLo (nom + downS 100 ((hi - lo) / 2)) hi) (hx5 : upS 100 (roomLo (nom + downS 100 ((hi - lo) / 2)) hi) ≤ downS 100 (roomHi nom lo)) :
    Calls Try.prog 18 #[.int .i64 nom, .agg #[.int .i64 lo, .int .i64 hi], .int .u8 1] w (Gives2 ((nom, nom, (nom + downS 100 ((hi - lo) / 2))), (nearS 100 nom, upS 100 (roomLo (nom + downS 100 ((hi - lo) / 2)) hi), downS 100 (roomHi nom lo)), 0) w) := by
  have hwc := hw
  have HS := Lib.hid (fun W => rStep_any 1 W)
  have HN := Lib.hid (fun W => rwithin_any nom 0 1000000000 W)
  have HW := Lib.hid (fun W => rWanted_any lo hi W)
  rw [show stepR 1 = 100 from rfl] at HS
  rw [decide_eq_true (show 0 ≤ nom ∧ nom ≤ 1000000000 from ⟨n0, n1⟩)] at HN
  obtain ⟨g1, g2, g3⟩ : -1000000000 ≤ lo ∧ lo ≤ hi ∧ hi ≤ 1000000000 := by simpa [wantS] using hw
  rw [hw] at HW
  have hb : ((nom % 100) != 0) = false := by rw [hm]; rfl
  obtain ⟨p0, p1, -⟩ := downS_bd (st := 100) (n := (hi - lo) / 2) (by omega) (by omega)
  have hp : (hi - lo) / 2 / 100 * 100 = downS 100 ((hi - lo) / 2) := rfl
  generalize downS 100 ((hi - lo) / 2) = p at *
  have p2 : p ≤ 1000000000 := by omega
  clear hm hw
  have hle : ¬ 1000000000 < nom + p := by
    have := okD_iff.1 hh
    omega
  have hle' : nom + p ≤ 1000000000 := by omega
  have HRm := Lib.hid (fun W => rroom_any nom nom (nom + p) lo hi W hh hwc)
  rw [decide_eq_true (show roomLo (nom + p) hi ≤ roomHi nom lo by omega)] at HRm
  have hx : 0 ≤ roomLo (nom + p) hi ∧ roomLo (nom + p) hi ≤ 1000000000 ∧ 0 ≤ roomHi nom lo ∧ roomHi nom lo ≤ 1000000000 := by
    unfold roomHi roomLo at hr ⊢
    split <;> split <;> omega
  generalize roomLo (nom + p) hi = rl at *
  generalize roomHi nom lo = rh at *
  obtain ⟨x1, x2, x3, x4⟩ := hx
  have HAg := Lib.hid (fun W => rAgain_any nom rl rh 100 W n0 n1 x1 x2 x3 x4 (by omega))
  unfold againR at HAg
  rw [decide_eq_true hx5] at HAg
  generalize upS 100 rl = y at *
  generalize downS 100 rh = z at *
  generalize nearS 100 nom = x at *
  clear hh hr hwc hx5
  go_enter Try.func18, Try.ntmps18
  go_wp2_with fail
  refine (HS.out _).mono ?_
  rintro e w1 ⟨rfl, k1, rfl⟩
  go_wp2_with fail
  refine (HN.out _).mono ?_
  rintro e w1 ⟨rfl, k2, rfl⟩
  go_wp2_with fail
  refine (HW.out _).mono ?_
  rintro e w1 ⟨rfl, hb1⟩
  have s1 : w.heap.size + 1 + 1 + 1 ≤ w1.heap.size := by
    have t : (((w.alloc (.cells #[.int .i64 lo, .int .i64 hi] 38)).alloc (.cells #[.int .i64 0, .int .i64 0, .int .i64 0] 23)).alloc (.cells #[.int .i64 0, .int .i64 0, .int .i64 0] 23)).heap.size ≤ w1.heap.size := hb1.size
    simpa using t
  have HH0 : Lies w1 (w.heap.size + 1) 23 #[.int .i64 0, .int .i64 0, .int .i64 0] := Lies.after (Lies.drewN ((Lies.new (u := w.alloc (.cells #[.int .i64 lo, .int .i64 hi] 38)) (by simp)).alloc (.cells #[.int .i64 0, .int .i64 0, .int .i64 0] 23)) _) hb1
  have HZ0 : Lies w1 (w.heap.size + 1 + 1) 23 #[.int .i64 0, .int .i64 0, .int .i64 0] := Lies.after (Lies.drewN (Lies.new (by simp)) _) hb1
  have HP0 : Lies w1 w.heap.size 38 #[.int .i64 lo, .int .i64 hi] := Lies.after (Lies.drewN (((Lies.made w 38 #[.int .i64 lo, .int .i64 hi]).alloc _).alloc _) _) hb1
  have HH := Lib.hid HH0
  have HZ := Lib.hid HZ0
  have HP := Lib.hid HP0
  have hbw : Below w.heap.size w w1 := by
    have hq : Below w.heap.size w (((w.alloc (.cells #[.int .i64 lo, .int .i64 hi] 38)).alloc (.cells #[.int .i64 0, .int .i64 0, .int .i64 0] 23)).alloc (.cells #[.int .i64 0, .int .i64 0, .int .i64 0] 23)) := by (repeat' (first | (with_reducible exact Below.refl _ _) | (with_reducible assumption) | (with_reducible refine Below.alloc ?_ ?_ _) | (with_reducible refine Below.setCell ?_ ?_ _) | (with_reducible refine below_row ?_ ?_ _) | (with_reducible refine Below.drew ?_) | (with_reducible refine below_drewN ?_ _) | (with_reducible refine Below.trans ?_ (Below.mono (by assumption) ?_)) | (first | exact Nat.le_refl _ | omega | (simp; done) | (simp; omega))))
    exact hq.trans (Below.trans (below_drewN (Below.refl _ _) _) (hb1.mono (show w.heap.size ≤ (((w.alloc (.cells #[.int .i64 lo, .int .i64 hi] 38)).alloc (.cells #[.int .i64 0, .int .i64 0, .int .i64 0] 23)).alloc (.cells #[.int .i64 0, .int .i64 0, .int .i64 0] 23)).heap.size by simp; omega)))
  clear hb1 HH0 HZ0 HP0
  obtain ⟨c0, c1, -, -⟩ := HP.out.c2
  have zP := HP.out.lt
  have HHw1 := HH
  have HZw1 := HZ
  have Bw1 := hbw
  go_wp2_with fail
  refine (HRm.out _).mono ?_
  rintro e w2 ⟨rfl, hb2⟩
  have s2 := hb2.size; try simp only [World.size_alloc, World.size_setCell, World.size_drew, setRow_size] at s2
  have HHw2 := Lib.hid ((HHw1.out.alloc (.cells #[.int .i64 nom, .int .i64 nom, .int .i64 (nom + p)] 23)).after hb2)
  have HZw2 := Lib.hid ((HZw1.out.alloc (.cells #[.int .i64 nom, .int .i64 nom, .int .i64 (nom + p)] 23)).after hb2)
  have HBw2 := Lib.hid ((Lies.made w1 23 #[.int .i64 nom, .int .i64 nom, .int .i64 (nom + p)]).after hb2)
  have Bw2 : Below w.heap.size w w2 := Bw1.trans (Below.trans ((Below.refl w1.heap.size w1).alloc (Nat.le_refl _) _ |>.mono Bw1.size) (hb2.mono (by have := Bw1.size; simp; omega)))
  go_wp2_with fail
  refine (HAg.out _).mono ?_
  rintro e w3 ⟨rfl, hb3⟩
  have s3 := hb3.size; try simp only [World.size_alloc, World.size_setCell, World.size_drew, setRow_size] at s3
  have HHw3 := Lib.hid ((HHw2.out.alloc (.cells #[.int .i64 nom, .int .i64 rl, .int .i64 rh] 23)).after hb3)
  have HZw3 := Lib.hid ((HZw2.out.alloc (.cells #[.int .i64 nom, .int .i64 rl, .int .i64 rh] 23)).after hb3)
  have HBw3 := Lib.hid ((Lies.made w2 23 #[.int .i64 nom, .int .i64 rl, .int .i64 rh]).after hb3)
  have Bw3 : Below w.heap.size w w3 := Bw2.trans (Below.trans ((Below.refl w2.heap.size w2).alloc (Nat.le_refl _) _ |>.mono Bw2.size) (hb3.mono (by have := Bw2.size; simp; omega)))
  have HO3 := Lib.hid ((HBw2.out.alloc (.cells #[.int .i64 nom, .int .i64 rl, .int .i64 rh] 23)).after hb3)
  go_upto_region 17 with fail
  obtain ⟨v, hv, hbv, hkeep, HNEW, hsz⟩ := mid_alloc w w3 Bw3 #[.int .i64 x, .int .i64 y, .int .i64 z] 23
  rw [hv]
  have HHv := Lib.hid (hkeep _ _ _ HHw3.out)
  have HZv := Lib.hid (hkeep _ _ _ HZw3.out)
  have HOv := Lib.hid (hkeep _ _ _ HO3.out)
  have HNv := Lib.hid HNEW
  clear hv hkeep HNEW
  obtain ⟨a0, a1, a2, f0, f1, f2⟩ := HHv.out.c3
  obtain ⟨d0, d1, d2, y0, y1, y2⟩ := HZv.out.c3
  obtain ⟨o0, o1, o2, -, -, -⟩ := HOv.out.c3
  obtain ⟨m0, m1, m2, -, -, -⟩ := HNv.out.c3
  have sw2 := Bw2.size
  have e1 : ¬ w1.heap.size = w.heap.size + 1 := by omega
  have e2 : ¬ w1.heap.size = w.heap.size + 1 + 1 := by omega
  have e3 : ¬ w3.heap.size = w.heap.size + 1 := by omega
  have e4 : ¬ w3.heap.size = w.heap.size + 1 + 1 := by omega
  have e5 : ¬ w.heap.size + 1 = w1.heap.size := by omega
  have e6 : ¬ w.heap.size + 1 + 1 = w1.heap.size := by omega
  have e7 : ¬ w.heap.size + 1 = w3.heap.size := by omega
  have e8 : ¬ w.heap.size + 1 + 1 = w3.heap.size := by omega
  have e9 : ¬ w.heap.size + 1 + 1 = w.heap.size + 1 := by omega
  have e10 : ¬ w.heap.size + 1 = w.heap.size + 1 + 1 := by omega
  go_region_held3 (fun W => W.cell? ⟨w1.heap.size, 0, none⟩ = some (.int .i64 nom) ∧ W.cell? ⟨w1.heap.size, 1, none⟩ = some (.int .i64 nom) ∧ W.cell? ⟨w1.heap.size, 2, none⟩ = some (.int .i64 (nom + p)) ∧ W.cell? ⟨w3.heap.size, 0, none⟩ = some (.int .i64 x) ∧ W.cell? ⟨w3.heap.size, 1, none⟩ = some (.int .i64 y) ∧ W.cell? ⟨w3.heap.size, 2, none⟩ = some (.int .i64 z)) (go_keep) (fail)
  all_goals
    rename_i hHeld
    clear hHeld
    go_wp2_with fail
    have FH := (((((((HHv.out.store 0 (.int .i64 nom)).store 1 (.int .i64 nom)).store 2 (.int .i64 (nom + p))).other (p := ⟨w.heap.size + 1 + 1, 0, none⟩) (by simp) (.int .i64 x)).other (p := ⟨w.heap.size + 1 + 1, 1, none⟩) (by simp) (.int .i64 y)).other (p := ⟨w.heap.size + 1 + 1, 2, none⟩) (by simp) (.int .i64 z))).drew
    have FS := (((((((HZv.out.other (p := ⟨w.heap.size + 1, 0, none⟩) (by simp) (.int .i64 nom)).other (p := ⟨w.heap.size + 1, 1, none⟩) (by simp) (.int .i64 nom)).other (p := ⟨w.heap.size + 1, 2, none⟩) (by simp) (.int .i64 (nom + p))).store 0 (.int .i64 x)).store 1 (.int .i64 y)).store 2 (.int .i64 z))).drew
    refine bodyPost_ret (v := .tuple #[.agg #[.int .i64 nom, .int .i64 nom, .int .i64 (nom + p)], .agg #[.int .i64 x, .int .i64 y, .int .i64 z], .int .i64 0]) (results_cct Try.results18 _ _ (w.heap.size + 1) (w.heap.size + 1 + 1) _ _ _ _ _ _ rfl rfl FH FS Try.underlying23 rfl (by kernel_rfl) Try.underlying23 rfl (by kernel_rfl)) rfl ⟨rfl, ?_⟩
    (repeat' (first | (with_reducible exact Below.refl _ _) | (with_reducible assumption) | (with_reducible refine Below.alloc ?_ ?_ _) | (with_reducible refine Below.setCell ?_ ?_ _) | (with_reducible refine below_row ?_ ?_ _) | (with_reducible refine Below.drew ?_) | (with_reducible refine below_drewN ?_ _) | (with_reducible refine Below.trans ?_ (Below.mono (by assumption) ?_)) | (first | exact Nat.le_refl _ | omega | (simp; done) | (simp; omega))))
set_option maxHeartbeats 4000000 in
theorem rShare_hole2 (nom lo hi : Int) (w : World) (n0 : 0 ≤ nom) (n1 : nom ≤ 1000000000) (hw : wantS lo hi = true) (hm : nom % 254 = 0) (hh : okD nom nom (nom + downS 254 ((hi - lo) / 2)) = false) :
    Calls Try.prog 18 #[.int .i64 nom, .agg #[.int .i64 lo, .int .i64 hi], .int .u8 2] w (Gives2 (noTwo 6) w) := by
  have HS := Lib.hid (fun W => rStep_any 2 W)
  have HN := Lib.hid (fun W => rwithin_any nom 0 1000000000 W)
  have HW := Lib.hid (fun W => rWanted_any lo hi W)
  rw [show stepR 2 = 254 from rfl] at HS
  rw [decide_eq_true (show 0 ≤ nom ∧ nom ≤ 1000000000 from ⟨n0, n1⟩)] at HN
  obtain ⟨g1, g2, g3⟩ : -1000000000 ≤ lo ∧ lo ≤ hi ∧ hi ≤ 1000000000 := by simpa [wantS] using hw
  rw [hw] at HW
  have hb : ((nom % 254) != 0) = false := by rw [hm]; rfl
  obtain ⟨p0, p1, -⟩ := downS_bd (st := 254) (n := (hi - lo) / 2) (by omega) (by omega)
  have hp : (hi - lo) / 2 / 254 * 254 = downS 254 ((hi - lo) / 2) := rfl
  generalize downS 254 ((hi - lo) / 2) = p at *
  have p2 : p ≤ 1000000000 := by omega
  clear hm hw
  have hgt : 1000000000 < nom + p := by
    have := okD_no.1 hh
    omega
  clear hh
  go_enter Try.func18, Try.ntmps18
  go_wp2_with fail
  refine (HS.out _).mono ?_
  rintro e w1 ⟨rfl, k1, rfl⟩
  go_wp2_with fail
  refine (HN.out _).mono ?_
  rintro e w1 ⟨rfl, k2, rfl⟩
  go_wp2_with fail
  refine (HW.out _).mono ?_
  rintro e w1 ⟨rfl, hb1⟩
  have s1 : w.heap.size + 1 + 1 + 1 ≤ w1.heap.size := by
    have t : (((w.alloc (.cells #[.int .i64 lo, .int .i64 hi] 38)).alloc (.cells #[.int .i64 0, .int .i64 0, .int .i64 0] 23)).alloc (.cells #[.int .i64 0, .int .i64 0, .int .i64 0] 23)).heap.size ≤ w1.heap.size := hb1.size
    simpa using t
  have HH0 : Lies w1 (w.heap.size + 1) 23 #[.int .i64 0, .int .i64 0, .int .i64 0] := Lies.after (Lies.drewN ((Lies.new (u := w.alloc (.cells #[.int .i64 lo, .int .i64 hi] 38)) (by simp)).alloc (.cells #[.int .i64 0, .int .i64 0, .int .i64 0] 23)) _) hb1
  have HZ0 : Lies w1 (w.heap.size + 1 + 1) 23 #[.int .i64 0, .int .i64 0, .int .i64 0] := Lies.after (Lies.drewN (Lies.new (by simp)) _) hb1
  have HP0 : Lies w1 w.heap.size 38 #[.int .i64 lo, .int .i64 hi] := Lies.after (Lies.drewN (((Lies.made w 38 #[.int .i64 lo, .int .i64 hi]).alloc _).alloc _) _) hb1
  have HH := Lib.hid HH0
  have HZ := Lib.hid HZ0
  have HP := Lib.hid HP0
  have hbw : Below w.heap.size w w1 := by
    have hq : Below w.heap.size w (((w.alloc (.cells #[.int .i64 lo, .int .i64 hi] 38)).alloc (.cells #[.int .i64 0, .int .i64 0, .int .i64 0] 23)).alloc (.cells #[.int .i64 0, .int .i64 0, .int .i64 0] 23)) := by (repeat' (first | (with_reducible exact Below.refl _ _) | (with_reducible assumption) | (with_reducible refine Below.alloc ?_ ?_ _) | (with_reducible refine Below.setCell ?_ ?_ _) | (with_reducible refine below_row ?_ ?_ _) | (with_reducible refine Below.drew ?_) | (with_reducible refine below_drewN ?_ _) | (with_reducible refine Below.trans ?_ (Below.mono (by assumption) ?_)) | (first | exact Nat.le_refl _ | omega | (simp; done) | (simp; omega))))
    exact hq.trans (Below.trans (below_drewN (Below.refl _ _) _) (hb1.mono (show w.heap.size ≤ (((w.alloc (.cells #[.int .i64 lo, .int .i64 hi] 38)).alloc (.cells #[.int .i64 0, .int .i64 0, .int .i64 0] 23)).alloc (.cells #[.int .i64 0, .int .i64 0, .int .i64 0] 23)).heap.size by simp; omega)))
  clear hb1 HH0 HZ0 HP0
  obtain ⟨c0, c1, -, -⟩ := HP.out.c2
  have zP := HP.out.lt
  have HHw1 := HH
  have HZw1 := HZ
  have Bw1 := hbw
  go_upto_region 10 with fail
  obtain ⟨v, hv, hbv, hkeep, HNEW, hsz⟩ := mid_alloc w w1 Bw1 #[.int .i64 nom, .int .i64 nom, .int .i64 (nom + p)] 23
  rw [hv]
  have HHv := Lib.hid (hkeep _ _ _ HHw1.out)
  have HZv := Lib.hid (hkeep _ _ _ HZw1.out)
  have h0 := HNEW.cell 0
  have h1 := HNEW.cell 1
  have h2 := HNEW.cell 2
  have hz := HNEW.lt
  clear hv hkeep HNEW
  obtain ⟨a0, a1, a2, f0, f1, f2⟩ := HHv.out.c3
  obtain ⟨d0, d1, d2, y0, y1, y2⟩ := HZv.out.c3
  go_wp2_with fail
  have FH := ((((((HHv.out.store 0 (.int .i64 0)).store 1 (.int .i64 0)).store 2 (.int .i64 0)).other (p := ⟨w.heap.size + 1 + 1, 0, none⟩) (by simp) (.int .i64 0)).other (p := ⟨w.heap.size + 1 + 1, 1, none⟩) (by simp) (.int .i64 0)).other (p := ⟨w.heap.size + 1 + 1, 2, none⟩) (by simp) (.int .i64 0))
  have FS := ((((((HZv.out.other (p := ⟨w.heap.size + 1, 0, none⟩) (by simp) (.int .i64 0)).other (p := ⟨w.heap.size + 1, 1, none⟩) (by simp) (.int .i64 0)).other (p := ⟨w.heap.size + 1, 2, none⟩) (by simp) (.int .i64 0)).store 0 (.int .i64 0)).store 1 (.int .i64 0)).store 2 (.int .i64 0))
  refine bodyPost_ret (v := .tuple #[.agg #[.int .i64 0, .int .i64 0, .int .i64 0], .agg #[.int .i64 0, .int .i64 0, .int .i64 0], .int .i64 6]) (results_cct Try.results18 _ _ (w.heap.size + 1) (w.heap.size + 1 + 1) _ _ _ _ _ _ rfl rfl FH FS Try.underlying23 rfl (by kernel_rfl) Try.underlying23 rfl (by kernel_rfl)) rfl ⟨rfl, ?_⟩
  (repeat' (first | (with_reducible exact Below.refl _ _) | (with_reducible assumption) | (with_reducible refine Below.alloc ?_ ?_ _) | (with_reducible refine Below.setCell ?_ ?_ _) | (with_reducible refine below_row ?_ ?_ _) | (with_reducible refine Below.drew ?_) | (with_reducible refine below_drewN ?_ _) | (with_reducible refine Below.trans ?_ (Below.mono (by assumption) ?_)) | (first | exact Nat.le_refl _ | omega | (simp; done) | (simp; omega))))
set_option maxHeartbeats 4000000 in
theorem rShare_none2 (nom lo hi : Int) (w : World) (n0 : 0 ≤ nom) (n1 : nom ≤ 1000000000) (hw : wantS lo hi = true) (hm : nom % 254 = 0) (hh : okD nom nom (nom + downS 254 ((hi - lo) / 2)) = true) (hr : roomHi nom lo < roomLo (nom + downS 254 ((hi - lo) / 2)) hi) :
    Calls Try.prog 18 #[.int .i64 nom, .agg #[.int .i64 lo, .int .i64 hi], .int .u8 2] w (Gives2 (noTwo 6) w) := by
  have hwc := hw
  have HS := Lib.hid (fun W => rStep_any 2 W)
  have HN := Lib.hid (fun W => rwithin_any nom 0 1000000000 W)
  have HW := Lib.hid (fun W => rWanted_any lo hi W)
  rw [show stepR 2 = 254 from rfl] at HS
  rw [decide_eq_true (show 0 ≤ nom ∧ nom ≤ 1000000000 from ⟨n0, n1⟩)] at HN
  obtain ⟨g1, g2, g3⟩ : -1000000000 ≤ lo ∧ lo ≤ hi ∧ hi ≤ 1000000000 := by simpa [wantS] using hw
  rw [hw] at HW
  have hb : ((nom % 254) != 0) = false := by rw [hm]; rfl
  obtain ⟨p0, p1, -⟩ := downS_bd (st := 254) (n := (hi - lo) / 2) (by omega) (by omega)
  have hp : (hi - lo) / 2 / 254 * 254 = downS 254 ((hi - lo) / 2) := rfl
  generalize downS 254 ((hi - lo) / 2) = p at *
  have p2 : p ≤ 1000000000 := by omega
  clear hm hw
  have hle : ¬ 1000000000 < nom + p := by
    have := okD_iff.1 hh
    omega
  have hle' : nom + p ≤ 1000000000 := by omega
  have HRm := Lib.hid (fun W => rroom_any nom nom (nom + p) lo hi W hh hwc)
  rw [decide_eq_false (show ¬ roomLo (nom + p) hi ≤ roomHi nom lo by omega)] at HRm
  generalize roomLo (nom + p) hi = rl at *
  generalize roomHi nom lo = rh at *
  clear hh hr hwc
  go_enter Try.func18, Try.ntmps18
  go_wp2_with fail
  refine (HS.out _).mono ?_
  rintro e w1 ⟨rfl, k1, rfl⟩
  go_wp2_with fail
  refine (HN.out _).mono ?_
  rintro e w1 ⟨rfl, k2, rfl⟩
  go_wp2_with fail
  refine (HW.out _).mono ?_
  rintro e w1 ⟨rfl, hb1⟩
  have s1 : w.heap.size + 1 + 1 + 1 ≤ w1.heap.size := by
    have t : (((w.alloc (.cells #[.int .i64 lo, .int .i64 hi] 38)).alloc (.cells #[.int .i64 0, .int .i64 0, .int .i64 0] 23)).alloc (.cells #[.int .i64 0, .int .i64 0, .int .i64 0] 23)).heap.size ≤ w1.heap.size := hb1.size
    simpa using t
  have HH0 : Lies w1 (w.heap.size + 1) 23 #[.int .i64 0, .int .i64 0, .int .i64 0] := Lies.after (Lies.drewN ((Lies.new (u := w.alloc (.cells #[.int .i64 lo, .int .i64 hi] 38)) (by simp)).alloc (.cells #[.int .i64 0, .int .i64 0, .int .i64 0] 23)) _) hb1
  have HZ0 : Lies w1 (w.heap.size + 1 + 1) 23 #[.int .i64 0, .int .i64 0, .int .i64 0] := Lies.after (Lies.drewN (Lies.new (by simp)) _) hb1
  have HP0 : Lies w1 w.heap.size 38 #[.int .i64 lo, .int .i64 hi] := Lies.after (Lies.drewN (((Lies.made w 38 #[.int .i64 lo, .int .i64 hi]).alloc _).alloc _) _) hb1
  have HH := Lib.hid HH0
  have HZ := Lib.hid HZ0
  have HP := Lib.hid HP0
  have hbw : Below w.heap.size w w1 := by
    have hq : Below w.heap.size w (((w.alloc (.cells #[.int .i64 lo, .int .i64 hi] 38)).alloc (.cells #[.int .i64 0, .int .i64 0, .int .i64 0] 23)).alloc (.cells #[.int .i64 0, .int .i64 0, .int .i64 0] 23)) := by (repeat' (first | (with_reducible exact Below.refl _ _) | (with_reducible assumption) | (with_reducible refine Below.alloc ?_ ?_ _) | (with_reducible refine Below.setCell ?_ ?_ _) | (with_reducible refine below_row ?_ ?_ _) | (with_reducible refine Below.drew ?_) | (with_reducible refine below_drewN ?_ _) | (with_reducible refine Below.trans ?_ (Below.mono (by assumption) ?_)) | (first | exact Nat.le_refl _ | omega | (simp; done) | (simp; omega))))
    exact hq.trans (Below.trans (below_drewN (Below.refl _ _) _) (hb1.mono (show w.heap.size ≤ (((w.alloc (.cells #[.int .i64 lo, .int .i64 hi] 38)).alloc (.cells #[.int .i64 0, .int .i64 0, .int .i64 0] 23)).alloc (.cells #[.int .i64 0, .int .i64 0, .int .i64 0] 23)).heap.size by simp; omega)))
  clear hb1 HH0 HZ0 HP0
  obtain ⟨c0, c1, -, -⟩ := HP.out.c2
  have zP := HP.out.lt
  have HHw1 := HH
  have HZw1 := HZ
  have Bw1 := hbw
  go_wp2_with fail
  refine (HRm.out _).mono ?_
  rintro e w2 ⟨rfl, hb2⟩
  have s2 := hb2.size; try simp only [World.size_alloc, World.size_setCell, World.size_drew, setRow_size] at s2
  have HHw2 := Lib.hid ((HHw1.out.alloc (.cells #[.int .i64 nom, .int .i64 nom, .int .i64 (nom + p)] 23)).after hb2)
  have HZw2 := Lib.hid ((HZw1.out.alloc (.cells #[.int .i64 nom, .int .i64 nom, .int .i64 (nom + p)] 23)).after hb2)
  have HBw2 := Lib.hid ((Lies.made w1 23 #[.int .i64 nom, .int .i64 nom, .int .i64 (nom + p)]).after hb2)
  have Bw2 : Below w.heap.size w w2 := Bw1.trans (Below.trans ((Below.refl w1.heap.size w1).alloc (Nat.le_refl _) _ |>.mono Bw1.size) (hb2.mono (by have := Bw1.size; simp; omega)))
  go_upto_region 13 with fail
  obtain ⟨v, hv, hbv, hkeep, HNEW, hsz⟩ := mid_alloc w w2 Bw2 #[.int .i64 nom, .int .i64 rl, .int .i64 rh] 23
  rw [hv]
  have HHv := Lib.hid (hkeep _ _ _ HHw2.out)
  have HZv := Lib.hid (hkeep _ _ _ HZw2.out)
  clear hv hkeep HNEW
  obtain ⟨a0, a1, a2, f0, f1, f2⟩ := HHv.out.c3
  obtain ⟨d0, d1, d2, y0, y1, y2⟩ := HZv.out.c3
  go_wp2_with fail
  have FH := ((((((HHv.out.store 0 (.int .i64 0)).store 1 (.int .i64 0)).store 2 (.int .i64 0)).other (p := ⟨w.heap.size + 1 + 1, 0, none⟩) (by simp) (.int .i64 0)).other (p := ⟨w.heap.size + 1 + 1, 1, none⟩) (by simp) (.int .i64 0)).other (p := ⟨w.heap.size + 1 + 1, 2, none⟩) (by simp) (.int .i64 0))
  have FS := ((((((HZv.out.other (p := ⟨w.heap.size + 1, 0, none⟩) (by simp) (.int .i64 0)).other (p := ⟨w.heap.size + 1, 1, none⟩) (by simp) (.int .i64 0)).other (p := ⟨w.heap.size + 1, 2, none⟩) (by simp) (.int .i64 0)).store 0 (.int .i64 0)).store 1 (.int .i64 0)).store 2 (.int .i64 0))
  refine bodyPost_ret (v := .tuple #[.agg #[.int .i64 0, .int .i64 0, .int .i64 0], .agg #[.int .i64 0, .int .i64 0, .int .i64 0], .int .i64 6]) (results_cct Try.results18 _ _ (w.heap.size + 1) (w.heap.size + 1 + 1) _ _ _ _ _ _ rfl rfl FH FS Try.underlying23 rfl (by kernel_rfl) Try.underlying23 rfl (by kernel_rfl)) rfl ⟨rfl, ?_⟩
  (repeat' (first | (with_reducible exact Below.refl _ _) | (with_reducible assumption) | (with_reducible refine Below.alloc ?_ ?_ _) | (with_reducible refine Below.setCell ?_ ?_ _) | (with_reducible refine below_row ?_ ?_ _) | (with_reducible refine Below.drew ?_) | (with_reducible refine below_drewN ?_ _) | (with_reducible refine Below.trans ?_ (Below.mono (by assumption) ?_)) | (first | exact Nat.le_refl _ | omega | (simp; done) | (simp; omega))))
set_option maxHeartbeats 4000000 in
theorem rShare_poor2 (nom lo hi : Int) (w : World) (n0 : 0 ≤ nom) (n1 : nom ≤ 1000000000) (hw : wantS lo hi = true) (hm : nom % 254 = 0) (hh : okD nom nom (nom + downS 254 ((hi - lo) / 2)) = true) (hr : ¬ roomHi nom lo < roomLo (nom + downS 254 ((hi - lo) / 2)) hi) (hx5 : downS 254 (roomHi nom lo) < upS 254 (roomLo (nom + downS 254 ((hi - lo) / 2)) hi)) :
    Calls Try.prog 18 #[.int .i64 nom, .agg #[.int .i64 lo, .int .i64 hi], .int .u8 2] w (Gives2 (noTwo 6) w) := by
  have hwc := hw
  have HS := Lib.hid (fun W => rStep_any 2 W)
  have HN := Lib.hid (fun W => rwithin_any nom 0 1000000000 W)
  have HW := Lib.hid (fun W => rWanted_any lo hi W)
  rw [show stepR 2 = 254 from rfl] at HS
  rw [decide_eq_true (show 0 ≤ nom ∧ nom ≤ 1000000000 from ⟨n0, n1⟩)] at HN
  obtain ⟨g1, g2, g3⟩ : -1000000000 ≤ lo ∧ lo ≤ hi ∧ hi ≤ 1000000000 := by simpa [wantS] using hw
  rw [hw] at HW
  have hb : ((nom % 254) != 0) = false := by rw [hm]; rfl
  obtain ⟨p0, p1, -⟩ := downS_bd (st := 254) (n := (hi - lo) / 2) (by omega) (by omega)
  have hp : (hi - lo) / 2 / 254 * 254 = downS 254 ((hi - lo) / 2) := rfl
  generalize downS 254 ((hi - lo) / 2) = p at *
  have p2 : p ≤ 1000000000 := by omega
  clear hm hw
  have hle : ¬ 1000000000 < nom + p := by
    have := okD_iff.1 hh
    omega
  have hle' : nom + p ≤ 1000000000 := by omega
  have HRm := Lib.hid (fun W => rroom_any nom nom (nom + p) lo hi W hh hwc)
  rw [decide_eq_true (show roomLo (nom + p) hi ≤ roomHi nom lo by omega)] at HRm
  have hx : 0 ≤ roomLo (nom + p) hi ∧ roomLo (nom + p) hi ≤ 1000000000 ∧ 0 ≤ roomHi nom lo ∧ roomHi nom lo ≤ 1000000000 := by
    unfold roomHi roomLo at hr ⊢
    split <;> split <;> omega
  generalize roomLo (nom + p) hi = rl at *
  generalize roomHi nom lo = rh at *
  obtain ⟨x1, x2, x3, x4⟩ := hx
  have HAg := Lib.hid (fun W => rAgain_any nom rl rh 254 W n0 n1 x1 x2 x3 x4 (by omega))
  unfold againR at HAg
  rw [decide_eq_false (show ¬ upS 254 rl ≤ downS 254 rh by omega)] at HAg
  generalize upS 254 rl = y at *
  generalize downS 254 rh = z at *
  generalize nearS 254 nom = x at *
  clear hh hr hwc hx5
  go_enter Try.func18, Try.ntmps18
  go_wp2_with fail
  refine (HS.out _).mono ?_
  rintro e w1 ⟨rfl, k1, rfl⟩
  go_wp2_with fail
  refine (HN.out _).mono ?_
  rintro e w1 ⟨rfl, k2, rfl⟩
  go_wp2_with fail
  refine (HW.out _).mono ?_
  rintro e w1 ⟨rfl, hb1⟩
  have s1 : w.heap.size + 1 + 1 + 1 ≤ w1.heap.size := by
    have t : (((w.alloc (.cells #[.int .i64 lo, .int .i64 hi] 38)).alloc (.cells #[.int .i64 0, .int .i64 0, .int .i64 0] 23)).alloc (.cells #[.int .i64 0, .int .i64 0, .int .i64 0] 23)).heap.size ≤ w1.heap.size := hb1.size
    simpa using t
  have HH0 : Lies w1 (w.heap.size + 1) 23 #[.int .i64 0, .int .i64 0, .int .i64 0] := Lies.after (Lies.drewN ((Lies.new (u := w.alloc (.cells #[.int .i64 lo, .int .i64 hi] 38)) (by simp)).alloc (.cells #[.int .i64 0, .int .i64 0, .int .i64 0] 23)) _) hb1
  have HZ0 : Lies w1 (w.heap.size + 1 + 1) 23 #[.int .i64 0, .int .i64 0, .int .i64 0] := Lies.after (Lies.drewN (Lies.new (by simp)) _) hb1
  have HP0 : Lies w1 w.heap.size 38 #[.int .i64 lo, .int .i64 hi] := Lies.after (Lies.drewN (((Lies.made w 38 #[.int .i64 lo, .int .i64 hi]).alloc _).alloc _) _) hb1
  have HH := Lib.hid HH0
  have HZ := Lib.hid HZ0
  have HP := Lib.hid HP0
  have hbw : Below w.heap.size w w1 := by
    have hq : Below w.heap.size w (((w.alloc (.cells #[.int .i64 lo, .int .i64 hi] 38)).alloc (.cells #[.int .i64 0, .int .i64 0, .int .i64 0] 23)).alloc (.cells #[.int .i64 0, .int .i64 0, .int .i64 0] 23)) := by (repeat' (first | (with_reducible exact Below.refl _ _) | (with_reducible assumption) | (with_reducible refine Below.alloc ?_ ?_ _) | (with_reducible refine Below.setCell ?_ ?_ _) | (with_reducible refine below_row ?_ ?_ _) | (with_reducible refine Below.drew ?_) | (with_reducible refine below_drewN ?_ _) | (with_reducible refine Below.trans ?_ (Below.mono (by assumption) ?_)) | (first | exact Nat.le_refl _ | omega | (simp; done) | (simp; omega))))
    exact hq.trans (Below.trans (below_drewN (Below.refl _ _) _) (hb1.mono (show w.heap.size ≤ (((w.alloc (.cells #[.int .i64 lo, .int .i64 hi] 38)).alloc (.cells #[.int .i64 0, .int .i64 0, .int .i64 0] 23)).alloc (.cells #[.int .i64 0, .int .i64 0, .int .i64 0] 23)).heap.size by simp; omega)))
  clear hb1 HH0 HZ0 HP0
  obtain ⟨c0, c1, -, -⟩ := HP.out.c2
  have zP := HP.out.lt
  have HHw1 := HH
  have HZw1 := HZ
  have Bw1 := hbw
  go_wp2_with fail
  refine (HRm.out _).mono ?_
  rintro e w2 ⟨rfl, hb2⟩
  have s2 := hb2.size; try simp only [World.size_alloc, World.size_setCell, World.size_drew, setRow_size] at s2
  have HHw2 := Lib.hid ((HHw1.out.alloc (.cells #[.int .i64 nom, .int .i64 nom, .int .i64 (nom + p)] 23)).after hb2)
  have HZw2 := Lib.hid ((HZw1.out.alloc (.cells #[.int .i64 nom, .int .i64 nom, .int .i64 (nom + p)] 23)).after hb2)
  have HBw2 := Lib.hid ((Lies.made w1 23 #[.int .i64 nom, .int .i64 nom, .int .i64 (nom + p)]).after hb2)
  have Bw2 : Below w.heap.size w w2 := Bw1.trans (Below.trans ((Below.refl w1.heap.size w1).alloc (Nat.le_refl _) _ |>.mono Bw1.size) (hb2.mono (by have := Bw1.size; simp; omega)))
  go_wp2_with fail
  refine (HAg.out _).mono ?_
  rintro e w3 ⟨rfl, hb3⟩
  have s3 := hb3.size; try simp only [World.size_alloc, World.size_setCell, World.size_drew, setRow_size] at s3
  have HHw3 := Lib.hid ((HHw2.out.alloc (.cells #[.int .i64 nom, .int .i64 rl, .int .i64 rh] 23)).after hb3)
  have HZw3 := Lib.hid ((HZw2.out.alloc (.cells #[.int .i64 nom, .int .i64 rl, .int .i64 rh] 23)).after hb3)
  have HBw3 := Lib.hid ((Lies.made w2 23 #[.int .i64 nom, .int .i64 rl, .int .i64 rh]).after hb3)
  have Bw3 : Below w.heap.size w w3 := Bw2.trans (Below.trans ((Below.refl w2.heap.size w2).alloc (Nat.le_refl _) _ |>.mono Bw2.size) (hb3.mono (by have := Bw2.size; simp; omega)))
  go_upto_region 16 with fail
  obtain ⟨v, hv, hbv, hkeep, HNEW, hsz⟩ := mid_alloc w w3 Bw3 #[.int .i64 x, .int .i64 y, .int .i64 z] 23
  rw [hv]
  have HHv := Lib.hid (hkeep _ _ _ HHw3.out)
  have HZv := Lib.hid (hkeep _ _ _ HZw3.out)
  clear hv hkeep HNEW
  obtain ⟨a0, a1, a2, f0, f1, f2⟩ := HHv.out.c3
  obtain ⟨d0, d1, d2, y0, y1, y2⟩ := HZv.out.c3
  go_wp2_with fail
  have FH := ((((((HHv.out.store 0 (.int .i64 0)).store 1 (.int .i64 0)).store 2 (.int .i64 0)).other (p := ⟨w.heap.size + 1 + 1, 0, none⟩) (by simp) (.int .i64 0)).other (p := ⟨w.heap.size + 1 + 1, 1, none⟩) (by simp) (.int .i64 0)).other (p := ⟨w.heap.size + 1 + 1, 2, none⟩) (by simp) (.int .i64 0))
  have FS := ((((((HZv.out.other (p := ⟨w.heap.size + 1, 0, none⟩) (by simp) (.int .i64 0)).other (p := ⟨w.heap.size + 1, 1, none⟩) (by simp) (.int .i64 0)).other (p := ⟨w.heap.size + 1, 2, none⟩) (by simp) (.int .i64 0)).store 0 (.int .i64 0)).store 1 (.int .i64 0)).store 2 (.int .i64 0))
  refine bodyPost_ret (v := .tuple #[.agg #[.int .i64 0, .int .i64 0, .int .i64 0], .agg #[.int .i64 0, .int .i64 0, .int .i64 0], .int .i64 6]) (results_cct Try.results18 _ _ (w.heap.size + 1) (w.heap.size + 1 + 1) _ _ _ _ _ _ rfl rfl FH FS Try.underlying23 rfl (by kernel_rfl) Try.underlying23 rfl (by kernel_rfl)) rfl ⟨rfl, ?_⟩
  (repeat' (first | (with_reducible exact Below.refl _ _) | (with_reducible assumption) | (with_reducible refine Below.alloc ?_ ?_ _) | (with_reducible refine Below.setCell ?_ ?_ _) | (with_reducible refine below_row ?_ ?_ _) | (with_reducible refine Below.drew ?_) | (with_reducible refine below_drewN ?_ _) | (with_reducible refine Below.trans ?_ (Below.mono (by assumption) ?_)) | (first | exact Nat.le_refl _ | omega | (simp; done) | (simp; omega))))
set_option maxHeartbeats 4000000 in
theorem rShare_good2 (nom lo hi : Int) (w : World) (n0 : 0 ≤ nom) (n1 : nom ≤ 1000000000) (hw : wantS lo hi = true) (hm : nom % 254 = 0) (hh : okD nom nom (nom + downS 254 ((hi - lo) / 2)) = true) (hr : ¬ roomHi nom lo < roomLo (nom + downS 254 ((hi - lo) / 2)) hi) (hx5 : upS 254 (roomLo (nom + downS 254 ((hi - lo) / 2)) hi) ≤ downS 254 (roomHi nom lo)) :
    Calls Try.prog 18 #[.int .i64 nom, .agg #[.int .i64 lo, .int .i64 hi], .int .u8 2] w (Gives2 ((nom, nom, (nom + downS 254 ((hi - lo) / 2))), (nearS 254 nom, upS 254 (roomLo (nom + downS 254 ((hi - lo) / 2)) hi), downS 254 (roomHi nom lo)), 0) w) := by
  have hwc := hw
  have HS := Lib.hid (fun W => rStep_any 2 W)
  have HN := Lib.hid (fun W => rwithin_any nom 0 1000000000 W)
  have HW := Lib.hid (fun W => rWanted_any lo hi W)
  rw [show stepR 2 = 254 from rfl] at HS
  rw [decide_eq_true (show 0 ≤ nom ∧ nom ≤ 1000000000 from ⟨n0, n1⟩)] at HN
  obtain ⟨g1, g2, g3⟩ : -1000000000 ≤ lo ∧ lo ≤ hi ∧ hi ≤ 1000000000 := by simpa [wantS] using hw
  rw [hw] at HW
  have hb : ((nom % 254) != 0) = false := by rw [hm]; rfl
  obtain ⟨p0, p1, -⟩ := downS_bd (st := 254) (n := (hi - lo) / 2) (by omega) (by omega)
  have hp : (hi - lo) / 2 / 254 * 254 = downS 254 ((hi - lo) / 2) := rfl
  generalize downS 254 ((hi - lo) / 2) = p at *
  have p2 : p ≤ 1000000000 := by omega
  clear hm hw
  have hle : ¬ 1000000000 < nom + p := by
    have := okD_iff.1 hh
    omega
  have hle' : nom + p ≤ 1000000000 := by omega
  have HRm := Lib.hid (fun W => rroom_any nom nom (nom + p) lo hi W hh hwc)
  rw [decide_eq_true (show roomLo (nom + p) hi ≤ roomHi nom lo by omega)] at HRm
  have hx : 0 ≤ roomLo (nom + p) hi ∧ roomLo (nom + p) hi ≤ 1000000000 ∧ 0 ≤ roomHi nom lo ∧ roomHi nom lo ≤ 1000000000 := by
    unfold roomHi roomLo at hr ⊢
    split <;> split <;> omega
  generalize roomLo (nom + p) hi = rl at *
  generalize roomHi nom lo = rh at *
  obtain ⟨x1, x2, x3, x4⟩ := hx
  have HAg := Lib.hid (fun W => rAgain_any nom rl rh 254 W n0 n1 x1 x2 x3 x4 (by omega))
  unfold againR at HAg
  rw [decide_eq_true hx5] at HAg
  generalize upS 254 rl = y at *
  generalize downS 254 rh = z at *
  generalize nearS 254 nom = x at *
  clear hh hr hwc hx5
  go_enter Try.func18, Try.ntmps18
  go_wp2_with fail
  refine (HS.out _).mono ?_
  rintro e w1 ⟨rfl, k1, rfl⟩
  go_wp2_with fail
  refine (HN.out _).mono ?_
  rintro e w1 ⟨rfl, k2, rfl⟩
  go_wp2_with fail
  refine (HW.out _).mono ?_
  rintro e w1 ⟨rfl, hb1⟩
  have s1 : w.heap.size + 1 + 1 + 1 ≤ w1.heap.size := by
    have t : (((w.alloc (.cells #[.int .i64 lo, .int .i64 hi] 38)).alloc (.cells #[.int .i64 0, .int .i64 0, .int .i64 0] 23)).alloc (.cells #[.int .i64 0, .int .i64 0, .int .i64 0] 23)).heap.size ≤ w1.heap.size := hb1.size
    simpa using t
  have HH0 : Lies w1 (w.heap.size + 1) 23 #[.int .i64 0, .int .i64 0, .int .i64 0] := Lies.after (Lies.drewN ((Lies.new (u := w.alloc (.cells #[.int .i64 lo, .int .i64 hi] 38)) (by simp)).alloc (.cells #[.int .i64 0, .int .i64 0, .int .i64 0] 23)) _) hb1
  have HZ0 : Lies w1 (w.heap.size + 1 + 1) 23 #[.int .i64 0, .int .i64 0, .int .i64 0] := Lies.after (Lies.drewN (Lies.new (by simp)) _) hb1
  have HP0 : Lies w1 w.heap.size 38 #[.int .i64 lo, .int .i64 hi] := Lies.after (Lies.drewN (((Lies.made w 38 #[.int .i64 lo, .int .i64 hi]).alloc _).alloc _) _) hb1
  have HH := Lib.hid HH0
  have HZ := Lib.hid HZ0
  have HP := Lib.hid HP0
  have hbw : Below w.heap.size w w1 := by
    have hq : Below w.heap.size w (((w.alloc (.cells #[.int .i64 lo, .int .i64 hi] 38)).alloc (.cells #[.int .i64 0, .int .i64 0, .int .i64 0] 23)).alloc (.cells #[.int .i64 0, .int .i64 0, .int .i64 0] 23)) := by (repeat' (first | (with_reducible exact Below.refl _ _) | (with_reducible assumption) | (with_reducible refine Below.alloc ?_ ?_ _) | (with_reducible refine Below.setCell ?_ ?_ _) | (with_reducible refine below_row ?_ ?_ _) | (with_reducible refine Below.drew ?_) | (with_reducible refine below_drewN ?_ _) | (with_reducible refine Below.trans ?_ (Below.mono (by assumption) ?_)) | (first | exact Nat.le_refl _ | omega | (simp; done) | (simp; omega))))
    exact hq.trans (Below.trans (below_drewN (Below.refl _ _) _) (hb1.mono (show w.heap.size ≤ (((w.alloc (.cells #[.int .i64 lo, .int .i64 hi] 38)).alloc (.cells #[.int .i64 0, .int .i64 0, .int .i64 0] 23)).alloc (.cells #[.int .i64 0, .int .i64 0, .int .i64 0] 23)).heap.size by simp; omega)))
  clear hb1 HH0 HZ0 HP0
  obtain ⟨c0, c1, -, -⟩ := HP.out.c2
  have zP := HP.out.lt
  have HHw1 := HH
  have HZw1 := HZ
  have Bw1 := hbw
  go_wp2_with fail
  refine (HRm.out _).mono ?_
  rintro e w2 ⟨rfl, hb2⟩
  have s2 := hb2.size; try simp only [World.size_alloc, World.size_setCell, World.size_drew, setRow_size] at s2
  have HHw2 := Lib.hid ((HHw1.out.alloc (.cells #[.int .i64 nom, .int .i64 nom, .int .i64 (nom + p)] 23)).after hb2)
  have HZw2 := Lib.hid ((HZw1.out.alloc (.cells #[.int .i64 nom, .int .i64 nom, .int .i64 (nom + p)] 23)).after hb2)
  have HBw2 := Lib.hid ((Lies.made w1 23 #[.int .i64 nom, .int .i64 nom, .int .i64 (nom + p)]).after hb2)
  have Bw2 : Below w.heap.size w w2 := Bw1.trans (Below.trans ((Below.refl w1.heap.size w1).alloc (Nat.le_refl _) _ |>.mono Bw1.size) (hb2.mono (by have := Bw1.size; simp; omega)))
  go_wp2_with fail
  refine (HAg.out _).mono ?_
  rintro e w3 ⟨rfl, hb3⟩
  have s3 := hb3.size; try simp only [World.size_alloc, World.size_setCell, World.size_drew, setRow_size] at s3
  have HHw3 := Lib.hid ((HHw2.out.alloc (.cells #[.int .i64 nom, .int .i64 rl, .int .i64 rh] 23)).after hb3)
  have HZw3 := Lib.hid ((HZw2.out.alloc (.cells #[.int .i64 nom, .int .i64 rl, .int .i64 rh] 23)).after hb3)
  have HBw3 := Lib.hid ((Lies.made w2 23 #[.int .i64 nom, .int .i64 rl, .int .i64 rh]).after hb3)
  have Bw3 : Below w.heap.size w w3 := Bw2.trans (Below.trans ((Below.refl w2.heap.size w2).alloc (Nat.le_refl _) _ |>.mono Bw2.size) (hb3.mono (by have := Bw2.size; simp; omega)))
  have HO3 := Lib.hid ((HBw2.out.alloc (.cells #[.int .i64 nom, .int .i64 rl, .int .i64 rh] 23)).after hb3)
  go_upto_region 17 with fail
  obtain ⟨v, hv, hbv, hkeep, HNEW, hsz⟩ := mid_alloc w w3 Bw3 #[.int .i64 x, .int .i64 y, .int .i64 z] 23
  rw [hv]
  have HHv := Lib.hid (hkeep _ _ _ HHw3.out)
  have HZv := Lib.hid (hkeep _ _ _ HZw3.out)
  have HOv := Lib.hid (hkeep _ _ _ HO3.out)
  have HNv := Lib.hid HNEW
  clear hv hkeep HNEW
  obtain ⟨a0, a1, a2, f0, f1, f2⟩ := HHv.out.c3
  obtain ⟨d0, d1, d2, y0, y1, y2⟩ := HZv.out.c3
  obtain ⟨o0, o1, o2, -, -, -⟩ := HOv.out.c3
  obtain ⟨m0, m1, m2, -, -, -⟩ := HNv.out.c3
  have sw2 := Bw2.size
  have e1 : ¬ w1.heap.size = w.heap.size + 1 := by omega
  have e2 : ¬ w1.heap.size = w.heap.size + 1 + 1 := by omega
  have e3 : ¬ w3.heap.size = w.heap.size + 1 := by omega
  have e4 : ¬ w3.heap.size = w.heap.size + 1 + 1 := by omega
  have e5 : ¬ w.heap.size + 1 = w1.heap.size := by omega
  have e6 : ¬ w.heap.size + 1 + 1 = w1.heap.size := by omega
  have e7 : ¬ w.heap.size + 1 = w3.heap.size := by omega
  have e8 : ¬ w.heap.size + 1 + 1 = w3.heap.size := by omega
  have e9 : ¬ w.heap.size + 1 + 1 = w.heap.size + 1 := by omega
  have e10 : ¬ w.heap.size + 1 = w.heap.size + 1 + 1 := by omega
  go_region_held3 (fun W => W.cell? ⟨w1.heap.size, 0, none⟩ = some (.int .i64 nom) ∧ W.cell? ⟨w1.heap.size, 1, none⟩ = some (.int .i64 nom) ∧ W.cell? ⟨w1.heap.size, 2, none⟩ = some (.int .i64 (nom + p)) ∧ W.cell? ⟨w3.heap.size, 0, none⟩ = some (.int .i64 x) ∧ W.cell? ⟨w3.heap.size, 1, none⟩ = some (.int .i64 y) ∧ W.cell? ⟨w3.heap.size, 2, none⟩ = some (.int .i64 z)) (go_keep) (fail)
  all_goals
    rename_i hHeld
    clear hHeld
    go_wp2_with fail
    have FH := (((((((HHv.out.store 0 (.int .i64 nom)).store 1 (.int .i64 nom)).store 2 (.int .i64 (nom + p))).other (p := ⟨w.heap.size + 1 + 1, 0, none⟩) (by simp) (.int .i64 x)).other (p := ⟨w.heap.size + 1 + 1, 1, none⟩) (by simp) (.int .i64 y)).other (p := ⟨w.heap.size + 1 + 1, 2, none⟩) (by simp) (.int .i64 z))).drew
    have FS := (((((((HZv.out.other (p := ⟨w.heap.size + 1, 0, none⟩) (by simp) (.int .i64 nom)).other (p := ⟨w.heap.size + 1, 1, none⟩) (by simp) (.int .i64 nom)).other (p := ⟨w.heap.size + 1, 2, none⟩) (by simp) (.int .i64 (nom + p))).store 0 (.int .i64 x)).store 1 (.int .i64 y)).store 2 (.int .i64 z))).drew
    refine bodyPost_ret (v := .tuple #[.agg #[.int .i64 nom, .int .i64 nom, .int .i64 (nom + p)], .agg #[.int .i64 x, .int .i64 y, .int .i64 z], .int .i64 0]) (results_cct Try.results18 _ _ (w.heap.size + 1) (w.heap.size + 1 + 1) _ _ _ _ _ _ rfl rfl FH FS Try.underlying23 rfl (by kernel_rfl) Try.underlying23 rfl (by kernel_rfl)) rfl ⟨rfl, ?_⟩
    (repeat' (first | (with_reducible exact Below.refl _ _) | (with_reducible assumption) | (with_reducible refine Below.alloc ?_ ?_ _) | (with_reducible refine Below.setCell ?_ ?_ _) | (with_reducible refine below_row ?_ ?_ _) | (with_reducible refine Below.drew ?_) | (with_reducible refine below_drewN ?_ _) | (with_reducible refine Below.trans ?_ (Below.mono (by assumption) ?_)) | (first | exact Nat.le_refl _ | omega | (simp; done) | (simp; omega))))
theorem near_bd {st n : Int} (h0 : 0 ≤ n) (h1 : n ≤ 1000000000) (hst : st = 100 ∨ st = 254) : 0 ≤ nearS st n ∧ nearS st n ≤ 1000000000 := by
  have hd := downS_bd h0 hst
  have hn := nearS_cases st n
  omega
theorem conv_two {un n l u : Int} (hun : un = 1 ∨ un = 2) (h : okD n l u = true) :
    (upS (stepU un) l ≤ downS (stepU un) u ∧ convS un n l u = ((nearS (stepU un) n, upS (stepU un) l, downS (stepU un) u), 0)) ∨ (downS (stepU un) u < upS (stepU un) l ∧ convS un n l u = ((0, 0, 0), 6)) := by
  have hU : allU [un] = true := by simpa [allU, unitB] using hun
  unfold convS redrawS
  rw [if_neg (by rw [h]; simp), if_neg (by simp), if_neg (by rw [hU]; simp)]
  by_cases hx : downS (stepU un) u < upS (stepU un) l
  · have h5 : foldD [un] (n, l, u) = none := if_pos hx
    rw [h5]
    exact .inr ⟨hx, rfl⟩
  · have h6 : foldD [un] (n, l, u) = some (stepD un (n, l, u)) := if_neg hx
    rw [h6]
    exact .inl ⟨by omega, rfl⟩
theorem rShare_any (un nom lo hi : Int) (w : World) : Calls Try.prog 18 #[.int .i64 nom, .agg #[.int .i64 lo, .int .i64 hi], .int .u8 un] w (Gives2 (shareS un nom lo hi) w) := by
  unfold shareS
  by_cases h1 : allIn 0 1000000000 [nom] = false
  · rw [if_pos h1]; exact rShare_arg1 nom lo hi un w h1
  have h1' : allIn 0 1000000000 [nom] = true := by simpa using h1
  rw [if_neg h1]
  by_cases h2 : wantS lo hi = false
  · rw [if_pos h2]; exact rShare_arg2 nom lo hi un w h1' h2
  have h2' : wantS lo hi = true := by simpa using h2
  rw [if_neg h2]
  obtain ⟨n0, n1⟩ : 0 ≤ nom ∧ nom ≤ 1000000000 := by simpa [allIn] using h1'
  by_cases h3 : unitB un = false
  · rw [if_pos h3]; exact rShare_unit nom lo hi un w h1' h2' h3
  have h3' : unitB un = true := by simpa using h3
  rw [if_neg h3]
  by_cases h4 : downS (stepU un) nom ≠ nom
  · rw [if_pos h4]; exact rShare_step nom lo hi un w h1' h2' h3' h4
  rw [if_neg h4]
  have h4' : downS (stepU un) nom = nom := by
    by_cases h : downS (stepU un) nom = nom
    · exact h
    · exact absurd h h4
  have hun : un = 1 ∨ un = 2 := by simpa only [unitB, decide_eq_true_eq] using h3'
  rcases hun with rfl | rfl
  · rw [show stepU 1 = 100 from rfl] at h4' ⊢
    have hm : nom % 100 = 0 := by unfold downS at h4'; omega
    by_cases h5 : okD nom nom (nom + downS 100 ((hi - lo) / 2)) = false
    · rw [if_pos h5]; exact rShare_hole1 nom lo hi w n0 n1 h2' hm h5
    have h5' : okD nom nom (nom + downS 100 ((hi - lo) / 2)) = true := by simpa using h5
    rw [if_neg h5]
    by_cases h6 : roomHi nom lo < roomLo (nom + downS 100 ((hi - lo) / 2)) hi
    · rw [if_pos h6]; exact rShare_none1 nom lo hi w n0 n1 h2' hm h5' h6
    rw [if_neg h6]
    have hx : 0 ≤ roomLo (nom + downS 100 ((hi - lo) / 2)) hi ∧ roomHi nom lo ≤ 1000000000 := by
      obtain ⟨-, -, -, v4, v5⟩ := okD_iff.1 h5'
      unfold roomHi roomLo
      split <;> split <;> omega
    rcases conv_two (un := 1) (n := nom) (l := roomLo (nom + downS 100 ((hi - lo) / 2)) hi) (u := roomHi nom lo) (.inl rfl) (okD_iff.2 ⟨n0, n1, hx.1, by omega, hx.2⟩) with ⟨h7, h8⟩ | ⟨h7, h8⟩
    · rw [h8, if_pos rfl]; exact rShare_good1 nom lo hi w n0 n1 h2' hm h5' h6 h7
    · rw [h8, if_neg (show ¬ (((0, 0, 0), (6 : Int)) : D3 × Int).2 = 0 from by show ¬ (6 : Int) = 0; decide)]; exact rShare_poor1 nom lo hi w n0 n1 h2' hm h5' h6 h7
  · rw [show stepU 2 = 254 from rfl] at h4' ⊢
    have hm : nom % 254 = 0 := by unfold downS at h4'; omega
    by_cases h5 : okD nom nom (nom + downS 254 ((hi - lo) / 2)) = false
    · rw [if_pos h5]; exact rShare_hole2 nom lo hi w n0 n1 h2' hm h5
    have h5' : okD nom nom (nom + downS 254 ((hi - lo) / 2)) = true := by simpa using h5
    rw [if_neg h5]
    by_cases h6 : roomHi nom lo < roomLo (nom + downS 254 ((hi - lo) / 2)) hi
    · rw [if_pos h6]; exact rShare_none2 nom lo hi w n0 n1 h2' hm h5' h6
    rw [if_neg h6]
    have hx : 0 ≤ roomLo (nom + downS 254 ((hi - lo) / 2)) hi ∧ roomHi nom lo ≤ 1000000000 := by
      obtain ⟨-, -, -, v4, v5⟩ := okD_iff.1 h5'
      unfold roomHi roomLo
      split <;> split <;> omega
    rcases conv_two (un := 2) (n := nom) (l := roomLo (nom + downS 254 ((hi - lo) / 2)) hi) (u := roomHi nom lo) (.inr rfl) (okD_iff.2 ⟨n0, n1, hx.1, by omega, hx.2⟩) with ⟨h7, h8⟩ | ⟨h7, h8⟩
    · rw [h8, if_pos rfl]; exact rShare_good2 nom lo hi w n0 n1 h2' hm h5' h6 h7
    · rw [h8, if_neg (show ¬ (((0, 0, 0), (6 : Int)) : D3 × Int).2 = 0 from by show ¬ (6 : Int) = 0; decide)]; exact rShare_poor2 nom lo hi w n0 n1 h2' hm h5' h6 h7
end Go.Proofs.Ytldjkdomklgmaaa
