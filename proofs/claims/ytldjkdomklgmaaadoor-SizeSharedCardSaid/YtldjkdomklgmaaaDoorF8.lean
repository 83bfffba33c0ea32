/- The law SizeShared: the walk. -/
import Derived.Test.YtldjkdomklgmaaaDoorF7
namespace Go.Proofs.YtldjkdomklgmaaaDoor
set_option linter.unusedVariables false
set_option linter.unusedSimpArgs false
open Go.RowKit

/-- What is shared of a nominal size that is exact, and a clearance that may be wanted. -/
theorem share_spec {un nom lo hi : Int} (hun : un = 1 ∨ un = 2) (h0 : 0 ≤ nom) (h1 : nom ≤ 1000000000) (hm : nom % stepU un = 0) (hw : wantS lo hi = true) :
    shareS un nom lo hi = noTwo 6 ∨ ∃ p rl rh x y z, shareS un nom lo hi = ((nom, nom, nom + p), (x, y, z), 0) ∧ 0 ≤ p ∧ p ≤ (hi - lo) / 2 ∧ (hi - lo) / 2 < p + stepU un ∧ okD nom nom (nom + p) = true ∧
      exactS (stepU un) nom nom (nom + p) = true ∧ roomS nom nom (nom + p) lo hi = ((nom, rl, rh), 0) ∧ convS un nom rl rh = ((x, y, z), 0) ∧ okD x y z = true ∧ exactS (stepU un) x y z = true ∧ rl ≤ y ∧ y ≤ z ∧ z ≤ rh ∧ nom + p - hi ≤ rl ∧ rh ≤ nom - lo := by
  obtain ⟨g1, g2, g3⟩ : -1000000000 ≤ lo ∧ lo ≤ hi ∧ hi ≤ 1000000000 := by simpa [wantS] using hw
  have hst := stepU_or un
  have hn : downS (stepU un) nom = nom := by
    unfold downS; rcases hst with e | e <;> rw [e] at hm ⊢ <;> omega
  have hp := downS_bd (st := stepU un) (n := (hi - lo) / 2) (by omega) hst
  have hpm := down_mod (st := stepU un) (n := (hi - lo) / 2) hst
  have hU : unitB un = true := by simpa [unitB] using hun
  unfold shareS
  rw [if_neg (show ¬ allIn 0 1000000000 [nom] = false by simp [allIn]; omega), if_neg (show ¬ wantS lo hi = false by rw [hw]; simp), if_neg (by rw [hU]; simp), if_neg (by rw [hn]; simp)]
  generalize hpp : downS (stepU un) ((hi - lo) / 2) = p at *
  obtain ⟨p0, p1, p2⟩ := hp
  by_cases h5 : okD nom nom (nom + p) = false
  · exact .inl (by rw [if_pos h5])
  have h5' : okD nom nom (nom + p) = true := by simpa using h5
  rw [if_neg h5]
  by_cases h6 : roomHi nom lo < roomLo (nom + p) hi
  · exact .inl (by rw [if_pos h6])
  rw [if_neg h6]
  have hR : roomS nom nom (nom + p) lo hi = ((nom, roomLo (nom + p) hi, roomHi nom lo), 0) := by
    unfold roomS
    rw [if_neg h5, if_neg (show ¬ wantS lo hi = false by rw [hw]; simp), if_neg h6]
  obtain ⟨k1, k2, k3, k4, k5⟩ := okD_iff.1 h5'
  have hx : 0 ≤ roomLo (nom + p) hi ∧ nom + p - hi ≤ roomLo (nom + p) hi ∧ roomHi nom lo ≤ 1000000000 ∧ roomHi nom lo ≤ nom - lo := by
    unfold roomHi roomLo
    split <;> split <;> omega
  generalize roomLo (nom + p) hi = rl at *
  generalize roomHi nom lo = rh at *
  obtain ⟨x1, x2, x3, x4⟩ := hx
  obtain ⟨x, y, z, e, hv, ⟨he, hx, hy, hz, hyz, hok⟩ | ⟨he, -⟩⟩ := conv_spec (n := nom) (l := rl) (u := rh) hun (okD_iff.2 ⟨h0, h1, x1, by omega, x3⟩)
  · subst he
    refine .inr ⟨p, rl, rh, x, y, z, by rw [hv, if_pos rfl], p0, p1, p2, h5', ?_, hR, hv, hok, by rw [hx, hy, hz]; exact exact_again hst, ?_, hyz, ?_, x2, x4⟩
    · simp only [exactS, decide_eq_true_eq]
      refine ⟨hm, hm, ?_⟩
      rcases hst with e | e <;> rw [e] at hm hpm ⊢ <;> omega
    · rw [hy]; exact (upS_bd x1 hst).1
    · rw [hz]; exact (downS_bd (by omega) hst).2.1
  · subst he
    exact .inl (by rw [hv, if_neg (show ¬ (((x, y, z), (6 : Int)) : D3 × Int).2 = 0 from by show ¬ (6 : Int) = 0; decide)])
theorem exactR_of {st n l u : Int} {un : Int} (hst : (st = 100 ∧ un = 1) ∨ (st = 254 ∧ un = 2)) (hok : okD n l u = true) (hex : exactS st n l u = true) : exactR n l u = (un, 0) ∨ exactR n l u = (3, 0) := by
  have hR : exactR n l u = (exactU n l u, 0) := by unfold exactR; rw [hok]; rfl
  rw [hR]
  rcases exactU_cases n l u with ⟨e1, e2, e3⟩ | ⟨e1, e2, e3⟩ | ⟨e1, e2, e3⟩ | ⟨e1, e2, e3⟩ <;> rw [e3] <;> rcases hst with ⟨rfl, rfl⟩ | ⟨rfl, rfl⟩
  all_goals first | exact .inr rfl | exact .inl rfl | (rw [hex] at e1; cases e1) | (rw [hex] at e2; cases e2)

set_option maxHeartbeats 8000000 in
set_option maxRecDepth 100000 in
theorem shared_low1 (nom lo hi b : Int) (w : World) (he : Env w) (x0 : 0 ≤ b) (x1 : b ≤ 255) (hu : unitOf b = 1) (h : nom < 0) :
    Calls Tryd.prog 12 #[.int .i64 nom, .agg #[.int .i64 lo, .int .i64 hi], .int .u8 b] w (Trues w) := by
  have HE := Lib.hid (fun W (hW : Below w.heap.size w W) => he.after hW)
  have HS := Lib.hid (fun W => step_1 b W x0 x1 hu)
  clear he hu x0 x1
  go_enter Tryd.func12, Tryd.ntmps12
  go_wp2_with fail
  refine (alive_any _ (HE.out _ (by (repeat' (first | (with_reducible exact Below.refl _ _) | (with_reducible assumption) | (with_reducible refine Below.alloc ?_ ?_ _) | (with_reducible refine Below.setCell ?_ ?_ _) | (with_reducible refine below_row ?_ ?_ _) | (with_reducible refine Below.drew ?_) | (with_reducible refine below_drewN ?_ _) | (with_reducible refine Below.trans ?_ (Below.mono (by assumption) ?_)) | (first | exact Nat.le_refl _ | omega | (simp; done) | (simp; omega))))))).mono ?_
  rintro _ w1 ⟨rfl, hb1⟩
  have s1 := hb1.size; try simp only [World.size_alloc, World.size_setCell, World.size_drew, setRow_size] at s1
  have B1 : Below w.heap.size w w1 := by (repeat' (first | (with_reducible exact Below.refl _ _) | (with_reducible assumption) | (with_reducible refine Below.alloc ?_ ?_ _) | (with_reducible refine Below.setCell ?_ ?_ _) | (with_reducible refine below_row ?_ ?_ _) | (with_reducible refine Below.drew ?_) | (with_reducible refine below_drewN ?_ _) | (with_reducible refine Below.trans ?_ (Below.mono (by assumption) ?_)) | (first | exact Nat.le_refl _ | omega | (simp; done) | (simp; omega))))
  have HP_1 := Lib.hid (show Lies w1 _ 31 #[.int .i64 lo, .int .i64 hi] from (by first | exact (Lies.made w 31 #[.int .i64 lo, .int .i64 hi]).after hb1 | exact ((Lies.made w 31 #[.int .i64 lo, .int .i64 hi]).alloc _).after hb1 | exact (((Lies.made w 31 #[.int .i64 lo, .int .i64 hi]).alloc _).alloc _).after hb1))
  have A1 : Below w.heap.size w w1 := B1
  clear hb1 B1
  have qP0 := HP_1.out.cell 0
  have qP1 := HP_1.out.cell 1
  have zP := HP_1.out.lt
  go_wp2_with fail
  refine (HS.out _).mono ?_
  rintro _ w2 ⟨rfl, hb2⟩
  have s2 := hb2.size; try simp only [World.size_alloc, World.size_setCell, World.size_drew, setRow_size] at s2
  clear qP0 qP1 zP
  have B2 : Below w1.heap.size w1 w2 := by (repeat' (first | (with_reducible exact Below.refl _ _) | (with_reducible assumption) | (with_reducible refine Below.alloc ?_ ?_ _) | (with_reducible refine Below.setCell ?_ ?_ _) | (with_reducible refine below_row ?_ ?_ _) | (with_reducible refine Below.drew ?_) | (with_reducible refine below_drewN ?_ _) | (with_reducible refine Below.trans ?_ (Below.mono (by assumption) ?_)) | (first | exact Nat.le_refl _ | omega | (simp; done) | (simp; omega))))
  have HP_2 := Lib.hid (HP_1.out.after B2)
  clear HP_1
  have A2 : Below w.heap.size w w2 := A1.trans (B2.mono A1.size)
  clear A1 hb2 B2
  go_wp2
  go_ret
  exact ⟨rfl, by (repeat' (first | (with_reducible exact Below.refl _ _) | (with_reducible assumption) | (with_reducible refine Below.alloc ?_ ?_ _) | (with_reducible refine Below.setCell ?_ ?_ _) | (with_reducible refine below_row ?_ ?_ _) | (with_reducible refine Below.drew ?_) | (with_reducible refine below_drewN ?_ _) | (with_reducible refine Below.trans ?_ (Below.mono (by assumption) ?_)) | (first | exact Nat.le_refl _ | omega | (simp; done) | (simp; omega))))⟩
set_option maxHeartbeats 8000000 in
set_option maxRecDepth 100000 in
theorem shared_high1 (nom lo hi b : Int) (w : World) (he : Env w) (x0 : 0 ≤ b) (x1 : b ≤ 255) (hu : unitOf b = 1) (h : 1000000000 < nom) :
    Calls Tryd.prog 12 #[.int .i64 nom, .agg #[.int .i64 lo, .int .i64 hi], .int .u8 b] w (Trues w) := by
  have HE := Lib.hid (fun W (hW : Below w.heap.size w W) => he.after hW)
  have HS := Lib.hid (fun W => step_1 b W x0 x1 hu)
  have h' : 0 ≤ nom := by omega
  clear he hu x0 x1
  go_enter Tryd.func12, Tryd.ntmps12
  go_wp2_with fail
  refine (alive_any _ (HE.out _ (by (repeat' (first | (with_reducible exact Below.refl _ _) | (with_reducible assumption) | (with_reducible refine Below.alloc ?_ ?_ _) | (with_reducible refine Below.setCell ?_ ?_ _) | (with_reducible refine below_row ?_ ?_ _) | (with_reducible refine Below.drew ?_) | (with_reducible refine below_drewN ?_ _) | (with_reducible refine Below.trans ?_ (Below.mono (by assumption) ?_)) | (first | exact Nat.le_refl _ | omega | (simp; done) | (simp; omega))))))).mono ?_
  rintro _ w1 ⟨rfl, hb1⟩
  have s1 := hb1.size; try simp only [World.size_alloc, World.size_setCell, World.size_drew, setRow_size] at s1
  have B1 : Below w.heap.size w w1 := by (repeat' (first | (with_reducible exact Below.refl _ _) | (with_reducible assumption) | (with_reducible refine Below.alloc ?_ ?_ _) | (with_reducible refine Below.setCell ?_ ?_ _) | (with_reducible refine below_row ?_ ?_ _) | (with_reducible refine Below.drew ?_) | (with_reducible refine below_drewN ?_ _) | (with_reducible refine Below.trans ?_ (Below.mono (by assumption) ?_)) | (first | exact Nat.le_refl _ | omega | (simp; done) | (simp; omega))))
  have HP_1 := Lib.hid (show Lies w1 _ 31 #[.int .i64 lo, .int .i64 hi] from (by first | exact (Lies.made w 31 #[.int .i64 lo, .int .i64 hi]).after hb1 | exact ((Lies.made w 31 #[.int .i64 lo, .int .i64 hi]).alloc _).after hb1 | exact (((Lies.made w 31 #[.int .i64 lo, .int .i64 hi]).alloc _).alloc _).after hb1))
  have A1 : Below w.heap.size w w1 := B1
  clear hb1 B1
  have qP0 := HP_1.out.cell 0
  have qP1 := HP_1.out.cell 1
  have zP := HP_1.out.lt
  go_wp2_with fail
  refine (HS.out _).mono ?_
  rintro _ w2 ⟨rfl, hb2⟩
  have s2 := hb2.size; try simp only [World.size_alloc, World.size_setCell, World.size_drew, setRow_size] at s2
  clear qP0 qP1 zP
  have B2 : Below w1.heap.size w1 w2 := by (repeat' (first | (with_reducible exact Below.refl _ _) | (with_reducible assumption) | (with_reducible refine Below.alloc ?_ ?_ _) | (with_reducible refine Below.setCell ?_ ?_ _) | (with_reducible refine below_row ?_ ?_ _) | (with_reducible refine Below.drew ?_) | (with_reducible refine below_drewN ?_ _) | (with_reducible refine Below.trans ?_ (Below.mono (by assumption) ?_)) | (first | exact Nat.le_refl _ | omega | (simp; done) | (simp; omega))))
  have HP_2 := Lib.hid (HP_1.out.after B2)
  clear HP_1
  have A2 : Below w.heap.size w w2 := A1.trans (B2.mono A1.size)
  clear A1 hb2 B2
  go_wp2
  go_ret
  exact ⟨rfl, by (repeat' (first | (with_reducible exact Below.refl _ _) | (with_reducible assumption) | (with_reducible refine Below.alloc ?_ ?_ _) | (with_reducible refine Below.setCell ?_ ?_ _) | (with_reducible refine below_row ?_ ?_ _) | (with_reducible refine Below.drew ?_) | (with_reducible refine below_drewN ?_ _) | (with_reducible refine Below.trans ?_ (Below.mono (by assumption) ?_)) | (first | exact Nat.le_refl _ | omega | (simp; done) | (simp; omega))))⟩
set_option maxHeartbeats 8000000 in
set_option maxRecDepth 100000 in
theorem shared_odd1 (nom lo hi b : Int) (w : World) (he : Env w) (x0 : 0 ≤ b) (x1 : b ≤ 255) (hu : unitOf b = 1) (h : 0 ≤ nom) (h' : nom ≤ 1000000000) (hm : ¬ nom % 100 = 0) :
    Calls Tryd.prog 12 #[.int .i64 nom, .agg #[.int .i64 lo, .int .i64 hi], .int .u8 b] w (Trues w) := by
  have HE := Lib.hid (fun W (hW : Below w.heap.size w W) => he.after hW)
  have HS := Lib.hid (fun W => step_1 b W x0 x1 hu)
  have hb : ((nom % 100) != 0) = true := by rw [bne_iff_ne]; exact hm
  clear he hu x0 x1 hm
  go_enter Tryd.func12, Tryd.ntmps12
  go_wp2_with fail
  refine (alive_any _ (HE.out _ (by (repeat' (first | (with_reducible exact Below.refl _ _) | (with_reducible assumption) | (with_reducible refine Below.alloc ?_ ?_ _) | (with_reducible refine Below.setCell ?_ ?_ _) | (with_reducible refine below_row ?_ ?_ _) | (with_reducible refine Below.drew ?_) | (with_reducible refine below_drewN ?_ _) | (with_reducible refine Below.trans ?_ (Below.mono (by assumption) ?_)) | (first | exact Nat.le_refl _ | omega | (simp; done) | (simp; omega))))))).mono ?_
  rintro _ w1 ⟨rfl, hb1⟩
  have s1 := hb1.size; try simp only [World.size_alloc, World.size_setCell, World.size_drew, setRow_size] at s1
  have B1 : Below w.heap.size w w1 := by (repeat' (first | (with_reducible exact Below.refl _ _) | (with_reducible assumption) | (with_reducible refine Below.alloc ?_ ?_ _) | (with_reducible refine Below.setCell ?_ ?_ _) | (with_reducible refine below_row ?_ ?_ _) | (with_reducible refine Below.drew ?_) | (with_reducible refine below_drewN ?_ _) | (with_reducible refine Below.trans ?_ (Below.mono (by assumption) ?_)) | (first | exact Nat.le_refl _ | omega | (simp; done) | (simp; omega))))
  have HP_1 := Lib.hid (show Lies w1 _ 31 #[.int .i64 lo, .int .i64 hi] from (by first | exact (Lies.made w 31 #[.int .i64 lo, .int .i64 hi]).after hb1 | exact ((Lies.made w 31 #[.int .i64 lo, .int .i64 hi]).alloc _).after hb1 | exact (((Lies.made w 31 #[.int .i64 lo, .int .i64 hi]).alloc _).alloc _).after hb1))
  have A1 : Below w.heap.size w w1 := B1
  clear hb1 B1
  have qP0 := HP_1.out.cell 0
  have qP1 := HP_1.out.cell 1
  have zP := HP_1.out.lt
  go_wp2_with fail
  refine (HS.out _).mono ?_
  rintro _ w2 ⟨rfl, hb2⟩
  have s2 := hb2.size; try simp only [World.size_alloc, World.size_setCell, World.size_drew, setRow_size] at s2
  clear qP0 qP1 zP
  have B2 : Below w1.heap.size w1 w2 := by (repeat' (first | (with_reducible exact Below.refl _ _) | (with_reducible assumption) | (with_reducible refine Below.alloc ?_ ?_ _) | (with_reducible refine Below.setCell ?_ ?_ _) | (with_reducible refine below_row ?_ ?_ _) | (with_reducible refine Below.drew ?_) | (with_reducible refine below_drewN ?_ _) | (with_reducible refine Below.trans ?_ (Below.mono (by assumption) ?_)) | (first | exact Nat.le_refl _ | omega | (simp; done) | (simp; omega))))
  have HP_2 := Lib.hid (HP_1.out.after B2)
  clear HP_1
  have A2 : Below w.heap.size w w2 := A1.trans (B2.mono A1.size)
  clear A1 hb2 B2
  go_wp2
  go_ret
  exact ⟨rfl, by (repeat' (first | (with_reducible exact Below.refl _ _) | (with_reducible assumption) | (with_reducible refine Below.alloc ?_ ?_ _) | (with_reducible refine Below.setCell ?_ ?_ _) | (with_reducible refine below_row ?_ ?_ _) | (with_reducible refine Below.drew ?_) | (with_reducible refine below_drewN ?_ _) | (with_reducible refine Below.trans ?_ (Below.mono (by assumption) ?_)) | (first | exact Nat.le_refl _ | omega | (simp; done) | (simp; omega))))⟩
set_option maxHeartbeats 8000000 in
set_option maxRecDepth 100000 in
theorem shared_want1 (nom lo hi b : Int) (w : World) (he : Env w) (x0 : 0 ≤ b) (x1 : b ≤ 255) (hu : unitOf b = 1) (h : 0 ≤ nom) (h' : nom ≤ 1000000000) (hm : nom % 100 = 0) (hw : wantS lo hi = false) :
    Calls Tryd.prog 12 #[.int .i64 nom, .agg #[.int .i64 lo, .int .i64 hi], .int .u8 b] w (Trues w) := by
  have HE := Lib.hid (fun W (hW : Below w.heap.size w W) => he.after hW)
  have HS := Lib.hid (fun W => step_1 b W x0 x1 hu)
  have hb : ((nom % 100) != 0) = false := by rw [hm]; rfl
  have HW := Lib.hid (fun W => hw ▸ rWanted_any lo hi W)
  clear he hu x0 x1 hm hw
  go_enter Tryd.func12, Tryd.ntmps12
  go_wp2_with fail
  refine (alive_any _ (HE.out _ (by (repeat' (first | (with_reducible exact Below.refl _ _) | (with_reducible assumption) | (with_reducible refine Below.alloc ?_ ?_ _) | (with_reducible refine Below.setCell ?_ ?_ _) | (with_reducible refine below_row ?_ ?_ _) | (with_reducible refine Below.drew ?_) | (with_reducible refine below_drewN ?_ _) | (with_reducible refine Below.trans ?_ (Below.mono (by assumption) ?_)) | (first | exact Nat.le_refl _ | omega | (simp; done) | (simp; omega))))))).mono ?_
  rintro _ w1 ⟨rfl, hb1⟩
  have s1 := hb1.size; try simp only [World.size_alloc, World.size_setCell, World.size_drew, setRow_size] at s1
  have B1 : Below w.heap.size w w1 := by (repeat' (first | (with_reducible exact Below.refl _ _) | (with_reducible assumption) | (with_reducible refine Below.alloc ?_ ?_ _) | (with_reducible refine Below.setCell ?_ ?_ _) | (with_reducible refine below_row ?_ ?_ _) | (with_reducible refine Below.drew ?_) | (with_reducible refine below_drewN ?_ _) | (with_reducible refine Below.trans ?_ (Below.mono (by assumption) ?_)) | (first | exact Nat.le_refl _ | omega | (simp; done) | (simp; omega))))
  have HP_1 := Lib.hid (show Lies w1 _ 31 #[.int .i64 lo, .int .i64 hi] from (by first | exact (Lies.made w 31 #[.int .i64 lo, .int .i64 hi]).after hb1 | exact ((Lies.made w 31 #[.int .i64 lo, .int .i64 hi]).alloc _).after hb1 | exact (((Lies.made w 31 #[.int .i64 lo, .int .i64 hi]).alloc _).alloc _).after hb1))
  have A1 : Below w.heap.size w w1 := B1
  clear hb1 B1
  have qP0 := HP_1.out.cell 0
  have qP1 := HP_1.out.cell 1
  have zP := HP_1.out.lt
  go_wp2_with fail
  refine (HS.out _).mono ?_
  rintro _ w2 ⟨rfl, hb2⟩
  have s2 := hb2.size; try simp only [World.size_alloc, World.size_setCell, World.size_drew, setRow_size] at s2
  clear qP0 qP1 zP
  have B2 : Below w1.heap.size w1 w2 := by (repeat' (first | (with_reducible exact Below.refl _ _) | (with_reducible assumption) | (with_reducible refine Below.alloc ?_ ?_ _) | (with_reducible refine Below.setCell ?_ ?_ _) | (with_reducible refine below_row ?_ ?_ _) | (with_reducible refine Below.drew ?_) | (with_reducible refine below_drewN ?_ _) | (with_reducible refine Below.trans ?_ (Below.mono (by assumption) ?_)) | (first | exact Nat.le_refl _ | omega | (simp; done) | (simp; omega))))
  have HP_2 := Lib.hid (HP_1.out.after B2)
  clear HP_1
  have A2 : Below w.heap.size w w2 := A1.trans (B2.mono A1.size)
  clear A1 hb2 B2
  have qP0 := HP_2.out.cell 0
  have qP1 := HP_2.out.cell 1
  have zP := HP_2.out.lt
  go_wp2_with fail
  refine (HW.out _).mono ?_
  rintro _ w3 ⟨rfl, hb3⟩
  have s3 := hb3.size; try simp only [World.size_alloc, World.size_setCell, World.size_drew, setRow_size] at s3
  clear qP0 qP1 zP
  have B3 : Below w2.heap.size w2 w3 := by (repeat' (first | (with_reducible exact Below.refl _ _) | (with_reducible assumption) | (with_reducible refine Below.alloc ?_ ?_ _) | (with_reducible refine Below.setCell ?_ ?_ _) | (with_reducible refine below_row ?_ ?_ _) | (with_reducible refine Below.drew ?_) | (with_reducible refine below_drewN ?_ _) | (with_reducible refine Below.trans ?_ (Below.mono (by assumption) ?_)) | (first | exact Nat.le_refl _ | omega | (simp; done) | (simp; omega))))
  have HP_3 := Lib.hid (HP_2.out.after B3)
  clear HP_2
  have A3 : Below w.heap.size w w3 := A2.trans (B3.mono A2.size)
  clear A2 hb3 B3
  go_wp2
  go_ret
  exact ⟨rfl, by (repeat' (first | (with_reducible exact Below.refl _ _) | (with_reducible assumption) | (with_reducible refine Below.alloc ?_ ?_ _) | (with_reducible refine Below.setCell ?_ ?_ _) | (with_reducible refine below_row ?_ ?_ _) | (with_reducible refine Below.drew ?_) | (with_reducible refine below_drewN ?_ _) | (with_reducible refine Below.trans ?_ (Below.mono (by assumption) ?_)) | (first | exact Nat.le_refl _ | omega | (simp; done) | (simp; omega))))⟩
set_option maxHeartbeats 8000000 in
set_option maxRecDepth 100000 in
theorem shared_none1 (nom lo hi b : Int) (w : World) (he : Env w) (x0 : 0 ≤ b) (x1 : b ≤ 255) (hu : unitOf b = 1) (h : 0 ≤ nom) (h' : nom ≤ 1000000000) (hm : nom % 100 = 0) (hw : wantS lo hi = true) (hn : shareS 1 nom lo hi = noTwo 6) :
    Calls Tryd.prog 12 #[.int .i64 nom, .agg #[.int .i64 lo, .int .i64 hi], .int .u8 b] w (Trues w) := by
  have HE := Lib.hid (fun W (hW : Below w.heap.size w W) => he.after hW)
  have HS := Lib.hid (fun W => step_1 b W x0 x1 hu)
  have hb : ((nom % 100) != 0) = false := by rw [hm]; rfl
  have HW := Lib.hid (fun W => hw ▸ rWanted_any lo hi W)
  obtain ⟨g1, g2, g3⟩ : -1000000000 ≤ lo ∧ lo ≤ hi ∧ hi ≤ 1000000000 := by simpa [wantS] using hw
  have HH := Lib.hid (fun W => hn ▸ Share_any 1 nom lo hi W)
  clear he hu x0 x1 hm hw hn
  go_enter Tryd.func12, Tryd.ntmps12
  go_wp2_with fail
  refine (alive_any _ (HE.out _ (by (repeat' (first | (with_reducible exact Below.refl _ _) | (with_reducible assumption) | (with_reducible refine Below.alloc ?_ ?_ _) | (with_reducible refine Below.setCell ?_ ?_ _) | (with_reducible refine below_row ?_ ?_ _) | (with_reducible refine Below.drew ?_) | (with_reducible refine below_drewN ?_ _) | (with_reducible refine Below.trans ?_ (Below.mono (by assumption) ?_)) | (first | exact Nat.le_refl _ | omega | (simp; done) | (simp; omega))))))).mono ?_
  rintro _ w1 ⟨rfl, hb1⟩
  have s1 := hb1.size; try simp only [World.size_alloc, World.size_setCell, World.size_drew, setRow_size] at s1
  have B1 : Below w.heap.size w w1 := by (repeat' (first | (with_reducible exact Below.refl _ _) | (with_reducible assumption) | (with_reducible refine Below.alloc ?_ ?_ _) | (with_reducible refine Below.setCell ?_ ?_ _) | (with_reducible refine below_row ?_ ?_ _) | (with_reducible refine Below.drew ?_) | (with_reducible refine below_drewN ?_ _) | (with_reducible refine Below.trans ?_ (Below.mono (by assumption) ?_)) | (first | exact Nat.le_refl _ | omega | (simp; done) | (simp; omega))))
  have HP_1 := Lib.hid (show Lies w1 _ 31 #[.int .i64 lo, .int .i64 hi] from (by first | exact (Lies.made w 31 #[.int .i64 lo, .int .i64 hi]).after hb1 | exact ((Lies.made w 31 #[.int .i64 lo, .int .i64 hi]).alloc _).after hb1 | exact (((Lies.made w 31 #[.int .i64 lo, .int .i64 hi]).alloc _).alloc _).after hb1))
  have A1 : Below w.heap.size w w1 := B1
  clear hb1 B1
  have qP0 := HP_1.out.cell 0
  have qP1 := HP_1.out.cell 1
  have zP := HP_1.out.lt
  go_wp2_with fail
  refine (HS.out _).mono ?_
  rintro _ w2 ⟨rfl, hb2⟩
  have s2 := hb2.size; try simp only [World.size_alloc, World.size_setCell, World.size_drew, setRow_size] at s2
  clear qP0 qP1 zP
  have B2 : Below w1.heap.size w1 w2 := by (repeat' (first | (with_reducible exact Below.refl _ _) | (with_reducible assumption) | (with_reducible refine Below.alloc ?_ ?_ _) | (with_reducible refine Below.setCell ?_ ?_ _) | (with_reducible refine below_row ?_ ?_ _) | (with_reducible refine Below.drew ?_) | (with_reducible refine below_drewN ?_ _) | (with_reducible refine Below.trans ?_ (Below.mono (by assumption) ?_)) | (first | exact Nat.le_refl _ | omega | (simp; done) | (simp; omega))))
  have HP_2 := Lib.hid (HP_1.out.after B2)
  clear HP_1
  have A2 : Below w.heap.size w w2 := A1.trans (B2.mono A1.size)
  clear A1 hb2 B2
  have qP0 := HP_2.out.cell 0
  have qP1 := HP_2.out.cell 1
  have zP := HP_2.out.lt
  go_wp2_with fail
  refine (HW.out _).mono ?_
  rintro _ w3 ⟨rfl, hb3⟩
  have s3 := hb3.size; try simp only [World.size_alloc, World.size_setCell, World.size_drew, setRow_size] at s3
  clear qP0 qP1 zP
  have B3 : Below w2.heap.size w2 w3 := by (repeat' (first | (with_reducible exact Below.refl _ _) | (with_reducible assumption) | (with_reducible refine Below.alloc ?_ ?_ _) | (with_reducible refine Below.setCell ?_ ?_ _) | (with_reducible refine below_row ?_ ?_ _) | (with_reducible refine Below.drew ?_) | (with_reducible refine below_drewN ?_ _) | (with_reducible refine Below.trans ?_ (Below.mono (by assumption) ?_)) | (first | exact Nat.le_refl _ | omega | (simp; done) | (simp; omega))))
  have HP_3 := Lib.hid (HP_2.out.after B3)
  clear HP_2
  have A3 : Below w.heap.size w w3 := A2.trans (B3.mono A2.size)
  clear A2 hb3 B3
  have qP0 := HP_3.out.cell 0
  have qP1 := HP_3.out.cell 1
  have zP := HP_3.out.lt
  go_wp2_with fail
  refine (HH.out _).mono ?_
  rintro _ w4 ⟨rfl, hb4⟩
  have s4 := hb4.size; try simp only [World.size_alloc, World.size_setCell, World.size_drew, setRow_size] at s4
  clear qP0 qP1 zP
  have B4 : Below w3.heap.size w3 w4 := by (repeat' (first | (with_reducible exact Below.refl _ _) | (with_reducible assumption) | (with_reducible refine Below.alloc ?_ ?_ _) | (with_reducible refine Below.setCell ?_ ?_ _) | (with_reducible refine below_row ?_ ?_ _) | (with_reducible refine Below.drew ?_) | (with_reducible refine below_drewN ?_ _) | (with_reducible refine Below.trans ?_ (Below.mono (by assumption) ?_)) | (first | exact Nat.le_refl _ | omega | (simp; done) | (simp; omega))))
  have HP_4 := Lib.hid (HP_3.out.after B4)
  clear HP_3
  have A4 : Below w.heap.size w w4 := A3.trans (B4.mono A3.size)
  clear A3 hb4 B4
  have qP0 := HP_4.out.cell 0
  have qP1 := HP_4.out.cell 1
  have zP := HP_4.out.lt
  go_wp2
  go_ret
  exact ⟨rfl, by (repeat' (first | (with_reducible exact Below.refl _ _) | (with_reducible assumption) | (with_reducible refine Below.alloc ?_ ?_ _) | (with_reducible refine Below.setCell ?_ ?_ _) | (with_reducible refine below_row ?_ ?_ _) | (with_reducible refine Below.drew ?_) | (with_reducible refine below_drewN ?_ _) | (with_reducible refine Below.trans ?_ (Below.mono (by assumption) ?_)) | (first | exact Nat.le_refl _ | omega | (simp; done) | (simp; omega))))⟩
set_option maxHeartbeats 8000000 in
set_option maxRecDepth 100000 in
theorem shared_good1 (nom lo hi b : Int) (w : World) (he : Env w) (x0 : 0 ≤ b) (x1 : b ≤ 255) (hu : unitOf b = 1) (h : 0 ≤ nom) (h' : nom ≤ 1000000000) (hm : nom % 100 = 0) (hw : wantS lo hi = true) (p rl rh x y z : Int) (hn : shareS 1 nom lo hi = ((nom, nom, nom + p), (x, y, z), 0)) (p0 : 0 ≤ p) (p1 : p ≤ (hi - lo) / 2) (p2 : (hi - lo) / 2 < p + 100) (hok : okD nom nom (nom + p) = true) (hex : exactS 100 nom nom (nom + p) = true) (hr : roomS nom nom (nom + p) lo hi = ((nom, rl, rh), 0)) (hc : convS 1 nom rl rh = ((x, y, z), 0)) (hok2 : okD x y z = true) (hex2 : exactS 100 x y z = true) (r1 : rl ≤ y) (r2 : y ≤ z) (r3 : z ≤ rh) (r4 : nom + p - hi ≤ rl) (r5 : rh ≤ nom - lo) :
    Calls Tryd.prog 12 #[.int .i64 nom, .agg #[.int .i64 lo, .int .i64 hi], .int .u8 b] w (Trues w) := by
  have HE := Lib.hid (fun W (hW : Below w.heap.size w W) => he.after hW)
  have HS := Lib.hid (fun W => step_1 b W x0 x1 hu)
  have hb : ((nom % 100) != 0) = false := by rw [hm]; rfl
  have HW := Lib.hid (fun W => hw ▸ rWanted_any lo hi W)
  obtain ⟨g1, g2, g3⟩ : -1000000000 ≤ lo ∧ lo ≤ hi ∧ hi ≤ 1000000000 := by simpa [wantS] using hw
  have HH := Lib.hid (fun W => hn ▸ Share_any 1 nom lo hi W)
  have HF := Lib.hid (fun W => Fit_ok nom nom (nom + p) x y z W (bad2_iff.2 ⟨hok, hok2⟩))
  have HX := Lib.hid (fun W => Exact_any nom nom (nom + p) W)
  have HY := Lib.hid (fun W => Exact_any x y z W)
  have HO := Lib.hid (fun W => hr ▸ Room_any nom nom (nom + p) lo hi W)
  have HC := Lib.hid (fun W => hc ▸ Convert_any 1 nom rl rh W)
  obtain ⟨k1, k2, k3, k4, k5⟩ := okD_iff.1 hok
  obtain ⟨o1, o2, o3, o4, o5⟩ := okD_iff.1 hok2
  have e1 := exactR_of (st := 100) (un := 1) (.inl ⟨rfl, rfl⟩) hok hex
  have e2 := exactR_of (st := 100) (un := 1) (.inl ⟨rfl, rfl⟩) hok2 hex2
  have t1 : lo ≤ nom - z := by omega
  have t2 : nom + p - y ≤ hi := by omega
  have t3 : 0 ≤ nom + p - nom := by omega
  have t4 : nom + p - nom ≤ (hi - lo) / 2 := by omega
  have t5 : (hi - lo) / 2 < nom + p - nom + 100 := by omega
  have t6 : decide (nom - z < lo) = false := decide_eq_false (by omega)
  have t7 : decide (hi < nom + p - y) = false := decide_eq_false (by omega)
  have t8 : decide (0 ≤ nom + p - nom) = true := decide_eq_true t3
  have t9 : decide (nom + p - nom ≤ (hi - lo) / 2) = true := decide_eq_true t4
  have t10 : decide ((hi - lo) / 2 < nom + p - nom + 100) = true := decide_eq_true t5
  clear he hu x0 x1 hm hw hn hok hex hr hc hok2 hex2
  generalize kindS (nom - z) (nom + p - y) = K at *
  generalize exactR nom nom (nom + p) = E1 at *
  generalize exactR x y z = E2 at *
  go_enter Tryd.func12, Tryd.ntmps12
  go_wp2_with fail
  refine (alive_any _ (HE.out _ (by (repeat' (first | (with_reducible exact Below.refl _ _) | (with_reducible assumption) | (with_reducible refine Below.alloc ?_ ?_ _) | (with_reducible refine Below.setCell ?_ ?_ _) | (with_reducible refine below_row ?_ ?_ _) | (with_reducible refine Below.drew ?_) | (with_reducible refine below_drewN ?_ _) | (with_reducible refine Below.trans ?_ (Below.mono (by assumption) ?_)) | (first | exact Nat.le_refl _ | omega | (simp; done) | (simp; omega))))))).mono ?_
  rintro _ w1 ⟨rfl, hb1⟩
  have s1 := hb1.size; try simp only [World.size_alloc, World.size_setCell, World.size_drew, setRow_size] at s1
  have B1 : Below w.heap.size w w1 := by (repeat' (first | (with_reducible exact Below.refl _ _) | (with_reducible assumption) | (with_reducible refine Below.alloc ?_ ?_ _) | (with_reducible refine Below.setCell ?_ ?_ _) | (with_reducible refine below_row ?_ ?_ _) | (with_reducible refine Below.drew ?_) | (with_reducible refine below_drewN ?_ _) | (with_reducible refine Below.trans ?_ (Below.mono (by assumption) ?_)) | (first | exact Nat.le_refl _ | omega | (simp; done) | (simp; omega))))
  have HP_1 := Lib.hid (show Lies w1 _ 31 #[.int .i64 lo, .int .i64 hi] from (by first | exact (Lies.made w 31 #[.int .i64 lo, .int .i64 hi]).after hb1 | exact ((Lies.made w 31 #[.int .i64 lo, .int .i64 hi]).alloc _).after hb1 | exact (((Lies.made w 31 #[.int .i64 lo, .int .i64 hi]).alloc _).alloc _).after hb1))
  have A1 : Below w.heap.size w w1 := B1
  clear hb1 B1
  have qP0 := HP_1.out.cell 0
  have qP1 := HP_1.out.cell 1
  have zP := HP_1.out.lt
  go_wp2_with fail
  refine (HS.out _).mono ?_
  rintro _ w2 ⟨rfl, hb2⟩
  have s2 := hb2.size; try simp only [World.size_alloc, World.size_setCell, World.size_drew, setRow_size] at s2
  clear qP0 qP1 zP
  have B2 : Below w1.heap.size w1 w2 := by (repeat' (first | (with_reducible exact Below.refl _ _) | (with_reducible assumption) | (with_reducible refine Below.alloc ?_ ?_ _) | (with_reducible refine Below.setCell ?_ ?_ _) | (with_reducible refine below_row ?_ ?_ _) | (with_reducible refine Below.drew ?_) | (with_reducible refine below_drewN ?_ _) | (with_reducible refine Below.trans ?_ (Below.mono (by assumption) ?_)) | (first | exact Nat.le_refl _ | omega | (simp; done) | (simp; omega))))
  have HP_2 := Lib.hid (HP_1.out.after B2)
  clear HP_1
  have A2 : Below w.heap.size w w2 := A1.trans (B2.mono A1.size)
  clear A1 hb2 B2
  have qP0 := HP_2.out.cell 0
  have qP1 := HP_2.out.cell 1
  have zP := HP_2.out.lt
  go_wp2_with fail
  refine (HW.out _).mono ?_
  rintro _ w3 ⟨rfl, hb3⟩
  have s3 := hb3.size; try simp only [World.size_alloc, World.size_setCell, World.size_drew, setRow_size] at s3
  clear qP0 qP1 zP
  have B3 : Below w2.heap.size w2 w3 := by (repeat' (first | (with_reducible exact Below.refl _ _) | (with_reducible assumption) | (with_reducible refine Below.alloc ?_ ?_ _) | (with_reducible refine Below.setCell ?_ ?_ _) | (with_reducible refine below_row ?_ ?_ _) | (with_reducible refine Below.drew ?_) | (with_reducible refine below_drewN ?_ _) | (with_reducible refine Below.trans ?_ (Below.mono (by assumption) ?_)) | (first | exact Nat.le_refl _ | omega | (simp; done) | (simp; omega))))
  have HP_3 := Lib.hid (HP_2.out.after B3)
  clear HP_2
  have A3 : Below w.heap.size w w3 := A2.trans (B3.mono A2.size)
  clear A2 hb3 B3
  have qP0 := HP_3.out.cell 0
  have qP1 := HP_3.out.cell 1
  have zP := HP_3.out.lt
  go_wp2_with fail
  refine (HH.out _).mono ?_
  rintro _ w4 ⟨rfl, hb4⟩
  have s4 := hb4.size; try simp only [World.size_alloc, World.size_setCell, World.size_drew, setRow_size] at s4
  clear qP0 qP1 zP
  have B4 : Below w3.heap.size w3 w4 := by (repeat' (first | (with_reducible exact Below.refl _ _) | (with_reducible assumption) | (with_reducible refine Below.alloc ?_ ?_ _) | (with_reducible refine Below.setCell ?_ ?_ _) | (with_reducible refine below_row ?_ ?_ _) | (with_reducible refine Below.drew ?_) | (with_reducible refine below_drewN ?_ _) | (with_reducible refine Below.trans ?_ (Below.mono (by assumption) ?_)) | (first | exact Nat.le_refl _ | omega | (simp; done) | (simp; omega))))
  have HP_4 := Lib.hid (HP_3.out.after B4)
  clear HP_3
  have A4 : Below w.heap.size w w4 := A3.trans (B4.mono A3.size)
  clear A3 hb4 B4
  have qP0 := HP_4.out.cell 0
  have qP1 := HP_4.out.cell 1
  have zP := HP_4.out.lt
  go_wp2_with fail
  refine (HF.out _).mono ?_
  rintro _ w5 ⟨rfl, hb5⟩
  have s5 := hb5.size; try simp only [World.size_alloc, World.size_setCell, World.size_drew, setRow_size] at s5
  clear qP0 qP1 zP
  have B5 : Below w4.heap.size w4 w5 := by (repeat' (first | (with_reducible exact Below.refl _ _) | (with_reducible assumption) | (with_reducible refine Below.alloc ?_ ?_ _) | (with_reducible refine Below.setCell ?_ ?_ _) | (with_reducible refine below_row ?_ ?_ _) | (with_reducible refine Below.drew ?_) | (with_reducible refine below_drewN ?_ _) | (with_reducible refine Below.trans ?_ (Below.mono (by assumption) ?_)) | (first | exact Nat.le_refl _ | omega | (simp; done) | (simp; omega))))
  have HP_5 := Lib.hid (HP_4.out.after B5)
  have HX_5 := Lib.hid (show Lies w5 _ 28 #[.int .i64 nom, .int .i64 nom, .int .i64 (nom + p)] from (by first | exact (Lies.made w4 28 #[.int .i64 nom, .int .i64 nom, .int .i64 (nom + p)]).after hb5 | exact ((Lies.made w4 28 #[.int .i64 nom, .int .i64 nom, .int .i64 (nom + p)]).alloc _).after hb5 | exact (((Lies.made w4 28 #[.int .i64 nom, .int .i64 nom, .int .i64 (nom + p)]).alloc _).alloc _).after hb5))
  have HY_5 := Lib.hid (show Lies w5 _ 28 #[.int .i64 x, .int .i64 y, .int .i64 z] from (by first | exact (Lies.made (w4.alloc (.cells #[.int .i64 nom, .int .i64 nom, .int .i64 (nom + p)] 28)) 28 #[.int .i64 x, .int .i64 y, .int .i64 z]).after hb5 | exact ((Lies.made (w4.alloc (.cells #[.int .i64 nom, .int .i64 nom, .int .i64 (nom + p)] 28)) 28 #[.int .i64 x, .int .i64 y, .int .i64 z]).alloc _).after hb5 | exact (((Lies.made (w4.alloc (.cells #[.int .i64 nom, .int .i64 nom, .int .i64 (nom + p)] 28)) 28 #[.int .i64 x, .int .i64 y, .int .i64 z]).alloc _).alloc _).after hb5))
  clear HP_4
  have A5 : Below w.heap.size w w5 := A4.trans (B5.mono A4.size)
  clear A4 hb5 B5
  simp only [World.size_alloc] at HY_5
  have qP0 := HP_5.out.cell 0
  have qP1 := HP_5.out.cell 1
  have zP := HP_5.out.lt
  have qX0 := HX_5.out.cell 0
  have qX1 := HX_5.out.cell 1
  have qX2 := HX_5.out.cell 2
  have zX := HX_5.out.lt
  have qY0 := HY_5.out.cell 0
  have qY1 := HY_5.out.cell 1
  have qY2 := HY_5.out.cell 2
  have zY := HY_5.out.lt
  go_wp2_with fail
  refine (HX.out _).mono ?_
  rintro _ w6 ⟨rfl, hb6⟩
  have s6 := hb6.size; try simp only [World.size_alloc, World.size_setCell, World.size_drew, setRow_size] at s6
  clear qP0 qP1 zP qX0 qX1 qX2 zX qY0 qY1 qY2 zY
  have B6 : Below w5.heap.size w5 w6 := by (repeat' (first | (with_reducible exact Below.refl _ _) | (with_reducible assumption) | (with_reducible refine Below.alloc ?_ ?_ _) | (with_reducible refine Below.setCell ?_ ?_ _) | (with_reducible refine below_row ?_ ?_ _) | (with_reducible refine Below.drew ?_) | (with_reducible refine below_drewN ?_ _) | (with_reducible refine Below.trans ?_ (Below.mono (by assumption) ?_)) | (first | exact Nat.le_refl _ | omega | (simp; done) | (simp; omega))))
  have HP_6 := Lib.hid (HP_5.out.after B6)
  have HX_6 := Lib.hid (HX_5.out.after B6)
  have HY_6 := Lib.hid (HY_5.out.after B6)
  have HS_6 := Lib.hid (show Lies w6 _ 31 #[.int .i64 (nom - z), .int .i64 (nom + p - y)] from (by first | exact (Lies.made w5 31 #[.int .i64 (nom - z), .int .i64 (nom + p - y)]).after hb6 | exact ((Lies.made w5 31 #[.int .i64 (nom - z), .int .i64 (nom + p - y)]).alloc _).after hb6 | exact (((Lies.made w5 31 #[.int .i64 (nom - z), .int .i64 (nom + p - y)]).alloc _).alloc _).after hb6))
  clear HP_5 HX_5 HY_5
  have A6 : Below w.heap.size w w6 := A5.trans (B6.mono A5.size)
  clear A5 hb6 B6
  have qP0 := HP_6.out.cell 0
  have qP1 := HP_6.out.cell 1
  have zP := HP_6.out.lt
  have qX0 := HX_6.out.cell 0
  have qX1 := HX_6.out.cell 1
  have qX2 := HX_6.out.cell 2
  have zX := HX_6.out.lt
  have qY0 := HY_6.out.cell 0
  have qY1 := HY_6.out.cell 1
  have qY2 := HY_6.out.cell 2
  have zY := HY_6.out.lt
  have qS0 := HS_6.out.cell 0
  have qS1 := HS_6.out.cell 1
  have zS := HS_6.out.lt
  go_wp2_with fail
  refine (HY.out _).mono ?_
  rintro _ w7 ⟨rfl, hb7⟩
  have s7 := hb7.size; try simp only [World.size_alloc, World.size_setCell, World.size_drew, setRow_size] at s7
  clear qP0 qP1 zP qX0 qX1 qX2 zX qY0 qY1 qY2 zY qS0 qS1 zS
  have B7 : Below w6.heap.size w6 w7 := by (repeat' (first | (with_reducible exact Below.refl _ _) | (with_reducible assumption) | (with_reducible refine Below.alloc ?_ ?_ _) | (with_reducible refine Below.setCell ?_ ?_ _) | (with_reducible refine below_row ?_ ?_ _) | (with_reducible refine Below.drew ?_) | (with_reducible refine below_drewN ?_ _) | (with_reducible refine Below.trans ?_ (Below.mono (by assumption) ?_)) | (first | exact Nat.le_refl _ | omega | (simp; done) | (simp; omega))))
  have HP_7 := Lib.hid (HP_6.out.after B7)
  have HX_7 := Lib.hid (HX_6.out.after B7)
  have HY_7 := Lib.hid (HY_6.out.after B7)
  have HS_7 := Lib.hid (HS_6.out.after B7)
  clear HP_6 HX_6 HY_6 HS_6
  have A7 : Below w.heap.size w w7 := A6.trans (B7.mono A6.size)
  clear A6 hb7 B7
  have qP0 := HP_7.out.cell 0
  have qP1 := HP_7.out.cell 1
  have zP := HP_7.out.lt
  have qX0 := HX_7.out.cell 0
  have qX1 := HX_7.out.cell 1
  have qX2 := HX_7.out.cell 2
  have zX := HX_7.out.lt
  have qY0 := HY_7.out.cell 0
  have qY1 := HY_7.out.cell 1
  have qY2 := HY_7.out.cell 2
  have zY := HY_7.out.lt
  have qS0 := HS_7.out.cell 0
  have qS1 := HS_7.out.cell 1
  have zS := HS_7.out.lt
  go_wp2_with fail
  refine (HO.out _).mono ?_
  rintro _ w8 ⟨rfl, hb8⟩
  have s8 := hb8.size; try simp only [World.size_alloc, World.size_setCell, World.size_drew, setRow_size] at s8
  clear qP0 qP1 zP qX0 qX1 qX2 zX qY0 qY1 qY2 zY qS0 qS1 zS
  have B8 : Below w7.heap.size w7 w8 := by (repeat' (first | (with_reducible exact Below.refl _ _) | (with_reducible assumption) | (with_reducible refine Below.alloc ?_ ?_ _) | (with_reducible refine Below.setCell ?_ ?_ _) | (with_reducible refine below_row ?_ ?_ _) | (with_reducible refine Below.drew ?_) | (with_reducible refine below_drewN ?_ _) | (with_reducible refine Below.trans ?_ (Below.mono (by assumption) ?_)) | (first | exact Nat.le_refl _ | omega | (simp; done) | (simp; omega))))
  have HP_8 := Lib.hid (HP_7.out.after B8)
  have HX_8 := Lib.hid (HX_7.out.after B8)
  have HY_8 := Lib.hid (HY_7.out.after B8)
  have HS_8 := Lib.hid (HS_7.out.after B8)
  clear HP_7 HX_7 HY_7 HS_7
  have A8 : Below w.heap.size w w8 := A7.trans (B8.mono A7.size)
  clear A7 hb8 B8
  rcases e1 with rfl | rfl <;> rcases e2 with rfl | rfl
  all_goals
    have qP0 := HP_8.out.cell 0
    have qP1 := HP_8.out.cell 1
    have zP := HP_8.out.lt
    have qX0 := HX_8.out.cell 0
    have qX1 := HX_8.out.cell 1
    have qX2 := HX_8.out.cell 2
    have zX := HX_8.out.lt
    have qY0 := HY_8.out.cell 0
    have qY1 := HY_8.out.cell 1
    have qY2 := HY_8.out.cell 2
    have zY := HY_8.out.lt
    have qS0 := HS_8.out.cell 0
    have qS1 := HS_8.out.cell 1
    have zS := HS_8.out.lt
    go_wp2_with fail
    refine (HC.out _).mono ?_
    rintro _ w9 ⟨rfl, hb9⟩
    have s9 := hb9.size; try simp only [World.size_alloc, World.size_setCell, World.size_drew, setRow_size] at s9
    clear qP0 qP1 zP qX0 qX1 qX2 zX qY0 qY1 qY2 zY qS0 qS1 zS
    have B9 : Below w8.heap.size w8 w9 := by (repeat' (first | (with_reducible exact Below.refl _ _) | (with_reducible assumption) | (with_reducible refine Below.alloc ?_ ?_ _) | (with_reducible refine Below.setCell ?_ ?_ _) | (with_reducible refine below_row ?_ ?_ _) | (with_reducible refine Below.drew ?_) | (with_reducible refine below_drewN ?_ _) | (with_reducible refine Below.trans ?_ (Below.mono (by assumption) ?_)) | (first | exact Nat.le_refl _ | omega | (simp; done) | (simp; omega))))
    have HP_9 := Lib.hid (HP_8.out.after B9)
    have HX_9 := Lib.hid (HX_8.out.after B9)
    have HY_9 := Lib.hid (HY_8.out.after B9)
    have HS_9 := Lib.hid (HS_8.out.after B9)
    have HZ_9 := Lib.hid (show Lies w9 _ 28 #[.int .i64 nom, .int .i64 rl, .int .i64 rh] from (by first | exact (Lies.made w8 28 #[.int .i64 nom, .int .i64 rl, .int .i64 rh]).after hb9 | exact ((Lies.made w8 28 #[.int .i64 nom, .int .i64 rl, .int .i64 rh]).alloc _).after hb9 | exact (((Lies.made w8 28 #[.int .i64 nom, .int .i64 rl, .int .i64 rh]).alloc _).alloc _).after hb9))
    clear HP_8 HX_8 HY_8 HS_8
    have A9 : Below w.heap.size w w9 := A8.trans (B9.mono A8.size)
    clear A8 hb9 B9
    have qP0 := HP_9.out.cell 0
    have qP1 := HP_9.out.cell 1
    have qX0 := HX_9.out.cell 0
    have qX1 := HX_9.out.cell 1
    have qX2 := HX_9.out.cell 2
    have qY0 := HY_9.out.cell 0
    have qY1 := HY_9.out.cell 1
    have qY2 := HY_9.out.cell 2
    have qS0 := HS_9.out.cell 0
    have qS1 := HS_9.out.cell 1
    have qZ0 := HZ_9.out.cell 0
    have qZ1 := HZ_9.out.cell 1
    have qZ2 := HZ_9.out.cell 2
    have zP := HP_9.out.lt
    have zX := HX_9.out.lt
    have zY := HY_9.out.lt
    have zS := HS_9.out.lt
    have zZ := HZ_9.out.lt
    go_wp2
    go_ret
    exact ⟨rfl, by (repeat' (first | (with_reducible exact Below.refl _ _) | (with_reducible assumption) | (with_reducible refine Below.alloc ?_ ?_ _) | (with_reducible refine Below.setCell ?_ ?_ _) | (with_reducible refine below_row ?_ ?_ _) | (with_reducible refine Below.drew ?_) | (with_reducible refine below_drewN ?_ _) | (with_reducible refine Below.trans ?_ (Below.mono (by assumption) ?_)) | (first | exact Nat.le_refl _ | omega | (simp; done) | (simp; omega))))⟩
set_option maxHeartbeats 8000000 in
set_option maxRecDepth 100000 in
theorem shared_low2 (nom lo hi b : Int) (w : World) (he : Env w) (x0 : 0 ≤ b) (x1 : b ≤ 255) (hu : unitOf b = 2) (h : nom < 0) :
    Calls Tryd.prog 12 #[.int .i64 nom, .agg #[.int .i64 lo, .int .i64 hi], .int .u8 b] w (Trues w) := by
  have HE := Lib.hid (fun W (hW : Below w.heap.size w W) => he.after hW)
  have HS := Lib.hid (fun W => step_2 b W x0 x1 hu)
  clear he hu x0 x1
  go_enter Tryd.func12, Tryd.ntmps12
  go_wp2_with fail
  refine (alive_any _ (HE.out _ (by (repeat' (first | (with_reducible exact Below.refl _ _) | (with_reducible assumption) | (with_reducible refine Below.alloc ?_ ?_ _) | (with_reducible refine Below.setCell ?_ ?_ _) | (with_reducible refine below_row ?_ ?_ _) | (with_reducible refine Below.drew ?_) | (with_reducible refine below_drewN ?_ _) | (with_reducible refine Below.trans ?_ (Below.mono (by assumption) ?_)) | (first | exact Nat.le_refl _ | omega | (simp; done) | (simp; omega))))))).mono ?_
  rintro _ w1 ⟨rfl, hb1⟩
  have s1 := hb1.size; try simp only [World.size_alloc, World.size_setCell, World.size_drew, setRow_size] at s1
  have B1 : Below w.heap.size w w1 := by (repeat' (first | (with_reducible exact Below.refl _ _) | (with_reducible assumption) | (with_reducible refine Below.alloc ?_ ?_ _) | (with_reducible refine Below.setCell ?_ ?_ _) | (with_reducible refine below_row ?_ ?_ _) | (with_reducible refine Below.drew ?_) | (with_reducible refine below_drewN ?_ _) | (with_reducible refine Below.trans ?_ (Below.mono (by assumption) ?_)) | (first | exact Nat.le_refl _ | omega | (simp; done) | (simp; omega))))
  have HP_1 := Lib.hid (show Lies w1 _ 31 #[.int .i64 lo, .int .i64 hi] from (by first | exact (Lies.made w 31 #[.int .i64 lo, .int .i64 hi]).after hb1 | exact ((Lies.made w 31 #[.int .i64 lo, .int .i64 hi]).alloc _).after hb1 | exact (((Lies.made w 31 #[.int .i64 lo, .int .i64 hi]).alloc _).alloc _).after hb1))
  have A1 : Below w.heap.size w w1 := B1
  clear hb1 B1
  have qP0 := HP_1.out.cell 0
  have qP1 := HP_1.out.cell 1
  have zP := HP_1.out.lt
  go_wp2_with fail
  refine (HS.out _).mono ?_
  rintro _ w2 ⟨rfl, hb2⟩
  have s2 := hb2.size; try simp only [World.size_alloc, World.size_setCell, World.size_drew, setRow_size] at s2
  clear qP0 qP1 zP
  have B2 : Below w1.heap.size w1 w2 := by (repeat' (first | (with_reducible exact Below.refl _ _) | (with_reducible assumption) | (with_reducible refine Below.alloc ?_ ?_ _) | (with_reducible refine Below.setCell ?_ ?_ _) | (with_reducible refine below_row ?_ ?_ _) | (with_reducible refine Below.drew ?_) | (with_reducible refine below_drewN ?_ _) | (with_reducible refine Below.trans ?_ (Below.mono (by assumption) ?_)) | (first | exact Nat.le_refl _ | omega | (simp; done) | (simp; omega))))
  have HP_2 := Lib.hid (HP_1.out.after B2)
  clear HP_1
  have A2 : Below w.heap.size w w2 := A1.trans (B2.mono A1.size)
  clear A1 hb2 B2
  go_wp2
  go_ret
  exact ⟨rfl, by (repeat' (first | (with_reducible exact Below.refl _ _) | (with_reducible assumption) | (with_reducible refine Below.alloc ?_ ?_ _) | (with_reducible refine Below.setCell ?_ ?_ _) | (with_reducible refine below_row ?_ ?_ _) | (with_reducible refine Below.drew ?_) | (with_reducible refine below_drewN ?_ _) | (with_reducible refine Below.trans ?_ (Below.mono (by assumption) ?_)) | (first | exact Nat.le_refl _ | omega | (simp; done) | (simp; omega))))⟩
set_option maxHeartbeats 8000000 in
set_option maxRecDepth 100000 in
theorem shared_high2 (nom lo hi b : Int) (w : World) (he : Env w) (x0 : 0 ≤ b) (x1 : b ≤ 255) (hu : unitOf b = 2) (h : 1000000000 < nom) :
    Calls Tryd.prog 12 #[.int .i64 nom, .agg #[.int .i64 lo, .int .i64 hi], .int .u8 b] w (Trues w) := by
  have HE := Lib.hid (fun W (hW : Below w.heap.size w W) => he.after hW)
  have HS := Lib.hid (fun W => step_2 b W x0 x1 hu)
  have h' : 0 ≤ nom := by omega
  clear he hu x0 x1
  go_enter Tryd.func12, Tryd.ntmps12
  go_wp2_with fail
  refine (alive_any _ (HE.out _ (by (repeat' (first | (with_reducible exact Below.refl _ _) | (with_reducible assumption) | (with_reducible refine Below.alloc ?_ ?_ _) | (with_reducible refine Below.setCell ?_ ?_ _) | (with_reducible refine below_row ?_ ?_ _) | (with_reducible refine Below.drew ?_) | (with_reducible refine below_drewN ?_ _) | (with_reducible refine Below.trans ?_ (Below.mono (by assumption) ?_)) | (first | exact Nat.le_refl _ | omega | (simp; done) | (simp; omega))))))).mono ?_
  rintro _ w1 ⟨rfl, hb1⟩
  have s1 := hb1.size; try simp only [World.size_alloc, World.size_setCell, World.size_drew, setRow_size] at s1
  have B1 : Below w.heap.size w w1 := by (repeat' (first | (with_reducible exact Below.refl _ _) | (with_reducible assumption) | (with_reducible refine Below.alloc ?_ ?_ _) | (with_reducible refine Below.setCell ?_ ?_ _) | (with_reducible refine below_row ?_ ?_ _) | (with_reducible refine Below.drew ?_) | (with_reducible refine below_drewN ?_ _) | (with_reducible refine Below.trans ?_ (Below.mono (by assumption) ?_)) | (first | exact Nat.le_refl _ | omega | (simp; done) | (simp; omega))))
  have HP_1 := Lib.hid (show Lies w1 _ 31 #[.int .i64 lo, .int .i64 hi] from (by first | exact (Lies.made w 31 #[.int .i64 lo, .int .i64 hi]).after hb1 | exact ((Lies.made w 31 #[.int .i64 lo, .int .i64 hi]).alloc _).after hb1 | exact (((Lies.made w 31 #[.int .i64 lo, .int .i64 hi]).alloc _).alloc _).after hb1))
  have A1 : Below w.heap.size w w1 := B1
  clear hb1 B1
  have qP0 := HP_1.out.cell 0
  have qP1 := HP_1.out.cell 1
  have zP := HP_1.out.lt
  go_wp2_with fail
  refine (HS.out _).mono ?_
  rintro _ w2 ⟨rfl, hb2⟩
  have s2 := hb2.size; try simp only [World.size_alloc, World.size_setCell, World.size_drew, setRow_size] at s2
  clear qP0 qP1 zP
  have B2 : Below w1.heap.size w1 w2 := by (repeat' (first | (with_reducible exact Below.refl _ _) | (with_reducible assumption) | (with_reducible refine Below.alloc ?_ ?_ _) | (with_reducible refine Below.setCell ?_ ?_ _) | (with_reducible refine below_row ?_ ?_ _) | (with_reducible refine Below.drew ?_) | (with_reducible refine below_drewN ?_ _) | (with_reducible refine Below.trans ?_ (Below.mono (by assumption) ?_)) | (first | exact Nat.le_refl _ | omega | (simp; done) | (simp; omega))))
  have HP_2 := Lib.hid (HP_1.out.after B2)
  clear HP_1
  have A2 : Below w.heap.size w w2 := A1.trans (B2.mono A1.size)
  clear A1 hb2 B2
  go_wp2
  go_ret
  exact ⟨rfl, by (repeat' (first | (with_reducible exact Below.refl _ _) | (with_reducible assumption) | (with_reducible refine Below.alloc ?_ ?_ _) | (with_reducible refine Below.setCell ?_ ?_ _) | (with_reducible refine below_row ?_ ?_ _) | (with_reducible refine Below.drew ?_) | (with_reducible refine below_drewN ?_ _) | (with_reducible refine Below.trans ?_ (Below.mono (by assumption) ?_)) | (first | exact Nat.le_refl _ | omega | (simp; done) | (simp; omega))))⟩
set_option maxHeartbeats 8000000 in
set_option maxRecDepth 100000 in
theorem shared_odd2 (nom lo hi b : Int) (w : World) (he : Env w) (x0 : 0 ≤ b) (x1 : b ≤ 255) (hu : unitOf b = 2) (h : 0 ≤ nom) (h' : nom ≤ 1000000000) (hm : ¬ nom % 254 = 0) :
    Calls Tryd.prog 12 #[.int .i64 nom, .agg #[.int .i64 lo, .int .i64 hi], .int .u8 b] w (Trues w) := by
  have HE := Lib.hid (fun W (hW : Below w.heap.size w W) => he.after hW)
  have HS := Lib.hid (fun W => step_2 b W x0 x1 hu)
  have hb : ((nom % 254) != 0) = true := by rw [bne_iff_ne]; exact hm
  clear he hu x0 x1 hm
  go_enter Tryd.func12, Tryd.ntmps12
  go_wp2_with fail
  refine (alive_any _ (HE.out _ (by (repeat' (first | (with_reducible exact Below.refl _ _) | (with_reducible assumption) | (with_reducible refine Below.alloc ?_ ?_ _) | (with_reducible refine Below.setCell ?_ ?_ _) | (with_reducible refine below_row ?_ ?_ _) | (with_reducible refine Below.drew ?_) | (with_reducible refine below_drewN ?_ _) | (with_reducible refine Below.trans ?_ (Below.mono (by assumption) ?_)) | (first | exact Nat.le_refl _ | omega | (simp; done) | (simp; omega))))))).mono ?_
  rintro _ w1 ⟨rfl, hb1⟩
  have s1 := hb1.size; try simp only [World.size_alloc, World.size_setCell, World.size_drew, setRow_size] at s1
  have B1 : Below w.heap.size w w1 := by (repeat' (first | (with_reducible exact Below.refl _ _) | (with_reducible assumption) | (with_reducible refine Below.alloc ?_ ?_ _) | (with_reducible refine Below.setCell ?_ ?_ _) | (with_reducible refine below_row ?_ ?_ _) | (with_reducible refine Below.drew ?_) | (with_reducible refine below_drewN ?_ _) | (with_reducible refine Below.trans ?_ (Below.mono (by assumption) ?_)) | (first | exact Nat.le_refl _ | omega | (simp; done) | (simp; omega))))
  have HP_1 := Lib.hid (show Lies w1 _ 31 #[.int .i64 lo, .int .i64 hi] from (by first | exact (Lies.made w 31 #[.int .i64 lo, .int .i64 hi]).after hb1 | exact ((Lies.made w 31 #[.int .i64 lo, .int .i64 hi]).alloc _).after hb1 | exact (((Lies.made w 31 #[.int .i64 lo, .int .i64 hi]).alloc _).alloc _).after hb1))
  have A1 : Below w.heap.size w w1 := B1
  clear hb1 B1
  have qP0 := HP_1.out.cell 0
  have qP1 := HP_1.out.cell 1
  have zP := HP_1.out.lt
  go_wp2_with fail
  refine (HS.out _).mono ?_
  rintro _ w2 ⟨rfl, hb2⟩
  have s2 := hb2.size; try simp only [World.size_alloc, World.size_setCell, World.size_drew, setRow_size] at s2
  clear qP0 qP1 zP
  have B2 : Below w1.heap.size w1 w2 := by (repeat' (first | (with_reducible exact Below.refl _ _) | (with_reducible assumption) | (with_reducible refine Below.alloc ?_ ?_ _) | (with_reducible refine Below.setCell ?_ ?_ _) | (with_reducible refine below_row ?_ ?_ _) | (with_reducible refine Below.drew ?_) | (with_reducible refine below_drewN ?_ _) | (with_reducible refine Below.trans ?_ (Below.mono (by assumption) ?_)) | (first | exact Nat.le_refl _ | omega | (simp; done) | (simp; omega))))
  have HP_2 := Lib.hid (HP_1.out.after B2)
  clear HP_1
  have A2 : Below w.heap.size w w2 := A1.trans (B2.mono A1.size)
  clear A1 hb2 B2
  go_wp2
  go_ret
  exact ⟨rfl, by (repeat' (first | (with_reducible exact Below.refl _ _) | (with_reducible assumption) | (with_reducible refine Below.alloc ?_ ?_ _) | (with_reducible refine Below.setCell ?_ ?_ _) | (with_reducible refine below_row ?_ ?_ _) | (with_reducible refine Below.drew ?_) | (with_reducible refine below_drewN ?_ _) | (with_reducible refine Below.trans ?_ (Below.mono (by assumption) ?_)) | (first | exact Nat.le_refl _ | omega | (simp; done) | (simp; omega))))⟩
set_option maxHeartbeats 8000000 in
set_option maxRecDepth 100000 in
theorem shared_want2 (nom lo hi b : Int) (w : World) (he : Env w) (x0 : 0 ≤ b) (x1 : b ≤ 255) (hu : unitOf b = 2) (h : 0 ≤ nom) (h' : nom ≤ 1000000000) (hm : nom % 254 = 0) (hw : wantS lo hi = false) :
    Calls Tryd.prog 12 #[.int .i64 nom, .agg #[.int .i64 lo, .int .i64 hi], .int .u8 b] w (Trues w) := by
  have HE := Lib.hid (fun W (hW : Below w.heap.size w W) => he.after hW)
  have HS := Lib.hid (fun W => step_2 b W x0 x1 hu)
  have hb : ((nom % 254) != 0) = false := by rw [hm]; rfl
  have HW := Lib.hid (fun W => hw ▸ rWanted_any lo hi W)
  clear he hu x0 x1 hm hw
  go_enter Tryd.func12, Tryd.ntmps12
  go_wp2_with fail
  refine (alive_any _ (HE.out _ (by (repeat' (first | (with_reducible exact Below.refl _ _) | (with_reducible assumption) | (with_reducible refine Below.alloc ?_ ?_ _) | (with_reducible refine Below.setCell ?_ ?_ _) | (with_reducible refine below_row ?_ ?_ _) | (with_reducible refine Below.drew ?_) | (with_reducible refine below_drewN ?_ _) | (with_reducible refine Below.trans ?_ (Below.mono (by assumption) ?_)) | (first | exact Nat.le_refl _ | omega | (simp; done) | (simp; omega))))))).mono ?_
  rintro _ w1 ⟨rfl, hb1⟩
  have s1 := hb1.size; try simp only [World.size_alloc, World.size_setCell, World.size_drew, setRow_size] at s1
  have B1 : Below w.heap.size w w1 := by (repeat' (first | (with_reducible exact Below.refl _ _) | (with_reducible assumption) | (with_reducible refine Below.alloc ?_ ?_ _) | (with_reducible refine Below.setCell ?_ ?_ _) | (with_reducible refine below_row ?_ ?_ _) | (with_reducible refine Below.drew ?_) | (with_reducible refine below_drewN ?_ _) | (with_reducible refine Below.trans ?_ (Below.mono (by assumption) ?_)) | (first | exact Nat.le_refl _ | omega | (simp; done) | (simp; omega))))
  have HP_1 := Lib.hid (show Lies w1 _ 31 #[.int .i64 lo, .int .i64 hi] from (by first | exact (Lies.made w 31 #[.int .i64 lo, .int .i64 hi]).after hb1 | exact ((Lies.made w 31 #[.int .i64 lo, .int .i64 hi]).alloc _).after hb1 | exact (((Lies.made w 31 #[.int .i64 lo, .int .i64 hi]).alloc _).alloc _).after hb1))
  have A1 : Below w.heap.size w w1 := B1
  clear hb1 B1
  have qP0 := HP_1.out.cell 0
  have qP1 := HP_1.out.cell 1
  have zP := HP_1.out.lt
  go_wp2_with fail
  refine (HS.out _).mono ?_
  rintro _ w2 ⟨rfl, hb2⟩
  have s2 := hb2.size; try simp only [World.size_alloc, World.size_setCell, World.size_drew, setRow_size] at s2
  clear qP0 qP1 zP
  have B2 : Below w1.heap.size w1 w2 := by (repeat' (first | (with_reducible exact Below.refl _ _) | (with_reducible assumption) | (with_reducible refine Below.alloc ?_ ?_ _) | (with_reducible refine Below.setCell ?_ ?_ _) | (with_reducible refine below_row ?_ ?_ _) | (with_reducible refine Below.drew ?_) | (with_reducible refine below_drewN ?_ _) | (with_reducible refine Below.trans ?_ (Below.mono (by assumption) ?_)) | (first | exact Nat.le_refl _ | omega | (simp; done) | (simp; omega))))
  have HP_2 := Lib.hid (HP_1.out.after B2)
  clear HP_1
  have A2 : Below w.heap.size w w2 := A1.trans (B2.mono A1.size)
  clear A1 hb2 B2
  have qP0 := HP_2.out.cell 0
  have qP1 := HP_2.out.cell 1
  have zP := HP_2.out.lt
  go_wp2_with fail
  refine (HW.out _).mono ?_
  rintro _ w3 ⟨rfl, hb3⟩
  have s3 := hb3.size; try simp only [World.size_alloc, World.size_setCell, World.size_drew, setRow_size] at s3
  clear qP0 qP1 zP
  have B3 : Below w2.heap.size w2 w3 := by (repeat' (first | (with_reducible exact Below.refl _ _) | (with_reducible assumption) | (with_reducible refine Below.alloc ?_ ?_ _) | (with_reducible refine Below.setCell ?_ ?_ _) | (with_reducible refine below_row ?_ ?_ _) | (with_reducible refine Below.drew ?_) | (with_reducible refine below_drewN ?_ _) | (with_reducible refine Below.trans ?_ (Below.mono (by assumption) ?_)) | (first | exact Nat.le_refl _ | omega | (simp; done) | (simp; omega))))
  have HP_3 := Lib.hid (HP_2.out.after B3)
  clear HP_2
  have A3 : Below w.heap.size w w3 := A2.trans (B3.mono A2.size)
  clear A2 hb3 B3
  go_wp2
  go_ret
  exact ⟨rfl, by (repeat' (first | (with_reducible exact Below.refl _ _) | (with_reducible assumption) | (with_reducible refine Below.alloc ?_ ?_ _) | (with_reducible refine Below.setCell ?_ ?_ _) | (with_reducible refine below_row ?_ ?_ _) | (with_reducible refine Below.drew ?_) | (with_reducible refine below_drewN ?_ _) | (with_reducible refine Below.trans ?_ (Below.mono (by assumption) ?_)) | (first | exact Nat.le_refl _ | omega | (simp; done) | (simp; omega))))⟩
set_option maxHeartbeats 8000000 in
set_option maxRecDepth 100000 in
theorem shared_none2 (nom lo hi b : Int) (w : World) (he : Env w) (x0 : 0 ≤ b) (x1 : b ≤ 255) (hu : unitOf b = 2) (h : 0 ≤ nom) (h' : nom ≤ 1000000000) (hm : nom % 254 = 0) (hw : wantS lo hi = true) (hn : shareS 2 nom lo hi = noTwo 6) :
    Calls Tryd.prog 12 #[.int .i64 nom, .agg #[.int .i64 lo, .int .i64 hi], .int .u8 b] w (Trues w) := by
  have HE := Lib.hid (fun W (hW : Below w.heap.size w W) => he.after hW)
  have HS := Lib.hid (fun W => step_2 b W x0 x1 hu)
  have hb : ((nom % 254) != 0) = false := by rw [hm]; rfl
  have HW := Lib.hid (fun W => hw ▸ rWanted_any lo hi W)
  obtain ⟨g1, g2, g3⟩ : -1000000000 ≤ lo ∧ lo ≤ hi ∧ hi ≤ 1000000000 := by simpa [wantS] using hw
  have HH := Lib.hid (fun W => hn ▸ Share_any 2 nom lo hi W)
  clear he hu x0 x1 hm hw hn
  go_enter Tryd.func12, Tryd.ntmps12
  go_wp2_with fail
  refine (alive_any _ (HE.out _ (by (repeat' (first | (with_reducible exact Below.refl _ _) | (with_reducible assumption) | (with_reducible refine Below.alloc ?_ ?_ _) | (with_reducible refine Below.setCell ?_ ?_ _) | (with_reducible refine below_row ?_ ?_ _) | (with_reducible refine Below.drew ?_) | (with_reducible refine below_drewN ?_ _) | (with_reducible refine Below.trans ?_ (Below.mono (by assumption) ?_)) | (first | exact Nat.le_refl _ | omega | (simp; done) | (simp; omega))))))).mono ?_
  rintro _ w1 ⟨rfl, hb1⟩
  have s1 := hb1.size; try simp only [World.size_alloc, World.size_setCell, World.size_drew, setRow_size] at s1
  have B1 : Below w.heap.size w w1 := by (repeat' (first | (with_reducible exact Below.refl _ _) | (with_reducible assumption) | (with_reducible refine Below.alloc ?_ ?_ _) | (with_reducible refine Below.setCell ?_ ?_ _) | (with_reducible refine below_row ?_ ?_ _) | (with_reducible refine Below.drew ?_) | (with_reducible refine below_drewN ?_ _) | (with_reducible refine Below.trans ?_ (Below.mono (by assumption) ?_)) | (first | exact Nat.le_refl _ | omega | (simp; done) | (simp; omega))))
  have HP_1 := Lib.hid (show Lies w1 _ 31 #[.int .i64 lo, .int .i64 hi] from (by first | exact (Lies.made w 31 #[.int .i64 lo, .int .i64 hi]).after hb1 | exact ((Lies.made w 31 #[.int .i64 lo, .int .i64 hi]).alloc _).after hb1 | exact (((Lies.made w 31 #[.int .i64 lo, .int .i64 hi]).alloc _).alloc _).after hb1))
  have A1 : Below w.heap.size w w1 := B1
  clear hb1 B1
  have qP0 := HP_1.out.cell 0
  have qP1 := HP_1.out.cell 1
  have zP := HP_1.out.lt
  go_wp2_with fail
  refine (HS.out _).mono ?_
  rintro _ w2 ⟨rfl, hb2⟩
  have s2 := hb2.size; try simp only [World.size_alloc, World.size_setCell, World.size_drew, setRow_size] at s2
  clear qP0 qP1 zP
  have B2 : Below w1.heap.size w1 w2 := by (repeat' (first | (with_reducible exact Below.refl _ _) | (with_reducible assumption) | (with_reducible refine Below.alloc ?_ ?_ _) | (with_reducible refine Below.setCell ?_ ?_ _) | (with_reducible refine below_row ?_ ?_ _) | (with_reducible refine Below.drew ?_) | (with_reducible refine below_drewN ?_ _) | (with_reducible refine Below.trans ?_ (Below.mono (by assumption) ?_)) | (first | exact Nat.le_refl _ | omega | (simp; done) | (simp; omega))))
  have HP_2 := Lib.hid (HP_1.out.after B2)
  clear HP_1
  have A2 : Below w.heap.size w w2 := A1.trans (B2.mono A1.size)
  clear A1 hb2 B2
  have qP0 := HP_2.out.cell 0
  have qP1 := HP_2.out.cell 1
  have zP := HP_2.out.lt
  go_wp2_with fail
  refine (HW.out _).mono ?_
  rintro _ w3 ⟨rfl, hb3⟩
  have s3 := hb3.size; try simp only [World.size_alloc, World.size_setCell, World.size_drew, setRow_size] at s3
  clear qP0 qP1 zP
  have B3 : Below w2.heap.size w2 w3 := by (repeat' (first | (with_reducible exact Below.refl _ _) | (with_reducible assumption) | (with_reducible refine Below.alloc ?_ ?_ _) | (with_reducible refine Below.setCell ?_ ?_ _) | (with_reducible refine below_row ?_ ?_ _) | (with_reducible refine Below.drew ?_) | (with_reducible refine below_drewN ?_ _) | (with_reducible refine Below.trans ?_ (Below.mono (by assumption) ?_)) | (first | exact Nat.le_refl _ | omega | (simp; done) | (simp; omega))))
  have HP_3 := Lib.hid (HP_2.out.after B3)
  clear HP_2
  have A3 : Below w.heap.size w w3 := A2.trans (B3.mono A2.size)
  clear A2 hb3 B3
  have qP0 := HP_3.out.cell 0
  have qP1 := HP_3.out.cell 1
  have zP := HP_3.out.lt
  go_wp2_with fail
  refine (HH.out _).mono ?_
  rintro _ w4 ⟨rfl, hb4⟩
  have s4 := hb4.size; try simp only [World.size_alloc, World.size_setCell, World.size_drew, setRow_size] at s4
  clear qP0 qP1 zP
  have B4 : Below w3.heap.size w3 w4 := by (repeat' (first | (with_reducible exact Below.refl _ _) | (with_reducible assumption) | (with_reducible refine Below.alloc ?_ ?_ _) | (with_reducible refine Below.setCell ?_ ?_ _) | (with_reducible refine below_row ?_ ?_ _) | (with_reducible refine Below.drew ?_) | (with_reducible refine below_drewN ?_ _) | (with_reducible refine Below.trans ?_ (Below.mono (by assumption) ?_)) | (first | exact Nat.le_refl _ | omega | (simp; done) | (simp; omega))))
  have HP_4 := Lib.hid (HP_3.out.after B4)
  clear HP_3
  have A4 : Below w.heap.size w w4 := A3.trans (B4.mono A3.size)
  clear A3 hb4 B4
  have qP0 := HP_4.out.cell 0
  have qP1 := HP_4.out.cell 1
  have zP := HP_4.out.lt
  go_wp2
  go_ret
  exact ⟨rfl, by (repeat' (first | (with_reducible exact Below.refl _ _) | (with_reducible assumption) | (with_reducible refine Below.alloc ?_ ?_ _) | (with_reducible refine Below.setCell ?_ ?_ _) | (with_reducible refine below_row ?_ ?_ _) | (with_reducible refine Below.drew ?_) | (with_reducible refine below_drewN ?_ _) | (with_reducible refine Below.trans ?_ (Below.mono (by assumption) ?_)) | (first | exact Nat.le_refl _ | omega | (simp; done) | (simp; omega))))⟩
set_option maxHeartbeats 8000000 in
set_option maxRecDepth 100000 in
theorem shared_good2 (nom lo hi b : Int) (w : World) (he : Env w) (x0 : 0 ≤ b) (x1 : b ≤ 255) (hu : unitOf b = 2) (h : 0 ≤ nom) (h' : nom ≤ 1000000000) (hm : nom % 254 = 0) (hw : wantS lo hi = true) (p rl rh x y z : Int) (hn : shareS 2 nom lo hi = ((nom, nom, nom + p), (x, y, z), 0)) (p0 : 0 ≤ p) (p1 : p ≤ (hi - lo) / 2) (p2 : (hi - lo) / 2 < p + 254) (hok : okD nom nom (nom + p) = true) (hex : exactS 254 nom nom (nom + p) = true) (hr : roomS nom nom (nom + p) lo hi = ((nom, rl, rh), 0)) (hc : convS 2 nom rl rh = ((x, y, z), 0)) (hok2 : okD x y z = true) (hex2 : exactS 254 x y z = true) (r1 : rl ≤ y) (r2 : y ≤ z) (r3 : z ≤ rh) (r4 : nom + p - hi ≤ rl) (r5 : rh ≤ nom - lo) :
    Calls Tryd.prog 12 #[.int .i64 nom, .agg #[.int .i64 lo, .int .i64 hi], .int .u8 b] w (Trues w) := by
  have HE := Lib.hid (fun W (hW : Below w.heap.size w W) => he.after hW)
  have HS := Lib.hid (fun W => step_2 b W x0 x1 hu)
  have hb : ((nom % 254) != 0) = false := by rw [hm]; rfl
  have HW := Lib.hid (fun W => hw ▸ rWanted_any lo hi W)
  obtain ⟨g1, g2, g3⟩ : -1000000000 ≤ lo ∧ lo ≤ hi ∧ hi ≤ 1000000000 := by simpa [wantS] using hw
  have HH := Lib.hid (fun W => hn ▸ Share_any 2 nom lo hi W)
  have HF := Lib.hid (fun W => Fit_ok nom nom (nom + p) x y z W (bad2_iff.2 ⟨hok, hok2⟩))
  have HX := Lib.hid (fun W => Exact_any nom nom (nom + p) W)
  have HY := Lib.hid (fun W => Exact_any x y z W)
  have HO := Lib.hid (fun W => hr ▸ Room_any nom nom (nom + p) lo hi W)
  have HC := Lib.hid (fun W => hc ▸ Convert_any 2 nom rl rh W)
  obtain ⟨k1, k2, k3, k4, k5⟩ := okD_iff.1 hok
  obtain ⟨o1, o2, o3, o4, o5⟩ := okD_iff.1 hok2
  have e1 := exactR_of (st := 254) (un := 2) (.inr ⟨rfl, rfl⟩) hok hex
  have e2 := exactR_of (st := 254) (un := 2) (.inr ⟨rfl, rfl⟩) hok2 hex2
  have t1 : lo ≤ nom - z := by omega
  have t2 : nom + p - y ≤ hi := by omega
  have t3 : 0 ≤ nom + p - nom := by omega
  have t4 : nom + p - nom ≤ (hi - lo) / 2 := by omega
  have t5 : (hi - lo) / 2 < nom + p - nom + 254 := by omega
  have t6 : decide (nom - z < lo) = false := decide_eq_false (by omega)
  have t7 : decide (hi < nom + p - y) = false := decide_eq_false (by omega)
  have t8 : decide (0 ≤ nom + p - nom) = true := decide_eq_true t3
  have t9 : decide (nom + p - nom ≤ (hi - lo) / 2) = true := decide_eq_true t4
  have t10 : decide ((hi - lo) / 2 < nom + p - nom + 254) = true := decide_eq_true t5
  clear he hu x0 x1 hm hw hn hok hex hr hc hok2 hex2
  generalize kindS (nom - z) (nom + p - y) = K at *
  generalize exactR nom nom (nom + p) = E1 at *
  generalize exactR x y z = E2 at *
  go_enter Tryd.func12, Tryd.ntmps12
  go_wp2_with fail
  refine (alive_any _ (HE.out _ (by (repeat' (first | (with_reducible exact Below.refl _ _) | (with_reducible assumption) | (with_reducible refine Below.alloc ?_ ?_ _) | (with_reducible refine Below.setCell ?_ ?_ _) | (with_reducible refine below_row ?_ ?_ _) | (with_reducible refine Below.drew ?_) | (with_reducible refine below_drewN ?_ _) | (with_reducible refine Below.trans ?_ (Below.mono (by assumption) ?_)) | (first | exact Nat.le_refl _ | omega | (simp; done) | (simp; omega))))))).mono ?_
  rintro _ w1 ⟨rfl, hb1⟩
  have s1 := hb1.size; try simp only [World.size_alloc, World.size_setCell, World.size_drew, setRow_size] at s1
  have B1 : Below w.heap.size w w1 := by (repeat' (first | (with_reducible exact Below.refl _ _) | (with_reducible assumption) | (with_reducible refine Below.alloc ?_ ?_ _) | (with_reducible refine Below.setCell ?_ ?_ _) | (with_reducible refine below_row ?_ ?_ _) | (with_reducible refine Below.drew ?_) | (with_reducible refine below_drewN ?_ _) | (with_reducible refine Below.trans ?_ (Below.mono (by assumption) ?_)) | (first | exact Nat.le_refl _ | omega | (simp; done) | (simp; omega))))
  have HP_1 := Lib.hid (show Lies w1 _ 31 #[.int .i64 lo, .int .i64 hi] from (by first | exact (Lies.made w 31 #[.int .i64 lo, .int .i64 hi]).after hb1 | exact ((Lies.made w 31 #[.int .i64 lo, .int .i64 hi]).alloc _).after hb1 | exact (((Lies.made w 31 #[.int .i64 lo, .int .i64 hi]).alloc _).alloc _).after hb1))
  have A1 : Below w.heap.size w w1 := B1
  clear hb1 B1
  have qP0 := HP_1.out.cell 0
  have qP1 := HP_1.out.cell 1
  have zP := HP_1.out.lt
  go_wp2_with fail
  refine (HS.out _).mono ?_
  rintro _ w2 ⟨rfl, hb2⟩
  have s2 := hb2.size; try simp only [World.size_alloc, World.size_setCell, World.size_drew, setRow_size] at s2
  clear qP0 qP1 zP
  have B2 : Below w1.heap.size w1 w2 := by (repeat' (first | (with_reducible exact Below.refl _ _) | (with_reducible assumption) | (with_reducible refine Below.alloc ?_ ?_ _) | (with_reducible refine Below.setCell ?_ ?_ _) | (with_reducible refine below_row ?_ ?_ _) | (with_reducible refine Below.drew ?_) | (with_reducible refine below_drewN ?_ _) | (with_reducible refine Below.trans ?_ (Below.mono (by assumption) ?_)) | (first | exact Nat.le_refl _ | omega | (simp; done) | (simp; omega))))
  have HP_2 := Lib.hid (HP_1.out.after B2)
  clear HP_1
  have A2 : Below w.heap.size w w2 := A1.trans (B2.mono A1.size)
  clear A1 hb2 B2
  have qP0 := HP_2.out.cell 0
  have qP1 := HP_2.out.cell 1
  have zP := HP_2.out.lt
  go_wp2_with fail
  refine (HW.out _).mono ?_
  rintro _ w3 ⟨rfl, hb3⟩
  have s3 := hb3.size; try simp only [World.size_alloc, World.size_setCell, World.size_drew, setRow_size] at s3
  clear qP0 qP1 zP
  have B3 : Below w2.heap.size w2 w3 := by (repeat' (first | (with_reducible exact Below.refl _ _) | (with_reducible assumption) | (with_reducible refine Below.alloc ?_ ?_ _) | (with_reducible refine Below.setCell ?_ ?_ _) | (with_reducible refine below_row ?_ ?_ _) | (with_reducible refine Below.drew ?_) | (with_reducible refine below_drewN ?_ _) | (with_reducible refine Below.trans ?_ (Below.mono (by assumption) ?_)) | (first | exact Nat.le_refl _ | omega | (simp; done) | (simp; omega))))
  have HP_3 := Lib.hid (HP_2.out.after B3)
  clear HP_2
  have A3 : Below w.heap.size w w3 := A2.trans (B3.mono A2.size)
  clear A2 hb3 B3
  have qP0 := HP_3.out.cell 0
  have qP1 := HP_3.out.cell 1
  have zP := HP_3.out.lt
  go_wp2_with fail
  refine (HH.out _).mono ?_
  rintro _ w4 ⟨rfl, hb4⟩
  have s4 := hb4.size; try simp only [World.size_alloc, World.size_setCell, World.size_drew, setRow_size] at s4
  clear qP0 qP1 zP
  have B4 : Below w3.heap.size w3 w4 := by (repeat' (first | (with_reducible exact Below.refl _ _) | (with_reducible assumption) | (with_reducible refine Below.alloc ?_ ?_ _) | (with_reducible refine Below.setCell ?_ ?_ _) | (with_reducible refine below_row ?_ ?_ _) | (with_reducible refine Below.drew ?_) | (with_reducible refine below_drewN ?_ _) | (with_reducible refine Below.trans ?_ (Below.mono (by assumption) ?_)) | (first | exact Nat.le_refl _ | omega | (simp; done) | (simp; omega))))
  have HP_4 := Lib.hid (HP_3.out.after B4)
  clear HP_3
  have A4 : Below w.heap.size w w4 := A3.trans (B4.mono A3.size)
  clear A3 hb4 B4
  have qP0 := HP_4.out.cell 0
  have qP1 := HP_4.out.cell 1
  have zP := HP_4.out.lt
  go_wp2_with fail
  refine (HF.out _).mono ?_
  rintro _ w5 ⟨rfl, hb5⟩
  have s5 := hb5.size; try simp only [World.size_alloc, World.size_setCell, World.size_drew, setRow_size] at s5
  clear qP0 qP1 zP
  have B5 : Below w4.heap.size w4 w5 := by (repeat' (first | (with_reducible exact Below.refl _ _) | (with_reducible assumption) | (with_reducible refine Below.alloc ?_ ?_ _) | (with_reducible refine Below.setCell ?_ ?_ _) | (with_reducible refine below_row ?_ ?_ _) | (with_reducible refine Below.drew ?_) | (with_reducible refine below_drewN ?_ _) | (with_reducible refine Below.trans ?_ (Below.mono (by assumption) ?_)) | (first | exact Nat.le_refl _ | omega | (simp; done) | (simp; omega))))
  have HP_5 := Lib.hid (HP_4.out.after B5)
  have HX_5 := Lib.hid (show Lies w5 _ 28 #[.int .i64 nom, .int .i64 nom, .int .i64 (nom + p)] from (by first | exact (Lies.made w4 28 #[.int .i64 nom, .int .i64 nom, .int .i64 (nom + p)]).after hb5 | exact ((Lies.made w4 28 #[.int .i64 nom, .int .i64 nom, .int .i64 (nom + p)]).alloc _).after hb5 | exact (((Lies.made w4 28 #[.int .i64 nom, .int .i64 nom, .int .i64 (nom + p)]).alloc _).alloc _).after hb5))
  have HY_5 := Lib.hid (show Lies w5 _ 28 #[.int .i64 x, .int .i64 y, .int .i64 z] from (by first | exact (Lies.made (w4.alloc (.cells #[.int .i64 nom, .int .i64 nom, .int .i64 (nom + p)] 28)) 28 #[.int .i64 x, .int .i64 y, .int .i64 z]).after hb5 | exact ((Lies.made (w4.alloc (.cells #[.int .i64 nom, .int .i64 nom, .int .i64 (nom + p)] 28)) 28 #[.int .i64 x, .int .i64 y, .int .i64 z]).alloc _).after hb5 | exact (((Lies.made (w4.alloc (.cells #[.int .i64 nom, .int .i64 nom, .int .i64 (nom + p)] 28)) 28 #[.int .i64 x, .int .i64 y, .int .i64 z]).alloc _).alloc _).after hb5))
  clear HP_4
  have A5 : Below w.heap.size w w5 := A4.trans (B5.mono A4.size)
  clear A4 hb5 B5
  simp only [World.size_alloc] at HY_5
  have qP0 := HP_5.out.cell 0
  have qP1 := HP_5.out.cell 1
  have zP := HP_5.out.lt
  have qX0 := HX_5.out.cell 0
  have qX1 := HX_5.out.cell 1
  have qX2 := HX_5.out.cell 2
  have zX := HX_5.out.lt
  have qY0 := HY_5.out.cell 0
  have qY1 := HY_5.out.cell 1
  have qY2 := HY_5.out.cell 2
  have zY := HY_5.out.lt
  go_wp2_with fail
  refine (HX.out _).mono ?_
  rintro _ w6 ⟨rfl, hb6⟩
  have s6 := hb6.size; try simp only [World.size_alloc, World.size_setCell, World.size_drew, setRow_size] at s6
  clear qP0 qP1 zP qX0 qX1 qX2 zX qY0 qY1 qY2 zY
  have B6 : Below w5.heap.size w5 w6 := by (repeat' (first | (with_reducible exact Below.refl _ _) | (with_reducible assumption) | (with_reducible refine Below.alloc ?_ ?_ _) | (with_reducible refine Below.setCell ?_ ?_ _) | (with_reducible refine below_row ?_ ?_ _) | (with_reducible refine Below.drew ?_) | (with_reducible refine below_drewN ?_ _) | (with_reducible refine Below.trans ?_ (Below.mono (by assumption) ?_)) | (first | exact Nat.le_refl _ | omega | (simp; done) | (simp; omega))))
  have HP_6 := Lib.hid (HP_5.out.after B6)
  have HX_6 := Lib.hid (HX_5.out.after B6)
  have HY_6 := Lib.hid (HY_5.out.after B6)
  have HS_6 := Lib.hid (show Lies w6 _ 31 #[.int .i64 (nom - z), .int .i64 (nom + p - y)] from (by first | exact (Lies.made w5 31 #[.int .i64 (nom - z), .int .i64 (nom + p - y)]).after hb6 | exact ((Lies.made w5 31 #[.int .i64 (nom - z), .int .i64 (nom + p - y)]).alloc _).after hb6 | exact (((Lies.made w5 31 #[.int .i64 (nom - z), .int .i64 (nom + p - y)]).alloc _).alloc _).after hb6))
  clear HP_5 HX_5 HY_5
  have A6 : Below w.heap.size w w6 := A5.trans (B6.mono A5.size)
  clear A5 hb6 B6
  have qP0 := HP_6.out.cell 0
  have qP1 := HP_6.out.cell 1
  have zP := HP_6.out.lt
  have qX0 := HX_6.out.cell 0
  have qX1 := HX_6.out.cell 1
  have qX2 := HX_6.out.cell 2
  have zX := HX_6.out.lt
  have qY0 := HY_6.out.cell 0
  have qY1 := HY_6.out.cell 1
  have qY2 := HY_6.out.cell 2
  have zY := HY_6.out.lt
  have qS0 := HS_6.out.cell 0
  have qS1 := HS_6.out.cell 1
  have zS := HS_6.out.lt
  go_wp2_with fail
  refine (HY.out _).mono ?_
  rintro _ w7 ⟨rfl, hb7⟩
  have s7 := hb7.size; try simp only [World.size_alloc, World.size_setCell, World.size_drew, setRow_size] at s7
  clear qP0 qP1 zP qX0 qX1 qX2 zX qY0 qY1 qY2 zY qS0 qS1 zS
  have B7 : Below w6.heap.size w6 w7 := by (repeat' (first | (with_reducible exact Below.refl _ _) | (with_reducible assumption) | (with_reducible refine Below.alloc ?_ ?_ _) | (with_reducible refine Below.setCell ?_ ?_ _) | (with_reducible refine below_row ?_ ?_ _) | (with_reducible refine Below.drew ?_) | (with_reducible refine below_drewN ?_ _) | (with_reducible refine Below.trans ?_ (Below.mono (by assumption) ?_)) | (first | exact Nat.le_refl _ | omega | (simp; done) | (simp; omega))))
  have HP_7 := Lib.hid (HP_6.out.after B7)
  have HX_7 := Lib.hid (HX_6.out.after B7)
  have HY_7 := Lib.hid (HY_6.out.after B7)
  have HS_7 := Lib.hid (HS_6.out.after B7)
  clear HP_6 HX_6 HY_6 HS_6
  have A7 : Below w.heap.size w w7 := A6.trans (B7.mono A6.size)
  clear A6 hb7 B7
  have qP0 := HP_7.out.cell 0
  have qP1 := HP_7.out.cell 1
  have zP := HP_7.out.lt
  have qX0 := HX_7.out.cell 0
  have qX1 := HX_7.out.cell 1
  have qX2 := HX_7.out.cell 2
  have zX := HX_7.out.lt
  have qY0 := HY_7.out.cell 0
  have qY1 := HY_7.out.cell 1
  have qY2 := HY_7.out.cell 2
  have zY := HY_7.out.lt
  have qS0 := HS_7.out.cell 0
  have qS1 := HS_7.out.cell 1
  have zS := HS_7.out.lt
  go_wp2_with fail
  refine (HO.out _).mono ?_
  rintro _ w8 ⟨rfl, hb8⟩
  have s8 := hb8.size; try simp only [World.size_alloc, World.size_setCell, World.size_drew, setRow_size] at s8
  clear qP0 qP1 zP qX0 qX1 qX2 zX qY0 qY1 qY2 zY qS0 qS1 zS
  have B8 : Below w7.heap.size w7 w8 := by (repeat' (first | (with_reducible exact Below.refl _ _) | (with_reducible assumption) | (with_reducible refine Below.alloc ?_ ?_ _) | (with_reducible refine Below.setCell ?_ ?_ _) | (with_reducible refine below_row ?_ ?_ _) | (with_reducible refine Below.drew ?_) | (with_reducible refine below_drewN ?_ _) | (with_reducible refine Below.trans ?_ (Below.mono (by assumption) ?_)) | (first | exact Nat.le_refl _ | omega | (simp; done) | (simp; omega))))
  have HP_8 := Lib.hid (HP_7.out.after B8)
  have HX_8 := Lib.hid (HX_7.out.after B8)
  have HY_8 := Lib.hid (HY_7.out.after B8)
  have HS_8 := Lib.hid (HS_7.out.after B8)
  clear HP_7 HX_7 HY_7 HS_7
  have A8 : Below w.heap.size w w8 := A7.trans (B8.mono A7.size)
  clear A7 hb8 B8
  rcases e1 with rfl | rfl <;> rcases e2 with rfl | rfl
  all_goals
    have qP0 := HP_8.out.cell 0
    have qP1 := HP_8.out.cell 1
    have zP := HP_8.out.lt
    have qX0 := HX_8.out.cell 0
    have qX1 := HX_8.out.cell 1
    have qX2 := HX_8.out.cell 2
    have zX := HX_8.out.lt
    have qY0 := HY_8.out.cell 0
    have qY1 := HY_8.out.cell 1
    have qY2 := HY_8.out.cell 2
    have zY := HY_8.out.lt
    have qS0 := HS_8.out.cell 0
    have qS1 := HS_8.out.cell 1
    have zS := HS_8.out.lt
    go_wp2_with fail
    refine (HC.out _).mono ?_
    rintro _ w9 ⟨rfl, hb9⟩
    have s9 := hb9.size; try simp only [World.size_alloc, World.size_setCell, World.size_drew, setRow_size] at s9
    clear qP0 qP1 zP qX0 qX1 qX2 zX qY0 qY1 qY2 zY qS0 qS1 zS
    have B9 : Below w8.heap.size w8 w9 := by (repeat' (first | (with_reducible exact Below.refl _ _) | (with_reducible assumption) | (with_reducible refine Below.alloc ?_ ?_ _) | (with_reducible refine Below.setCell ?_ ?_ _) | (with_reducible refine below_row ?_ ?_ _) | (with_reducible refine Below.drew ?_) | (with_reducible refine below_drewN ?_ _) | (with_reducible refine Below.trans ?_ (Below.mono (by assumption) ?_)) | (first | exact Nat.le_refl _ | omega | (simp; done) | (simp; omega))))
    have HP_9 := Lib.hid (HP_8.out.after B9)
    have HX_9 := Lib.hid (HX_8.out.after B9)
    have HY_9 := Lib.hid (HY_8.out.after B9)
    have HS_9 := Lib.hid (HS_8.out.after B9)
    have HZ_9 := Lib.hid (show Lies w9 _ 28 #[.int .i64 nom, .int .i64 rl, .int .i64 rh] from (by first | exact (Lies.made w8 28 #[.int .i64 nom, .int .i64 rl, .int .i64 rh]).after hb9 | exact ((Lies.made w8 28 #[.int .i64 nom, .int .i64 rl, .int .i64 rh]).alloc _).after hb9 | exact (((Lies.made w8 28 #[.int .i64 nom, .int .i64 rl, .int .i64 rh]).alloc _).alloc _).after hb9))
    clear HP_8 HX_8 HY_8 HS_8
    have A9 : Below w.heap.size w w9 := A8.trans (B9.mono A8.size)
    clear A8 hb9 B9
    have qP0 := HP_9.out.cell 0
    have qP1 := HP_9.out.cell 1
    have qX0 := HX_9.out.cell 0
    have qX1 := HX_9.out.cell 1
    have qX2 := HX_9.out.cell 2
    have qY0 := HY_9.out.cell 0
    have qY1 := HY_9.out.cell 1
    have qY2 := HY_9.out.cell 2
    have qS0 := HS_9.out.cell 0
    have qS1 := HS_9.out.cell 1
    have qZ0 := HZ_9.out.cell 0
    have qZ1 := HZ_9.out.cell 1
    have qZ2 := HZ_9.out.cell 2
    have zP := HP_9.out.lt
    have zX := HX_9.out.lt
    have zY := HY_9.out.lt
    have zS := HS_9.out.lt
    have zZ := HZ_9.out.lt
    go_wp2
    go_ret
    exact ⟨rfl, by (repeat' (first | (with_reducible exact Below.refl _ _) | (with_reducible assumption) | (with_reducible refine Below.alloc ?_ ?_ _) | (with_reducible refine Below.setCell ?_ ?_ _) | (with_reducible refine below_row ?_ ?_ _) | (with_reducible refine Below.drew ?_) | (with_reducible refine below_drewN ?_ _) | (with_reducible refine Below.trans ?_ (Below.mono (by assumption) ?_)) | (first | exact Nat.le_refl _ | omega | (simp; done) | (simp; omega))))⟩
theorem shared_any (nom lo hi b : Int) (w : World) (he : Env w) (x0 : 0 ≤ b) (x1 : b ≤ 255) : Calls Tryd.prog 12 #[.int .i64 nom, .agg #[.int .i64 lo, .int .i64 hi], .int .u8 b] w (Trues w) := by
  rcases unitOf_or b with hu | hu
  · by_cases h : nom < 0
    · exact shared_low1 nom lo hi b w he x0 x1 hu h
    by_cases h' : 1000000000 < nom
    · exact shared_high1 nom lo hi b w he x0 x1 hu h'
    by_cases hm : nom % 100 = 0
    · cases hw : wantS lo hi
      · exact shared_want1 nom lo hi b w he x0 x1 hu (by omega) (by omega) hm hw
      · rcases share_spec (un := 1) (.inl rfl) (show 0 ≤ nom by omega) (by omega) hm hw with hn | ⟨p, rl, rh, x, y, z, hn, p0, p1, p2, hok, hex, hr, hc, hok2, hex2, r1, r2, r3, r4, r5⟩
        · exact shared_none1 nom lo hi b w he x0 x1 hu (by omega) (by omega) hm hw hn
        · exact shared_good1 nom lo hi b w he x0 x1 hu (by omega) (by omega) hm hw p rl rh x y z hn p0 p1 p2 hok hex hr hc hok2 hex2 r1 r2 r3 r4 r5
    · exact shared_odd1 nom lo hi b w he x0 x1 hu (by omega) (by omega) hm
  · by_cases h : nom < 0
    · exact shared_low2 nom lo hi b w he x0 x1 hu h
    by_cases h' : 1000000000 < nom
    · exact shared_high2 nom lo hi b w he x0 x1 hu h'
    by_cases hm : nom % 254 = 0
    · cases hw : wantS lo hi
      · exact shared_want2 nom lo hi b w he x0 x1 hu (by omega) (by omega) hm hw
      · rcases share_spec (un := 2) (.inr rfl) (show 0 ≤ nom by omega) (by omega) hm hw with hn | ⟨p, rl, rh, x, y, z, hn, p0, p1, p2, hok, hex, hr, hc, hok2, hex2, r1, r2, r3, r4, r5⟩
        · exact shared_none2 nom lo hi b w he x0 x1 hu (by omega) (by omega) hm hw hn
        · exact shared_good2 nom lo hi b w he x0 x1 hu (by omega) (by omega) hm hw p rl rh x y z hn p0 p1 p2 hok hex hr hc hok2 hex2 r1 r2 r3 r4 r5
    · exact shared_odd2 nom lo hi b w he x0 x1 hu (by omega) (by omega) hm
end Go.Proofs.YtldjkdomklgmaaaDoor
