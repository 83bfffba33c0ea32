/- The law SizeRedrawn: the walk. -/
import Derived.Test.YtldjkdomklgmaaaDoorF2
import Derived.Test.YtldjkdomklgmaaaDoorF4
namespace Go.Proofs.YtldjkdomklgmaaaDoor
set_option linter.unusedVariables false
set_option linter.unusedSimpArgs false
open Go.RowKit

/-- The kind of a clearance that is within another one. -/
theorem kinds_in (a b c d : Int) (h1 : a ≤ c) (h2 : d ≤ b) (h3 : c ≤ d) (h4 : a ≤ b) : (kindS a b = 1 ∧ kindS c d = 1) ∨ (kindS a b = 2 ∧ kindS c d = 2) ∨ (kindS a b = 2 ∧ kindS c d = 1 ∧ c = 0 ∧ d = 0 ∧ a < 0) ∨ kindS a b = 3 := by
  unfold kindS
  by_cases e1 : 0 ≤ a
  · left; rw [if_pos e1, if_pos (by omega)]; exact ⟨rfl, rfl⟩
  · by_cases e2 : b ≤ 0
    · by_cases e3 : 0 ≤ c
      · right; right; left; rw [if_neg e1, if_pos e2, if_pos e3]; exact ⟨rfl, rfl, by omega, by omega, by omega⟩
      · right; left; rw [if_neg e1, if_pos e2, if_neg e3, if_pos (by omega)]; exact ⟨rfl, rfl⟩
    · right; right; right; rw [if_neg e1, if_neg e2]

set_option maxHeartbeats 8000000 in
set_option maxRecDepth 100000 in
theorem redrawn_a (an al au bn bl bu b1 b2 : Int) (w : World) (he : Env w) (x0 : 0 ≤ b1) (x1 : b1 ≤ 255) (y0 : 0 ≤ b2) (y1 : b2 ≤ 255) (h : okD an al au = false) :
    Calls Tryd.prog 10 #[.agg #[.int .i64 an, .int .i64 al, .int .i64 au], .agg #[.int .i64 bn, .int .i64 bl, .int .i64 bu], .int .u8 b1, .int .u8 b2] w (Trues w) := by
  have HE := Lib.hid (fun W (hW : Below w.heap.size w W) => he.after hW)
  have HA := Lib.hid (fun W => h ▸ rDim_any an al au W)
  clear he h x0 x1 y0 y1
  go_enter Tryd.func10, Tryd.ntmps10
  go_wp2_with fail
  refine (alive_any _ (HE.out _ (by (repeat' (first | (with_reducible exact Below.refl _ _) | (with_reducible assumption) | (with_reducible refine Below.alloc ?_ ?_ _) | (with_reducible refine Below.setCell ?_ ?_ _) | (with_reducible refine below_row ?_ ?_ _) | (with_reducible refine Below.drew ?_) | (with_reducible refine below_drewN ?_ _) | (with_reducible refine Below.trans ?_ (Below.mono (by assumption) ?_)) | (first | exact Nat.le_refl _ | omega | (simp; done) | (simp; omega))))))).mono ?_
  rintro _ w1 ⟨rfl, hb1⟩
  have s1 := hb1.size; try simp only [World.size_alloc, World.size_setCell, World.size_drew, setRow_size] at s1
  have B1 : Below w.heap.size w w1 := by (repeat' (first | (with_reducible exact Below.refl _ _) | (with_reducible assumption) | (with_reducible refine Below.alloc ?_ ?_ _) | (with_reducible refine Below.setCell ?_ ?_ _) | (with_reducible refine below_row ?_ ?_ _) | (with_reducible refine Below.drew ?_) | (with_reducible refine below_drewN ?_ _) | (with_reducible refine Below.trans ?_ (Below.mono (by assumption) ?_)) | (first | exact Nat.le_refl _ | omega | (simp; done) | (simp; omega))))
  have HP_1 := Lib.hid (show Lies w1 _ 28 #[.int .i64 an, .int .i64 al, .int .i64 au] from (by first | exact (Lies.made w 28 #[.int .i64 an, .int .i64 al, .int .i64 au]).after hb1 | exact ((Lies.made w 28 #[.int .i64 an, .int .i64 al, .int .i64 au]).alloc _).after hb1 | exact (((Lies.made w 28 #[.int .i64 an, .int .i64 al, .int .i64 au]).alloc _).alloc _).after hb1))
  have HQ_1 := Lib.hid (show Lies w1 _ 28 #[.int .i64 bn, .int .i64 bl, .int .i64 bu] from (by first | exact (Lies.made (w.alloc (.cells #[.int .i64 an, .int .i64 al, .int .i64 au] 28)) 28 #[.int .i64 bn, .int .i64 bl, .int .i64 bu]).after hb1 | exact ((Lies.made (w.alloc (.cells #[.int .i64 an, .int .i64 al, .int .i64 au] 28)) 28 #[.int .i64 bn, .int .i64 bl, .int .i64 bu]).alloc _).after hb1 | exact (((Lies.made (w.alloc (.cells #[.int .i64 an, .int .i64 al, .int .i64 au] 28)) 28 #[.int .i64 bn, .int .i64 bl, .int .i64 bu]).alloc _).alloc _).after hb1))
  have A1 : Below w.heap.size w w1 := B1
  clear hb1 B1
  simp only [World.size_alloc] at HQ_1
  have qP0 := HP_1.out.cell 0
  have qP1 := HP_1.out.cell 1
  have qP2 := HP_1.out.cell 2
  have zP := HP_1.out.lt
  have qQ0 := HQ_1.out.cell 0
  have qQ1 := HQ_1.out.cell 1
  have qQ2 := HQ_1.out.cell 2
  have zQ := HQ_1.out.lt
  go_wp2_with fail
  refine (HA.out _).mono ?_
  rintro _ w2 ⟨rfl, hb2⟩
  have s2 := hb2.size; try simp only [World.size_alloc, World.size_setCell, World.size_drew, setRow_size] at s2
  clear qP0 qP1 qP2 zP qQ0 qQ1 qQ2 zQ
  have B2 : Below w1.heap.size w1 w2 := by (repeat' (first | (with_reducible exact Below.refl _ _) | (with_reducible assumption) | (with_reducible refine Below.alloc ?_ ?_ _) | (with_reducible refine Below.setCell ?_ ?_ _) | (with_reducible refine below_row ?_ ?_ _) | (with_reducible refine Below.drew ?_) | (with_reducible refine below_drewN ?_ _) | (with_reducible refine Below.trans ?_ (Below.mono (by assumption) ?_)) | (first | exact Nat.le_refl _ | omega | (simp; done) | (simp; omega))))
  have HP_2 := Lib.hid (HP_1.out.after B2)
  have HQ_2 := Lib.hid (HQ_1.out.after B2)
  clear HP_1 HQ_1
  have A2 : Below w.heap.size w w2 := A1.trans (B2.mono A1.size)
  clear A1 hb2 B2
  go_wp2
  go_ret
  exact ⟨rfl, by (repeat' (first | (with_reducible exact Below.refl _ _) | (with_reducible assumption) | (with_reducible refine Below.alloc ?_ ?_ _) | (with_reducible refine Below.setCell ?_ ?_ _) | (with_reducible refine below_row ?_ ?_ _) | (with_reducible refine Below.drew ?_) | (with_reducible refine below_drewN ?_ _) | (with_reducible refine Below.trans ?_ (Below.mono (by assumption) ?_)) | (first | exact Nat.le_refl _ | omega | (simp; done) | (simp; omega))))⟩
set_option maxHeartbeats 8000000 in
set_option maxRecDepth 100000 in
theorem redrawn_b (an al au bn bl bu b1 b2 : Int) (w : World) (he : Env w) (x0 : 0 ≤ b1) (x1 : b1 ≤ 255) (y0 : 0 ≤ b2) (y1 : b2 ≤ 255) (h : okD an al au = true) (h' : okD bn bl bu = false) :
    Calls Tryd.prog 10 #[.agg #[.int .i64 an, .int .i64 al, .int .i64 au], .agg #[.int .i64 bn, .int .i64 bl, .int .i64 bu], .int .u8 b1, .int .u8 b2] w (Trues w) := by
  have HE := Lib.hid (fun W (hW : Below w.heap.size w W) => he.after hW)
  have HA := Lib.hid (fun W => h ▸ rDim_any an al au W)
  have HB := Lib.hid (fun W => h' ▸ rDim_any bn bl bu W)
  clear he h h' x0 x1 y0 y1
  go_enter Tryd.func10, Tryd.ntmps10
  go_wp2_with fail
  refine (alive_any _ (HE.out _ (by (repeat' (first | (with_reducible exact Below.refl _ _) | (with_reducible assumption) | (with_reducible refine Below.alloc ?_ ?_ _) | (with_reducible refine Below.setCell ?_ ?_ _) | (with_reducible refine below_row ?_ ?_ _) | (with_reducible refine Below.drew ?_) | (with_reducible refine below_drewN ?_ _) | (with_reducible refine Below.trans ?_ (Below.mono (by assumption) ?_)) | (first | exact Nat.le_refl _ | omega | (simp; done) | (simp; omega))))))).mono ?_
  rintro _ w1 ⟨rfl, hb1⟩
  have s1 := hb1.size; try simp only [World.size_alloc, World.size_setCell, World.size_drew, setRow_size] at s1
  have B1 : Below w.heap.size w w1 := by (repeat' (first | (with_reducible exact Below.refl _ _) | (with_reducible assumption) | (with_reducible refine Below.alloc ?_ ?_ _) | (with_reducible refine Below.setCell ?_ ?_ _) | (with_reducible refine below_row ?_ ?_ _) | (with_reducible refine Below.drew ?_) | (with_reducible refine below_drewN ?_ _) | (with_reducible refine Below.trans ?_ (Below.mono (by assumption) ?_)) | (first | exact Nat.le_refl _ | omega | (simp; done) | (simp; omega))))
  have HP_1 := Lib.hid (show Lies w1 _ 28 #[.int .i64 an, .int .i64 al, .int .i64 au] from (by first | exact (Lies.made w 28 #[.int .i64 an, .int .i64 al, .int .i64 au]).after hb1 | exact ((Lies.made w 28 #[.int .i64 an, .int .i64 al, .int .i64 au]).alloc _).after hb1 | exact (((Lies.made w 28 #[.int .i64 an, .int .i64 al, .int .i64 au]).alloc _).alloc _).after hb1))
  have HQ_1 := Lib.hid (show Lies w1 _ 28 #[.int .i64 bn, .int .i64 bl, .int .i64 bu] from (by first | exact (Lies.made (w.alloc (.cells #[.int .i64 an, .int .i64 al, .int .i64 au] 28)) 28 #[.int .i64 bn, .int .i64 bl, .int .i64 bu]).after hb1 | exact ((Lies.made (w.alloc (.cells #[.int .i64 an, .int .i64 al, .int .i64 au] 28)) 28 #[.int .i64 bn, .int .i64 bl, .int .i64 bu]).alloc _).after hb1 | exact (((Lies.made (w.alloc (.cells #[.int .i64 an, .int .i64 al, .int .i64 au] 28)) 28 #[.int .i64 bn, .int .i64 bl, .int .i64 bu]).alloc _).alloc _).after hb1))
  have A1 : Below w.heap.size w w1 := B1
  clear hb1 B1
  simp only [World.size_alloc] at HQ_1
  have qP0 := HP_1.out.cell 0
  have qP1 := HP_1.out.cell 1
  have qP2 := HP_1.out.cell 2
  have zP := HP_1.out.lt
  have qQ0 := HQ_1.out.cell 0
  have qQ1 := HQ_1.out.cell 1
  have qQ2 := HQ_1.out.cell 2
  have zQ := HQ_1.out.lt
  go_wp2_with fail
  refine (HA.out _).mono ?_
  rintro _ w2 ⟨rfl, hb2⟩
  have s2 := hb2.size; try simp only [World.size_alloc, World.size_setCell, World.size_drew, setRow_size] at s2
  clear qP0 qP1 qP2 zP qQ0 qQ1 qQ2 zQ
  have B2 : Below w1.heap.size w1 w2 := by (repeat' (first | (with_reducible exact Below.refl _ _) | (with_reducible assumption) | (with_reducible refine Below.alloc ?_ ?_ _) | (with_reducible refine Below.setCell ?_ ?_ _) | (with_reducible refine below_row ?_ ?_ _) | (with_reducible refine Below.drew ?_) | (with_reducible refine below_drewN ?_ _) | (with_reducible refine Below.trans ?_ (Below.mono (by assumption) ?_)) | (first | exact Nat.le_refl _ | omega | (simp; done) | (simp; omega))))
  have HP_2 := Lib.hid (HP_1.out.after B2)
  have HQ_2 := Lib.hid (HQ_1.out.after B2)
  clear HP_1 HQ_1
  have A2 : Below w.heap.size w w2 := A1.trans (B2.mono A1.size)
  clear A1 hb2 B2
  have qP0 := HP_2.out.cell 0
  have qP1 := HP_2.out.cell 1
  have qP2 := HP_2.out.cell 2
  have zP := HP_2.out.lt
  have qQ0 := HQ_2.out.cell 0
  have qQ1 := HQ_2.out.cell 1
  have qQ2 := HQ_2.out.cell 2
  have zQ := HQ_2.out.lt
  go_wp2_with fail
  refine (HB.out _).mono ?_
  rintro _ w3 ⟨rfl, hb3⟩
  have s3 := hb3.size; try simp only [World.size_alloc, World.size_setCell, World.size_drew, setRow_size] at s3
  clear qP0 qP1 qP2 zP qQ0 qQ1 qQ2 zQ
  have B3 : Below w2.heap.size w2 w3 := by (repeat' (first | (with_reducible exact Below.refl _ _) | (with_reducible assumption) | (with_reducible refine Below.alloc ?_ ?_ _) | (with_reducible refine Below.setCell ?_ ?_ _) | (with_reducible refine below_row ?_ ?_ _) | (with_reducible refine Below.drew ?_) | (with_reducible refine below_drewN ?_ _) | (with_reducible refine Below.trans ?_ (Below.mono (by assumption) ?_)) | (first | exact Nat.le_refl _ | omega | (simp; done) | (simp; omega))))
  have HP_3 := Lib.hid (HP_2.out.after B3)
  have HQ_3 := Lib.hid (HQ_2.out.after B3)
  clear HP_2 HQ_2
  have A3 : Below w.heap.size w w3 := A2.trans (B3.mono A2.size)
  clear A2 hb3 B3
  go_wp2
  go_ret
  exact ⟨rfl, by (repeat' (first | (with_reducible exact Below.refl _ _) | (with_reducible assumption) | (with_reducible refine Below.alloc ?_ ?_ _) | (with_reducible refine Below.setCell ?_ ?_ _) | (with_reducible refine below_row ?_ ?_ _) | (with_reducible refine Below.drew ?_) | (with_reducible refine below_drewN ?_ _) | (with_reducible refine Below.trans ?_ (Below.mono (by assumption) ?_)) | (first | exact Nat.le_refl _ | omega | (simp; done) | (simp; omega))))⟩
set_option maxHeartbeats 8000000 in
set_option maxRecDepth 100000 in
theorem redrawn_ok (an al au bn bl bu b1 b2 : Int) (w : World) (he : Env w) (x0 : 0 ≤ b1) (x1 : b1 ≤ 255) (y0 : 0 ≤ b2) (y1 : b2 ≤ 255) (h : okD an al au = true) (h' : okD bn bl bu = true) :
    Calls Tryd.prog 10 #[.agg #[.int .i64 an, .int .i64 al, .int .i64 au], .agg #[.int .i64 bn, .int .i64 bl, .int .i64 bu], .int .u8 b1, .int .u8 b2] w (Trues w) := by
  have HE := Lib.hid (fun W (hW : Below w.heap.size w W) => he.after hW)
  have HA := Lib.hid (fun W => h ▸ rDim_any an al au W)
  have HB := Lib.hid (fun W => h' ▸ rDim_any bn bl bu W)
  have HS := Lib.hid (fun W => step_b b1 W x0 x1)
  have HT := Lib.hid (fun W => step_b b2 W y0 y1)
  have u1 := unitOf_or b1
  have u2 := unitOf_or b2
  generalize unitOf b1 = un at *
  generalize unitOf b2 = vn at *
  have HC := Lib.hid (fun W => Convert_any un an al au W)
  have HD := Lib.hid (fun W => Convert_any vn bn bl bu W)
  have HF := Lib.hid (fun W => Fit_ok an al au bn bl bu W (bad2_iff.2 ⟨h, h'⟩))
  obtain ⟨a1, a2, a3, a4, a5⟩ := okD_iff.1 h
  obtain ⟨c1, c2, c3, c4, c5⟩ := okD_iff.1 h'
  obtain ⟨p, q, r, e, hv, hc⟩ := conv_spec u1 h
  obtain ⟨p', q', r', e', hv', hc'⟩ := conv_spec u2 h'
  have k1 := upS_bd (st := stepU un) a3 (stepU_or un)
  have k2 := downS_bd (st := stepU un) (n := au) (by omega) (stepU_or un)
  have k3 := upS_bd (st := stepU vn) c3 (stepU_or vn)
  have k4 := downS_bd (st := stepU vn) (n := bu) (by omega) (stepU_or vn)
  rw [hv] at HC
  rw [hv'] at HD
  clear hv hv'
  have hq : (e = 0 ∧ e' = 0 ∧ okD p q r = true ∧ okD p' q' r' = true ∧ al ≤ q ∧ q ≤ r ∧ r ≤ au ∧ bl ≤ q' ∧ q' ≤ r' ∧ r' ≤ bu) ∨ (e = 6 ∧ e' = 6) ∨ (e = 0 ∧ e' = 6) ∨ (e = 6 ∧ e' = 0) := by
    rcases hc with ⟨h1, h2, h3, h4, h5, h6⟩ | ⟨h1, _⟩ <;> rcases hc' with ⟨g1, g2, g3, g4, g5, g6⟩ | ⟨g1, _⟩
    · exact .inl ⟨h1, g1, h6, g6, by omega, h5, by omega, by omega, g5, by omega⟩
    · exact .inr (.inr (.inl ⟨h1, g1⟩))
    · exact .inr (.inr (.inr ⟨h1, g1⟩))
    · exact .inr (.inl ⟨h1, g1⟩)
  clear he h h' x0 x1 y0 y1 u1 u2 hc hc' k1 k2 k3 k4
  go_enter Tryd.func10, Tryd.ntmps10
  go_wp2_with fail
  refine (alive_any _ (HE.out _ (by (repeat' (first | (with_reducible exact Below.refl _ _) | (with_reducible assumption) | (with_reducible refine Below.alloc ?_ ?_ _) | (with_reducible refine Below.setCell ?_ ?_ _) | (with_reducible refine below_row ?_ ?_ _) | (with_reducible refine Below.drew ?_) | (with_reducible refine below_drewN ?_ _) | (with_reducible refine Below.trans ?_ (Below.mono (by assumption) ?_)) | (first | exact Nat.le_refl _ | omega | (simp; done) | (simp; omega))))))).mono ?_
  rintro _ w1 ⟨rfl, hb1⟩
  have s1 := hb1.size; try simp only [World.size_alloc, World.size_setCell, World.size_drew, setRow_size] at s1
  have B1 : Below w.heap.size w w1 := by (repeat' (first | (with_reducible exact Below.refl _ _) | (with_reducible assumption) | (with_reducible refine Below.alloc ?_ ?_ _) | (with_reducible refine Below.setCell ?_ ?_ _) | (with_reducible refine below_row ?_ ?_ _) | (with_reducible refine Below.drew ?_) | (with_reducible refine below_drewN ?_ _) | (with_reducible refine Below.trans ?_ (Below.mono (by assumption) ?_)) | (first | exact Nat.le_refl _ | omega | (simp; done) | (simp; omega))))
  have HP_1 := Lib.hid (show Lies w1 _ 28 #[.int .i64 an, .int .i64 al, .int .i64 au] from (by first | exact (Lies.made w 28 #[.int .i64 an, .int .i64 al, .int .i64 au]).after hb1 | exact ((Lies.made w 28 #[.int .i64 an, .int .i64 al, .int .i64 au]).alloc _).after hb1 | exact (((Lies.made w 28 #[.int .i64 an, .int .i64 al, .int .i64 au]).alloc _).alloc _).after hb1))
  have HQ_1 := Lib.hid (show Lies w1 _ 28 #[.int .i64 bn, .int .i64 bl, .int .i64 bu] from (by first | exact (Lies.made (w.alloc (.cells #[.int .i64 an, .int .i64 al, .int .i64 au] 28)) 28 #[.int .i64 bn, .int .i64 bl, .int .i64 bu]).after hb1 | exact ((Lies.made (w.alloc (.cells #[.int .i64 an, .int .i64 al, .int .i64 au] 28)) 28 #[.int .i64 bn, .int .i64 bl, .int .i64 bu]).alloc _).after hb1 | exact (((Lies.made (w.alloc (.cells #[.int .i64 an, .int .i64 al, .int .i64 au] 28)) 28 #[.int .i64 bn, .int .i64 bl, .int .i64 bu]).alloc _).alloc _).after hb1))
  have A1 : Below w.heap.size w w1 := B1
  clear hb1 B1
  simp only [World.size_alloc] at HQ_1
  have qP0 := HP_1.out.cell 0
  have qP1 := HP_1.out.cell 1
  have qP2 := HP_1.out.cell 2
  have zP := HP_1.out.lt
  have qQ0 := HQ_1.out.cell 0
  have qQ1 := HQ_1.out.cell 1
  have qQ2 := HQ_1.out.cell 2
  have zQ := HQ_1.out.lt
  go_wp2_with fail
  refine (HA.out _).mono ?_
  rintro _ w2 ⟨rfl, hb2⟩
  have s2 := hb2.size; try simp only [World.size_alloc, World.size_setCell, World.size_drew, setRow_size] at s2
  clear qP0 qP1 qP2 zP qQ0 qQ1 qQ2 zQ
  have B2 : Below w1.heap.size w1 w2 := by (repeat' (first | (with_reducible exact Below.refl _ _) | (with_reducible assumption) | (with_reducible refine Below.alloc ?_ ?_ _) | (with_reducible refine Below.setCell ?_ ?_ _) | (with_reducible refine below_row ?_ ?_ _) | (with_reducible refine Below.drew ?_) | (with_reducible refine below_drewN ?_ _) | (with_reducible refine Below.trans ?_ (Below.mono (by assumption) ?_)) | (first | exact Nat.le_refl _ | omega | (simp; done) | (simp; omega))))
  have HP_2 := Lib.hid (HP_1.out.after B2)
  have HQ_2 := Lib.hid (HQ_1.out.after B2)
  clear HP_1 HQ_1
  have A2 : Below w.heap.size w w2 := A1.trans (B2.mono A1.size)
  clear A1 hb2 B2
  have qP0 := HP_2.out.cell 0
  have qP1 := HP_2.out.cell 1
  have qP2 := HP_2.out.cell 2
  have zP := HP_2.out.lt
  have qQ0 := HQ_2.out.cell 0
  have qQ1 := HQ_2.out.cell 1
  have qQ2 := HQ_2.out.cell 2
  have zQ := HQ_2.out.lt
  go_wp2_with fail
  refine (HB.out _).mono ?_
  rintro _ w3 ⟨rfl, hb3⟩
  have s3 := hb3.size; try simp only [World.size_alloc, World.size_setCell, World.size_drew, setRow_size] at s3
  clear qP0 qP1 qP2 zP qQ0 qQ1 qQ2 zQ
  have B3 : Below w2.heap.size w2 w3 := by (repeat' (first | (with_reducible exact Below.refl _ _) | (with_reducible assumption) | (with_reducible refine Below.alloc ?_ ?_ _) | (with_reducible refine Below.setCell ?_ ?_ _) | (with_reducible refine below_row ?_ ?_ _) | (with_reducible refine Below.drew ?_) | (with_reducible refine below_drewN ?_ _) | (with_reducible refine Below.trans ?_ (Below.mono (by assumption) ?_)) | (first | exact Nat.le_refl _ | omega | (simp; done) | (simp; omega))))
  have HP_3 := Lib.hid (HP_2.out.after B3)
  have HQ_3 := Lib.hid (HQ_2.out.after B3)
  clear HP_2 HQ_2
  have A3 : Below w.heap.size w w3 := A2.trans (B3.mono A2.size)
  clear A2 hb3 B3
  have qP0 := HP_3.out.cell 0
  have qP1 := HP_3.out.cell 1
  have qP2 := HP_3.out.cell 2
  have zP := HP_3.out.lt
  have qQ0 := HQ_3.out.cell 0
  have qQ1 := HQ_3.out.cell 1
  have qQ2 := HQ_3.out.cell 2
  have zQ := HQ_3.out.lt
  go_wp2_with fail
  refine (HS.out _).mono ?_
  rintro _ w4 ⟨rfl, hb4⟩
  have s4 := hb4.size; try simp only [World.size_alloc, World.size_setCell, World.size_drew, setRow_size] at s4
  clear qP0 qP1 qP2 zP qQ0 qQ1 qQ2 zQ
  have B4 : Below w3.heap.size w3 w4 := by (repeat' (first | (with_reducible exact Below.refl _ _) | (with_reducible assumption) | (with_reducible refine Below.alloc ?_ ?_ _) | (with_reducible refine Below.setCell ?_ ?_ _) | (with_reducible refine below_row ?_ ?_ _) | (with_reducible refine Below.drew ?_) | (with_reducible refine below_drewN ?_ _) | (with_reducible refine Below.trans ?_ (Below.mono (by assumption) ?_)) | (first | exact Nat.le_refl _ | omega | (simp; done) | (simp; omega))))
  have HP_4 := Lib.hid (HP_3.out.after B4)
  have HQ_4 := Lib.hid (HQ_3.out.after B4)
  clear HP_3 HQ_3
  have A4 : Below w.heap.size w w4 := A3.trans (B4.mono A3.size)
  clear A3 hb4 B4
  have qP0 := HP_4.out.cell 0
  have qP1 := HP_4.out.cell 1
  have qP2 := HP_4.out.cell 2
  have zP := HP_4.out.lt
  have qQ0 := HQ_4.out.cell 0
  have qQ1 := HQ_4.out.cell 1
  have qQ2 := HQ_4.out.cell 2
  have zQ := HQ_4.out.lt
  go_wp2_with fail
  refine (HT.out _).mono ?_
  rintro _ w5 ⟨rfl, hb5⟩
  have s5 := hb5.size; try simp only [World.size_alloc, World.size_setCell, World.size_drew, setRow_size] at s5
  clear qP0 qP1 qP2 zP qQ0 qQ1 qQ2 zQ
  have B5 : Below w4.heap.size w4 w5 := by (repeat' (first | (with_reducible exact Below.refl _ _) | (with_reducible assumption) | (with_reducible refine Below.alloc ?_ ?_ _) | (with_reducible refine Below.setCell ?_ ?_ _) | (with_reducible refine below_row ?_ ?_ _) | (with_reducible refine Below.drew ?_) | (with_reducible refine below_drewN ?_ _) | (with_reducible refine Below.trans ?_ (Below.mono (by assumption) ?_)) | (first | exact Nat.le_refl _ | omega | (simp; done) | (simp; omega))))
  have HP_5 := Lib.hid (HP_4.out.after B5)
  have HQ_5 := Lib.hid (HQ_4.out.after B5)
  clear HP_4 HQ_4
  have A5 : Below w.heap.size w w5 := A4.trans (B5.mono A4.size)
  clear A4 hb5 B5
  have qP0 := HP_5.out.cell 0
  have qP1 := HP_5.out.cell 1
  have qP2 := HP_5.out.cell 2
  have zP := HP_5.out.lt
  have qQ0 := HQ_5.out.cell 0
  have qQ1 := HQ_5.out.cell 1
  have qQ2 := HQ_5.out.cell 2
  have zQ := HQ_5.out.lt
  go_wp2_with fail
  refine (HC.out _).mono ?_
  rintro _ w6 ⟨rfl, hb6⟩
  have s6 := hb6.size; try simp only [World.size_alloc, World.size_setCell, World.size_drew, setRow_size] at s6
  clear qP0 qP1 qP2 zP qQ0 qQ1 qQ2 zQ
  have B6 : Below w5.heap.size w5 w6 := by (repeat' (first | (with_reducible exact Below.refl _ _) | (with_reducible assumption) | (with_reducible refine Below.alloc ?_ ?_ _) | (with_reducible refine Below.setCell ?_ ?_ _) | (with_reducible refine below_row ?_ ?_ _) | (with_reducible refine Below.drew ?_) | (with_reducible refine below_drewN ?_ _) | (with_reducible refine Below.trans ?_ (Below.mono (by assumption) ?_)) | (first | exact Nat.le_refl _ | omega | (simp; done) | (simp; omega))))
  have HP_6 := Lib.hid (HP_5.out.after B6)
  have HQ_6 := Lib.hid (HQ_5.out.after B6)
  clear HP_5 HQ_5
  have A6 : Below w.heap.size w w6 := A5.trans (B6.mono A5.size)
  clear A5 hb6 B6
  have qP0 := HP_6.out.cell 0
  have qP1 := HP_6.out.cell 1
  have qP2 := HP_6.out.cell 2
  have zP := HP_6.out.lt
  have qQ0 := HQ_6.out.cell 0
  have qQ1 := HQ_6.out.cell 1
  have qQ2 := HQ_6.out.cell 2
  have zQ := HQ_6.out.lt
  go_wp2_with fail
  refine (HD.out _).mono ?_
  rintro _ w7 ⟨rfl, hb7⟩
  have s7 := hb7.size; try simp only [World.size_alloc, World.size_setCell, World.size_drew, setRow_size] at s7
  clear qP0 qP1 qP2 zP qQ0 qQ1 qQ2 zQ
  have B7 : Below w6.heap.size w6 w7 := by (repeat' (first | (with_reducible exact Below.refl _ _) | (with_reducible assumption) | (with_reducible refine Below.alloc ?_ ?_ _) | (with_reducible refine Below.setCell ?_ ?_ _) | (with_reducible refine below_row ?_ ?_ _) | (with_reducible refine Below.drew ?_) | (with_reducible refine below_drewN ?_ _) | (with_reducible refine Below.trans ?_ (Below.mono (by assumption) ?_)) | (first | exact Nat.le_refl _ | omega | (simp; done) | (simp; omega))))
  have HP_7 := Lib.hid (HP_6.out.after B7)
  have HQ_7 := Lib.hid (HQ_6.out.after B7)
  have HX_7 := Lib.hid (show Lies w7 _ 28 #[.int .i64 p, .int .i64 q, .int .i64 r] from (by first | exact (Lies.made w6 28 #[.int .i64 p, .int .i64 q, .int .i64 r]).after hb7 | exact ((Lies.made w6 28 #[.int .i64 p, .int .i64 q, .int .i64 r]).alloc _).after hb7 | exact (((Lies.made w6 28 #[.int .i64 p, .int .i64 q, .int .i64 r]).alloc _).alloc _).after hb7))
  clear HP_6 HQ_6
  have A7 : Below w.heap.size w w7 := A6.trans (B7.mono A6.size)
  clear A6 hb7 B7
  rcases hq with ⟨rfl, rfl, g1, g2, d1, d2, d3, d4, d5, d6⟩ | ⟨rfl, rfl⟩ | ⟨rfl, rfl⟩ | ⟨rfl, rfl⟩
  · have HG := Lib.hid (fun W => Fit_ok p q r p' q' r' W (bad2_iff.2 ⟨g1, g2⟩))
    have hk := kinds_in (al - bu) (au - bl) (q - r') (r - q') (by omega) (by omega) (by omega) (by omega)
    clear g1 g2
    generalize kindS (al - bu) (au - bl) = K at *
    generalize kindS (q - r') (r - q') = M at *
    have e1 : al - bu ≤ q - r' := by omega
    have e2 : r - q' ≤ au - bl := by omega
    have f1 : decide (al - bu ≤ q - r') = true := decide_eq_true e1
    have f2 : decide (r - q' ≤ au - bl) = true := decide_eq_true e2
    have qP0 := HP_7.out.cell 0
    have qP1 := HP_7.out.cell 1
    have qP2 := HP_7.out.cell 2
    have zP := HP_7.out.lt
    have qQ0 := HQ_7.out.cell 0
    have qQ1 := HQ_7.out.cell 1
    have qQ2 := HQ_7.out.cell 2
    have zQ := HQ_7.out.lt
    have qX0 := HX_7.out.cell 0
    have qX1 := HX_7.out.cell 1
    have qX2 := HX_7.out.cell 2
    have zX := HX_7.out.lt
    go_wp2_with fail
    refine (HF.out _).mono ?_
    rintro _ w8 ⟨rfl, hb8⟩
    have s8 := hb8.size; try simp only [World.size_alloc, World.size_setCell, World.size_drew, setRow_size] at s8
    clear qP0 qP1 qP2 zP qQ0 qQ1 qQ2 zQ qX0 qX1 qX2 zX
    have B8 : Below w7.heap.size w7 w8 := by (repeat' (first | (with_reducible exact Below.refl _ _) | (with_reducible assumption) | (with_reducible refine Below.alloc ?_ ?_ _) | (with_reducible refine Below.setCell ?_ ?_ _) | (with_reducible refine below_row ?_ ?_ _) | (with_reducible refine Below.drew ?_) | (with_reducible refine below_drewN ?_ _) | (with_reducible refine Below.trans ?_ (Below.mono (by assumption) ?_)) | (first | exact Nat.le_refl _ | omega | (simp; done) | (simp; omega))))
    have HP_8 := Lib.hid (HP_7.out.after B8)
    have HQ_8 := Lib.hid (HQ_7.out.after B8)
    have HX_8 := Lib.hid (HX_7.out.after B8)
    have HY_8 := Lib.hid (show Lies w8 _ 28 #[.int .i64 p', .int .i64 q', .int .i64 r'] from (by first | exact (Lies.made w7 28 #[.int .i64 p', .int .i64 q', .int .i64 r']).after hb8 | exact ((Lies.made w7 28 #[.int .i64 p', .int .i64 q', .int .i64 r']).alloc _).after hb8 | exact (((Lies.made w7 28 #[.int .i64 p', .int .i64 q', .int .i64 r']).alloc _).alloc _).after hb8))
    clear HP_7 HQ_7 HX_7
    have A8 : Below w.heap.size w w8 := A7.trans (B8.mono A7.size)
    clear A7 hb8 B8
    have qP0 := HP_8.out.cell 0
    have qP1 := HP_8.out.cell 1
    have qP2 := HP_8.out.cell 2
    have zP := HP_8.out.lt
    have qQ0 := HQ_8.out.cell 0
    have qQ1 := HQ_8.out.cell 1
    have qQ2 := HQ_8.out.cell 2
    have zQ := HQ_8.out.lt
    have qX0 := HX_8.out.cell 0
    have qX1 := HX_8.out.cell 1
    have qX2 := HX_8.out.cell 2
    have zX := HX_8.out.lt
    have qY0 := HY_8.out.cell 0
    have qY1 := HY_8.out.cell 1
    have qY2 := HY_8.out.cell 2
    have zY := HY_8.out.lt
    go_wp2_with fail
    refine (HG.out _).mono ?_
    rintro _ w9 ⟨rfl, hb9⟩
    have s9 := hb9.size; try simp only [World.size_alloc, World.size_setCell, World.size_drew, setRow_size] at s9
    clear qP0 qP1 qP2 zP qQ0 qQ1 qQ2 zQ qX0 qX1 qX2 zX qY0 qY1 qY2 zY
    have B9 : Below w8.heap.size w8 w9 := by (repeat' (first | (with_reducible exact Below.refl _ _) | (with_reducible assumption) | (with_reducible refine Below.alloc ?_ ?_ _) | (with_reducible refine Below.setCell ?_ ?_ _) | (with_reducible refine below_row ?_ ?_ _) | (with_reducible refine Below.drew ?_) | (with_reducible refine below_drewN ?_ _) | (with_reducible refine Below.trans ?_ (Below.mono (by assumption) ?_)) | (first | exact Nat.le_refl _ | omega | (simp; done) | (simp; omega))))
    have HP_9 := Lib.hid (HP_8.out.after B9)
    have HQ_9 := Lib.hid (HQ_8.out.after B9)
    have HX_9 := Lib.hid (HX_8.out.after B9)
    have HY_9 := Lib.hid (HY_8.out.after B9)
    have HS_9 := Lib.hid (show Lies w9 _ 31 #[.int .i64 (al - bu), .int .i64 (au - bl)] from (by first | exact (Lies.made w8 31 #[.int .i64 (al - bu), .int .i64 (au - bl)]).after hb9 | exact ((Lies.made w8 31 #[.int .i64 (al - bu), .int .i64 (au - bl)]).alloc _).after hb9 | exact (((Lies.made w8 31 #[.int .i64 (al - bu), .int .i64 (au - bl)]).alloc _).alloc _).after hb9))
    clear HP_8 HQ_8 HX_8 HY_8
    have A9 : Below w.heap.size w w9 := A8.trans (B9.mono A8.size)
    clear A8 hb9 B9
    have qS0 := HS_9.out.cell 0
    have qS1 := HS_9.out.cell 1
    have zS := HS_9.out.lt
    rcases hk with ⟨rfl, rfl⟩ | ⟨rfl, rfl⟩ | ⟨rfl, rfl, g3, g4, g5⟩ | rfl
    case' inr.inr.inl => have n0 : (al - bu == 0) = false := by rw [beq_eq_false_iff_ne]; omega
    case' inr.inr.inl => have n1 : ¬ al - bu = 0 := by omega
    all_goals
      go_wp2
      go_ret
      exact ⟨rfl, by (repeat' (first | (with_reducible exact Below.refl _ _) | (with_reducible assumption) | (with_reducible refine Below.alloc ?_ ?_ _) | (with_reducible refine Below.setCell ?_ ?_ _) | (with_reducible refine below_row ?_ ?_ _) | (with_reducible refine Below.drew ?_) | (with_reducible refine below_drewN ?_ _) | (with_reducible refine Below.trans ?_ (Below.mono (by assumption) ?_)) | (first | exact Nat.le_refl _ | omega | (simp; done) | (simp; omega))))⟩
  all_goals
    go_wp2
    go_ret
    exact ⟨rfl, by (repeat' (first | (with_reducible exact Below.refl _ _) | (with_reducible assumption) | (with_reducible refine Below.alloc ?_ ?_ _) | (with_reducible refine Below.setCell ?_ ?_ _) | (with_reducible refine below_row ?_ ?_ _) | (with_reducible refine Below.drew ?_) | (with_reducible refine below_drewN ?_ _) | (with_reducible refine Below.trans ?_ (Below.mono (by assumption) ?_)) | (first | exact Nat.le_refl _ | omega | (simp; done) | (simp; omega))))⟩
theorem redrawn_any (an al au bn bl bu b1 b2 : Int) (w : World) (he : Env w) (x0 : 0 ≤ b1) (x1 : b1 ≤ 255) (y0 : 0 ≤ b2) (y1 : b2 ≤ 255) : Calls Tryd.prog 10 #[.agg #[.int .i64 an, .int .i64 al, .int .i64 au], .agg #[.int .i64 bn, .int .i64 bl, .int .i64 bu], .int .u8 b1, .int .u8 b2] w (Trues w) := by
  cases h : okD an al au
  · exact redrawn_a an al au bn bl bu b1 b2 w he x0 x1 y0 y1 h
  · cases h' : okD bn bl bu
    · exact redrawn_b an al au bn bl bu b1 b2 w he x0 x1 y0 y1 h h'
    · exact redrawn_ok an al au bn bl bu b1 b2 w he x0 x1 y0 y1 h h'
end Go.Proofs.YtldjkdomklgmaaaDoor
