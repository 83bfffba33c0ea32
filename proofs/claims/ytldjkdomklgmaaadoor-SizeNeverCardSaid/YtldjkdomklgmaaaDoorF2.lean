/- The law SizeFitted: the walk. -/
import Derived.Test.YtldjkdomklgmaaaDoorV3
import Derived.Test.YtldjkdomklgmaaaDoorR0
import Derived.Test.YtldjkdomklgmaaaDoorF1
namespace Go.Proofs.YtldjkdomklgmaaaDoor
set_option linter.unusedVariables false
set_option linter.unusedSimpArgs false
open Go.RowKit

/-- A law that returns true and turns nothing that lay there. -/
def Trues (w : World) (e : Ending) (w' : World) : Prop := e = .returned (.bool true) ∧ Below w.heap.size w w'
theorem kindS_pair (lo hi : Int) (h : lo ≤ hi) : (0 ≤ lo ∧ 0 < hi ∧ kindS lo hi = 1 ∧ kindS (-hi) (-lo) = 2) ∨ (lo = 0 ∧ hi = 0 ∧ kindS lo hi = 1 ∧ kindS (-hi) (-lo) = 1) ∨ (lo < 0 ∧ hi ≤ 0 ∧ kindS lo hi = 2 ∧ kindS (-hi) (-lo) = 1) ∨ (lo < 0 ∧ 0 < hi ∧ kindS lo hi = 3 ∧ kindS (-hi) (-lo) = 3) := by
  unfold kindS
  by_cases h1 : 0 ≤ lo
  · by_cases h2 : 0 < hi
    · exact .inl ⟨h1, h2, by rw [if_pos h1], by rw [if_neg (by omega), if_pos (by omega)]⟩
    · exact .inr (.inl ⟨by omega, by omega, by rw [if_pos h1], by rw [if_pos (by omega)]⟩)
  · by_cases h2 : hi ≤ 0
    · exact .inr (.inr (.inl ⟨by omega, h2, by rw [if_neg h1, if_pos h2], by rw [if_pos (by omega)]⟩))
    · exact .inr (.inr (.inr ⟨by omega, by omega, by rw [if_neg h1, if_neg h2], by rw [if_neg (by omega), if_neg (by omega)]⟩))

set_option maxHeartbeats 8000000 in
set_option maxRecDepth 100000 in
theorem fitted_a (an al au bn bl bu b1 b2 : Int) (w : World) (he : Env w) (x0 : 0 ≤ b1) (x1 : b1 ≤ 4294967295) (y0 : 0 ≤ b2) (y1 : b2 ≤ 4294967295) (h : okD an al au = false) :
    Calls Tryd.prog 9 #[.agg #[.int .i64 an, .int .i64 al, .int .i64 au], .agg #[.int .i64 bn, .int .i64 bl, .int .i64 bu], .int .u32 b1, .int .u32 b2] w (Trues w) := by
  have HE := Lib.hid (fun W (hW : Below w.heap.size w W) => he.after hW)
  have HA := Lib.hid (fun W => h ▸ rDim_any an al au W)
  clear he h x0 x1 y0 y1
  go_enter Tryd.func9, Tryd.ntmps9
  go_wp2_with fail
  refine (alive_any _ (HE.out _ (by (repeat' (first | (with_reducible exact Below.refl _ _) | (with_reducible assumption) | (with_reducible refine Below.alloc ?_ ?_ _) | (with_reducible refine Below.setCell ?_ ?_ _) | (with_reducible refine below_row ?_ ?_ _) | (with_reducible refine Below.drew ?_) | (with_reducible refine below_drewN ?_ _) | (with_reducible refine Below.trans ?_ (Below.mono (by assumption) ?_)) | (first | exact Nat.le_refl _ | omega | (simp; done) | (simp; omega))))))).mono ?_
  rintro _ w1 ⟨rfl, hb1⟩
  have s1 := hb1.size; try simp only [World.size_alloc, World.size_setCell, World.size_drew, setRow_size] at s1
  have B1 : Below w.heap.size w w1 := by (repeat' (first | (with_reducible exact Below.refl _ _) | (with_reducible assumption) | (with_reducible refine Below.alloc ?_ ?_ _) | (with_reducible refine Below.setCell ?_ ?_ _) | (with_reducible refine below_row ?_ ?_ _) | (with_reducible refine Below.drew ?_) | (with_reducible refine below_drewN ?_ _) | (with_reducible refine Below.trans ?_ (Below.mono (by assumption) ?_)) | (first | exact Nat.le_refl _ | omega | (simp; done) | (simp; omega))))
  have HP_1 := Lib.hid (show Lies w1 _ 28 #[.int .i64 an, .int .i64 al, .int .i64 au] from (by first | exact (Lies.made w 28 #[.int .i64 an, .int .i64 al, .int .i64 au]).after hb1 | exact ((Lies.made w 28 #[.int .i64 an, .int .i64 al, .int .i64 au]).alloc _).after hb1 | exact (((Lies.made w 28 #[.int .i64 an, .int .i64 al, .int .i64 au]).alloc _).alloc _).after hb1))
  have HQ_1 := Lib.hid (show Lies w1 _ 28 #[.int .i64 bn, .int .i64 bl, .int .i64 bu] from (by first | exact (Lies.made (w.alloc (.cells #[.int .i64 an, .int .i64 al, .int .i64 au] 28)) 28 #[.int .i64 bn, .int .i64 bl, .int .i64 bu]).after hb1 | exact ((Lies.made (w.alloc (.cells #[.int .i64 an, .int .i64 al, .int .i64 au] 28)) 28 #[.int .i64 bn, .int .i64 bl, .int .i64 bu]).alloc _).after hb1 | exact (((Lies.made (w.alloc (.cells #[.int .i64 an, .int .i64 al, .int .i64 au] 28)) 28 #[.int .i64 bn, .int .i64 bl, .int .i64 bu]).alloc _).alloc _).after hb1))
  have A1 : Below w.heap.size w w1 := B1
  clear hb1 B1
  simp only [World.size_alloc] at HQ_1
  have qP0 := HP_1.out.cell 0
  have qP1 := HP_1.out.cell 1
  have qP2 := HP_1.out.cell 2
  have zP := HP_1.out.lt
  have qQ0 := HQ_1.out.cell 0
  have qQ1 := HQ_1.out.cell 1
  have qQ2 := HQ_1.out.cell 2
  have zQ := HQ_1.out.lt
  go_wp2_with fail
  refine (HA.out _).mono ?_
  rintro _ w2 ⟨rfl, hb2⟩
  have s2 := hb2.size; try simp only [World.size_alloc, World.size_setCell, World.size_drew, setRow_size] at s2
  clear qP0 qP1 qP2 zP qQ0 qQ1 qQ2 zQ
  have B2 : Below w1.heap.size w1 w2 := by (repeat' (first | (with_reducible exact Below.refl _ _) | (with_reducible assumption) | (with_reducible refine Below.alloc ?_ ?_ _) | (with_reducible refine Below.setCell ?_ ?_ _) | (with_reducible refine below_row ?_ ?_ _) | (with_reducible refine Below.drew ?_) | (with_reducible refine below_drewN ?_ _) | (with_reducible refine Below.trans ?_ (Below.mono (by assumption) ?_)) | (first | exact Nat.le_refl _ | omega | (simp; done) | (simp; omega))))
  have HP_2 := Lib.hid (HP_1.out.after B2)
  have HQ_2 := Lib.hid (HQ_1.out.after B2)
  clear HP_1 HQ_1
  have A2 : Below w.heap.size w w2 := A1.trans (B2.mono A1.size)
  clear A1 hb2 B2
  go_wp2
  go_ret
  exact ⟨rfl, A2⟩
set_option maxHeartbeats 8000000 in
set_option maxRecDepth 100000 in
theorem fitted_b (an al au bn bl bu b1 b2 : Int) (w : World) (he : Env w) (x0 : 0 ≤ b1) (x1 : b1 ≤ 4294967295) (y0 : 0 ≤ b2) (y1 : b2 ≤ 4294967295) (h : okD an al au = true) (h' : okD bn bl bu = false) :
    Calls Tryd.prog 9 #[.agg #[.int .i64 an, .int .i64 al, .int .i64 au], .agg #[.int .i64 bn, .int .i64 bl, .int .i64 bu], .int .u32 b1, .int .u32 b2] w (Trues w) := by
  have HE := Lib.hid (fun W (hW : Below w.heap.size w W) => he.after hW)
  have HA := Lib.hid (fun W => h ▸ rDim_any an al au W)
  have HB := Lib.hid (fun W => h' ▸ rDim_any bn bl bu W)
  clear he h h' x0 x1 y0 y1
  go_enter Tryd.func9, Tryd.ntmps9
  go_wp2_with fail
  refine (alive_any _ (HE.out _ (by (repeat' (first | (with_reducible exact Below.refl _ _) | (with_reducible assumption) | (with_reducible refine Below.alloc ?_ ?_ _) | (with_reducible refine Below.setCell ?_ ?_ _) | (with_reducible refine below_row ?_ ?_ _) | (with_reducible refine Below.drew ?_) | (with_reducible refine below_drewN ?_ _) | (with_reducible refine Below.trans ?_ (Below.mono (by assumption) ?_)) | (first | exact Nat.le_refl _ | omega | (simp; done) | (simp; omega))))))).mono ?_
  rintro _ w1 ⟨rfl, hb1⟩
  have s1 := hb1.size; try simp only [World.size_alloc, World.size_setCell, World.size_drew, setRow_size] at s1
  have B1 : Below w.heap.size w w1 := by (repeat' (first | (with_reducible exact Below.refl _ _) | (with_reducible assumption) | (with_reducible refine Below.alloc ?_ ?_ _) | (with_reducible refine Below.setCell ?_ ?_ _) | (with_reducible refine below_row ?_ ?_ _) | (with_reducible refine Below.drew ?_) | (with_reducible refine below_drewN ?_ _) | (with_reducible refine Below.trans ?_ (Below.mono (by assumption) ?_)) | (first | exact Nat.le_refl _ | omega | (simp; done) | (simp; omega))))
  have HP_1 := Lib.hid (show Lies w1 _ 28 #[.int .i64 an, .int .i64 al, .int .i64 au] from (by first | exact (Lies.made w 28 #[.int .i64 an, .int .i64 al, .int .i64 au]).after hb1 | exact ((Lies.made w 28 #[.int .i64 an, .int .i64 al, .int .i64 au]).alloc _).after hb1 | exact (((Lies.made w 28 #[.int .i64 an, .int .i64 al, .int .i64 au]).alloc _).alloc _).after hb1))
  have HQ_1 := Lib.hid (show Lies w1 _ 28 #[.int .i64 bn, .int .i64 bl, .int .i64 bu] from (by first | exact (Lies.made (w.alloc (.cells #[.int .i64 an, .int .i64 al, .int .i64 au] 28)) 28 #[.int .i64 bn, .int .i64 bl, .int .i64 bu]).after hb1 | exact ((Lies.made (w.alloc (.cells #[.int .i64 an, .int .i64 al, .int .i64 au] 28)) 28 #[.int .i64 bn, .int .i64 bl, .int .i64 bu]).alloc _).after hb1 | exact (((Lies.made (w.alloc (.cells #[.int .i64 an, .int .i64 al, .int .i64 au] 28)) 28 #[.int .i64 bn, .int .i64 bl, .int .i64 bu]).alloc _).alloc _).after hb1))
  have A1 : Below w.heap.size w w1 := B1
  clear hb1 B1
  simp only [World.size_alloc] at HQ_1
  have qP0 := HP_1.out.cell 0
  have qP1 := HP_1.out.cell 1
  have qP2 := HP_1.out.cell 2
  have zP := HP_1.out.lt
  have qQ0 := HQ_1.out.cell 0
  have qQ1 := HQ_1.out.cell 1
  have qQ2 := HQ_1.out.cell 2
  have zQ := HQ_1.out.lt
  go_wp2_with fail
  refine (HA.out _).mono ?_
  rintro _ w2 ⟨rfl, hb2⟩
  have s2 := hb2.size; try simp only [World.size_alloc, World.size_setCell, World.size_drew, setRow_size] at s2
  clear qP0 qP1 qP2 zP qQ0 qQ1 qQ2 zQ
  have B2 : Below w1.heap.size w1 w2 := by (repeat' (first | (with_reducible exact Below.refl _ _) | (with_reducible assumption) | (with_reducible refine Below.alloc ?_ ?_ _) | (with_reducible refine Below.setCell ?_ ?_ _) | (with_reducible refine below_row ?_ ?_ _) | (with_reducible refine Below.drew ?_) | (with_reducible refine below_drewN ?_ _) | (with_reducible refine Below.trans ?_ (Below.mono (by assumption) ?_)) | (first | exact Nat.le_refl _ | omega | (simp; done) | (simp; omega))))
  have HP_2 := Lib.hid (HP_1.out.after B2)
  have HQ_2 := Lib.hid (HQ_1.out.after B2)
  clear HP_1 HQ_1
  have A2 : Below w.heap.size w w2 := A1.trans (B2.mono A1.size)
  clear A1 hb2 B2
  have qP0 := HP_2.out.cell 0
  have qP1 := HP_2.out.cell 1
  have qP2 := HP_2.out.cell 2
  have zP := HP_2.out.lt
  have qQ0 := HQ_2.out.cell 0
  have qQ1 := HQ_2.out.cell 1
  have qQ2 := HQ_2.out.cell 2
  have zQ := HQ_2.out.lt
  go_wp2_with fail
  refine (HB.out _).mono ?_
  rintro _ w3 ⟨rfl, hb3⟩
  have s3 := hb3.size; try simp only [World.size_alloc, World.size_setCell, World.size_drew, setRow_size] at s3
  clear qP0 qP1 qP2 zP qQ0 qQ1 qQ2 zQ
  have B3 : Below w2.heap.size w2 w3 := by (repeat' (first | (with_reducible exact Below.refl _ _) | (with_reducible assumption) | (with_reducible refine Below.alloc ?_ ?_ _) | (with_reducible refine Below.setCell ?_ ?_ _) | (with_reducible refine below_row ?_ ?_ _) | (with_reducible refine Below.drew ?_) | (with_reducible refine below_drewN ?_ _) | (with_reducible refine Below.trans ?_ (Below.mono (by assumption) ?_)) | (first | exact Nat.le_refl _ | omega | (simp; done) | (simp; omega))))
  have HP_3 := Lib.hid (HP_2.out.after B3)
  have HQ_3 := Lib.hid (HQ_2.out.after B3)
  clear HP_2 HQ_2
  have A3 : Below w.heap.size w w3 := A2.trans (B3.mono A2.size)
  clear A2 hb3 B3
  go_wp2
  go_ret
  exact ⟨rfl, A3⟩
set_option maxHeartbeats 8000000 in
set_option maxRecDepth 100000 in
theorem fitted_ok (an al au bn bl bu b1 b2 : Int) (w : World) (he : Env w) (x0 : 0 ≤ b1) (x1 : b1 ≤ 4294967295) (y0 : 0 ≤ b2) (y1 : b2 ≤ 4294967295) (h : okD an al au = true) (h' : okD bn bl bu = true) :
    Calls Tryd.prog 9 #[.agg #[.int .i64 an, .int .i64 al, .int .i64 au], .agg #[.int .i64 bn, .int .i64 bl, .int .i64 bu], .int .u32 b1, .int .u32 b2] w (Trues w) := by
  have HE := Lib.hid (fun W (hW : Below w.heap.size w W) => he.after hW)
  have HA := Lib.hid (fun W => h ▸ rDim_any an al au W)
  have HB := Lib.hid (fun W => h' ▸ rDim_any bn bl bu W)
  have HF := Lib.hid (fun W => Fit_ok an al au bn bl bu W (bad2_iff.2 ⟨h, h'⟩))
  have HG := Lib.hid (fun W => Fit_ok bn bl bu an al au W (bad2_iff.2 ⟨h', h⟩))
  have HP := Lib.hid (fun W => pick_any an al au b1 W h x0 x1)
  have HQ := Lib.hid (fun W => pick_any bn bl bu b2 W h' y0 y1)
  obtain ⟨a1, a2, a3, a4, a5⟩ := okD_iff.1 h
  obtain ⟨c1, c2, c3, c4, c5⟩ := okD_iff.1 h'
  have hk := kindS_pair (al - bu) (au - bl) (by omega)
  rw [show -(au - bl) = bl - au by omega, show -(al - bu) = bu - al by omega] at hk
  clear he h h' x0 x1 y0 y1
  go_enter Tryd.func9, Tryd.ntmps9
  go_wp2_with fail
  refine (alive_any _ (HE.out _ (by (repeat' (first | (with_reducible exact Below.refl _ _) | (with_reducible assumption) | (with_reducible refine Below.alloc ?_ ?_ _) | (with_reducible refine Below.setCell ?_ ?_ _) | (with_reducible refine below_row ?_ ?_ _) | (with_reducible refine Below.drew ?_) | (with_reducible refine below_drewN ?_ _) | (with_reducible refine Below.trans ?_ (Below.mono (by assumption) ?_)) | (first | exact Nat.le_refl _ | omega | (simp; done) | (simp; omega))))))).mono ?_
  rintro _ w1 ⟨rfl, hb1⟩
  have s1 := hb1.size; try simp only [World.size_alloc, World.size_setCell, World.size_drew, setRow_size] at s1
  have B1 : Below w.heap.size w w1 := by (repeat' (first | (with_reducible exact Below.refl _ _) | (with_reducible assumption) | (with_reducible refine Below.alloc ?_ ?_ _) | (with_reducible refine Below.setCell ?_ ?_ _) | (with_reducible refine below_row ?_ ?_ _) | (with_reducible refine Below.drew ?_) | (with_reducible refine below_drewN ?_ _) | (with_reducible refine Below.trans ?_ (Below.mono (by assumption) ?_)) | (first | exact Nat.le_refl _ | omega | (simp; done) | (simp; omega))))
  have HP_1 := Lib.hid (show Lies w1 _ 28 #[.int .i64 an, .int .i64 al, .int .i64 au] from (by first | exact (Lies.made w 28 #[.int .i64 an, .int .i64 al, .int .i64 au]).after hb1 | exact ((Lies.made w 28 #[.int .i64 an, .int .i64 al, .int .i64 au]).alloc _).after hb1 | exact (((Lies.made w 28 #[.int .i64 an, .int .i64 al, .int .i64 au]).alloc _).alloc _).after hb1))
  have HQ_1 := Lib.hid (show Lies w1 _ 28 #[.int .i64 bn, .int .i64 bl, .int .i64 bu] from (by first | exact (Lies.made (w.alloc (.cells #[.int .i64 an, .int .i64 al, .int .i64 au] 28)) 28 #[.int .i64 bn, .int .i64 bl, .int .i64 bu]).after hb1 | exact ((Lies.made (w.alloc (.cells #[.int .i64 an, .int .i64 al, .int .i64 au] 28)) 28 #[.int .i64 bn, .int .i64 bl, .int .i64 bu]).alloc _).after hb1 | exact (((Lies.made (w.alloc (.cells #[.int .i64 an, .int .i64 al, .int .i64 au] 28)) 28 #[.int .i64 bn, .int .i64 bl, .int .i64 bu]).alloc _).alloc _).after hb1))
  have A1 : Below w.heap.size w w1 := B1
  clear hb1 B1
  simp only [World.size_alloc] at HQ_1
  have qP0 := HP_1.out.cell 0
  have qP1 := HP_1.out.cell 1
  have qP2 := HP_1.out.cell 2
  have zP := HP_1.out.lt
  have qQ0 := HQ_1.out.cell 0
  have qQ1 := HQ_1.out.cell 1
  have qQ2 := HQ_1.out.cell 2
  have zQ := HQ_1.out.lt
  go_wp2_with fail
  refine (HA.out _).mono ?_
  rintro _ w2 ⟨rfl, hb2⟩
  have s2 := hb2.size; try simp only [World.size_alloc, World.size_setCell, World.size_drew, setRow_size] at s2
  clear qP0 qP1 qP2 zP qQ0 qQ1 qQ2 zQ
  have B2 : Below w1.heap.size w1 w2 := by (repeat' (first | (with_reducible exact Below.refl _ _) | (with_reducible assumption) | (with_reducible refine Below.alloc ?_ ?_ _) | (with_reducible refine Below.setCell ?_ ?_ _) | (with_reducible refine below_row ?_ ?_ _) | (with_reducible refine Below.drew ?_) | (with_reducible refine below_drewN ?_ _) | (with_reducible refine Below.trans ?_ (Below.mono (by assumption) ?_)) | (first | exact Nat.le_refl _ | omega | (simp; done) | (simp; omega))))
  have HP_2 := Lib.hid (HP_1.out.after B2)
  have HQ_2 := Lib.hid (HQ_1.out.after B2)
  clear HP_1 HQ_1
  have A2 : Below w.heap.size w w2 := A1.trans (B2.mono A1.size)
  clear A1 hb2 B2
  have qP0 := HP_2.out.cell 0
  have qP1 := HP_2.out.cell 1
  have qP2 := HP_2.out.cell 2
  have zP := HP_2.out.lt
  have qQ0 := HQ_2.out.cell 0
  have qQ1 := HQ_2.out.cell 1
  have qQ2 := HQ_2.out.cell 2
  have zQ := HQ_2.out.lt
  go_wp2_with fail
  refine (HB.out _).mono ?_
  rintro _ w3 ⟨rfl, hb3⟩
  have s3 := hb3.size; try simp only [World.size_alloc, World.size_setCell, World.size_drew, setRow_size] at s3
  clear qP0 qP1 qP2 zP qQ0 qQ1 qQ2 zQ
  have B3 : Below w2.heap.size w2 w3 := by (repeat' (first | (with_reducible exact Below.refl _ _) | (with_reducible assumption) | (with_reducible refine Below.alloc ?_ ?_ _) | (with_reducible refine Below.setCell ?_ ?_ _) | (with_reducible refine below_row ?_ ?_ _) | (with_reducible refine Below.drew ?_) | (with_reducible refine below_drewN ?_ _) | (with_reducible refine Below.trans ?_ (Below.mono (by assumption) ?_)) | (first | exact Nat.le_refl _ | omega | (simp; done) | (simp; omega))))
  have HP_3 := Lib.hid (HP_2.out.after B3)
  have HQ_3 := Lib.hid (HQ_2.out.after B3)
  clear HP_2 HQ_2
  have A3 : Below w.heap.size w w3 := A2.trans (B3.mono A2.size)
  clear A2 hb3 B3
  have qP0 := HP_3.out.cell 0
  have qP1 := HP_3.out.cell 1
  have qP2 := HP_3.out.cell 2
  have zP := HP_3.out.lt
  have qQ0 := HQ_3.out.cell 0
  have qQ1 := HQ_3.out.cell 1
  have qQ2 := HQ_3.out.cell 2
  have zQ := HQ_3.out.lt
  go_wp2_with fail
  refine (HF.out _).mono ?_
  rintro _ w4 ⟨rfl, hb4⟩
  have s4 := hb4.size; try simp only [World.size_alloc, World.size_setCell, World.size_drew, setRow_size] at s4
  clear qP0 qP1 qP2 zP qQ0 qQ1 qQ2 zQ
  have B4 : Below w3.heap.size w3 w4 := by (repeat' (first | (with_reducible exact Below.refl _ _) | (with_reducible assumption) | (with_reducible refine Below.alloc ?_ ?_ _) | (with_reducible refine Below.setCell ?_ ?_ _) | (with_reducible refine below_row ?_ ?_ _) | (with_reducible refine Below.drew ?_) | (with_reducible refine below_drewN ?_ _) | (with_reducible refine Below.trans ?_ (Below.mono (by assumption) ?_)) | (first | exact Nat.le_refl _ | omega | (simp; done) | (simp; omega))))
  have HP_4 := Lib.hid (HP_3.out.after B4)
  have HQ_4 := Lib.hid (HQ_3.out.after B4)
  clear HP_3 HQ_3
  have A4 : Below w.heap.size w w4 := A3.trans (B4.mono A3.size)
  clear A3 hb4 B4
  have qP0 := HP_4.out.cell 0
  have qP1 := HP_4.out.cell 1
  have qP2 := HP_4.out.cell 2
  have zP := HP_4.out.lt
  have qQ0 := HQ_4.out.cell 0
  have qQ1 := HQ_4.out.cell 1
  have qQ2 := HQ_4.out.cell 2
  have zQ := HQ_4.out.lt
  go_wp2_with fail
  refine (HG.out _).mono ?_
  rintro _ w5 ⟨rfl, hb5⟩
  have s5 := hb5.size; try simp only [World.size_alloc, World.size_setCell, World.size_drew, setRow_size] at s5
  clear qP0 qP1 qP2 zP qQ0 qQ1 qQ2 zQ
  have B5 : Below w4.heap.size w4 w5 := by (repeat' (first | (with_reducible exact Below.refl _ _) | (with_reducible assumption) | (with_reducible refine Below.alloc ?_ ?_ _) | (with_reducible refine Below.setCell ?_ ?_ _) | (with_reducible refine below_row ?_ ?_ _) | (with_reducible refine Below.drew ?_) | (with_reducible refine below_drewN ?_ _) | (with_reducible refine Below.trans ?_ (Below.mono (by assumption) ?_)) | (first | exact Nat.le_refl _ | omega | (simp; done) | (simp; omega))))
  have HP_5 := Lib.hid (HP_4.out.after B5)
  have HQ_5 := Lib.hid (HQ_4.out.after B5)
  have HS_5 := Lib.hid (show Lies w5 _ 31 #[.int .i64 (al - bu), .int .i64 (au - bl)] from (by first | exact (Lies.made w4 31 #[.int .i64 (al - bu), .int .i64 (au - bl)]).after hb5 | exact ((Lies.made w4 31 #[.int .i64 (al - bu), .int .i64 (au - bl)]).alloc _).after hb5 | exact (((Lies.made w4 31 #[.int .i64 (al - bu), .int .i64 (au - bl)]).alloc _).alloc _).after hb5))
  clear HP_4 HQ_4
  have A5 : Below w.heap.size w w5 := A4.trans (B5.mono A4.size)
  clear A4 hb5 B5
  go_wp2_with fail
  have rP0 := HP_5.out.cell 0
  have rP1 := HP_5.out.cell 1
  have rP2 := HP_5.out.cell 2
  have yP := HP_5.out.lt
  have uPT : ¬ w5.heap.size = w.heap.size := by omega
  have vPT : ¬ w.heap.size = w5.heap.size := by omega
  have rQ0 := HQ_5.out.cell 0
  have rQ1 := HQ_5.out.cell 1
  have rQ2 := HQ_5.out.cell 2
  have yQ := HQ_5.out.lt
  have uQT : ¬ w5.heap.size = w.heap.size + 1 := by omega
  have vQT : ¬ w.heap.size + 1 = w5.heap.size := by omega
  go_region_held3 (fun W => W.cell? ⟨w.heap.size, 0, none⟩ = some (.int .i64 an) ∧ W.cell? ⟨w.heap.size, 1, none⟩ = some (.int .i64 al) ∧ W.cell? ⟨w.heap.size, 2, none⟩ = some (.int .i64 au) ∧ W.cell? ⟨w.heap.size + 1, 0, none⟩ = some (.int .i64 bn) ∧ W.cell? ⟨w.heap.size + 1, 1, none⟩ = some (.int .i64 bl) ∧ W.cell? ⟨w.heap.size + 1, 2, none⟩ = some (.int .i64 bu)) (go_keep)
      (first | (go_at_call 36; (with_reducible refine (HP.out _).mono ?_); rintro e w6 ⟨p1, hp1, hp2, rfl, hb2⟩; have hq : Below w5.heap.size w5 w6 := Below.trans (by (repeat' (first | (with_reducible exact Below.refl _ _) | (with_reducible assumption) | (with_reducible refine Below.alloc ?_ ?_ _) | (with_reducible refine Below.setCell ?_ ?_ _) | (with_reducible refine below_row ?_ ?_ _) | (with_reducible refine Below.drew ?_) | (with_reducible refine below_drewN ?_ _) | (with_reducible refine Below.trans ?_ (Below.mono (by assumption) ?_)) | (first | exact Nat.le_refl _ | omega | (simp; done) | (simp; omega))))) (hb2.mono (Below.size (B := w5.heap.size) (by (repeat' (first | (with_reducible exact Below.refl _ _) | (with_reducible assumption) | (with_reducible refine Below.alloc ?_ ?_ _) | (with_reducible refine Below.setCell ?_ ?_ _) | (with_reducible refine below_row ?_ ?_ _) | (with_reducible refine Below.drew ?_) | (with_reducible refine below_drewN ?_ _) | (with_reducible refine Below.trans ?_ (Below.mono (by assumption) ?_)) | (first | exact Nat.le_refl _ | omega | (simp; done) | (simp; omega))))))); have hb4 : Below (w5.heap.size + 1) (w5.alloc (.cells #[.int .i64 (bl - au), .int .i64 (bu - al)] 31)) w6 := Below.trans (by (repeat' (first | (with_reducible exact Below.refl _ _) | (with_reducible assumption) | (with_reducible refine Below.alloc ?_ ?_ _) | (with_reducible refine Below.setCell ?_ ?_ _) | (with_reducible refine below_row ?_ ?_ _) | (with_reducible refine Below.drew ?_) | (with_reducible refine below_drewN ?_ _) | (with_reducible refine Below.trans ?_ (Below.mono (by assumption) ?_)) | (first | exact Nat.le_refl _ | omega | (simp; done) | (simp; omega))))) (hb2.mono (by first | omega | (simp; done) | (simp; omega))); have s6 : w5.heap.size + 1 ≤ w6.heap.size := (by have h := hb4.size; simp only [World.size_alloc] at h; omega); have LP := HP_5.out.after hq; have cP0 := LP.cell 0; have cP1 := LP.cell 1; have cP2 := LP.cell 2; clear LP; have LQ := HQ_5.out.after hq; have cQ0 := LQ.cell 0; have cQ1 := LQ.cell 1; have cQ2 := LQ.cell 2; clear LQ) | (go_at_call 36; (with_reducible refine (HQ.out _).mono ?_); rintro e w6 ⟨p2, hq1, hq2, rfl, hb2⟩; have hq : Below w5.heap.size w5 w6 := Below.trans (by (repeat' (first | (with_reducible exact Below.refl _ _) | (with_reducible assumption) | (with_reducible refine Below.alloc ?_ ?_ _) | (with_reducible refine Below.setCell ?_ ?_ _) | (with_reducible refine below_row ?_ ?_ _) | (with_reducible refine Below.drew ?_) | (with_reducible refine below_drewN ?_ _) | (with_reducible refine Below.trans ?_ (Below.mono (by assumption) ?_)) | (first | exact Nat.le_refl _ | omega | (simp; done) | (simp; omega))))) (hb2.mono (Below.size (B := w5.heap.size) (by (repeat' (first | (with_reducible exact Below.refl _ _) | (with_reducible assumption) | (with_reducible refine Below.alloc ?_ ?_ _) | (with_reducible refine Below.setCell ?_ ?_ _) | (with_reducible refine below_row ?_ ?_ _) | (with_reducible refine Below.drew ?_) | (with_reducible refine below_drewN ?_ _) | (with_reducible refine Below.trans ?_ (Below.mono (by assumption) ?_)) | (first | exact Nat.le_refl _ | omega | (simp; done) | (simp; omega))))))); have hb4 : Below (w5.heap.size + 1) (w5.alloc (.cells #[.int .i64 (bl - au), .int .i64 (bu - al)] 31)) w6 := Below.trans (by (repeat' (first | (with_reducible exact Below.refl _ _) | (with_reducible assumption) | (with_reducible refine Below.alloc ?_ ?_ _) | (with_reducible refine Below.setCell ?_ ?_ _) | (with_reducible refine below_row ?_ ?_ _) | (with_reducible refine Below.drew ?_) | (with_reducible refine below_drewN ?_ _) | (with_reducible refine Below.trans ?_ (Below.mono (by assumption) ?_)) | (first | exact Nat.le_refl _ | omega | (simp; done) | (simp; omega))))) (hb2.mono (by first | omega | (simp; done) | (simp; omega))); have s6 : w5.heap.size + 1 ≤ w6.heap.size := (by have h := hb4.size; simp only [World.size_alloc] at h; omega); have LP := HP_5.out.after hq; have cP0 := LP.cell 0; have cP1 := LP.cell 1; have cP2 := LP.cell 2; clear LP; have LQ := HQ_5.out.after hq; have cQ0 := LQ.cell 0; have cQ1 := LQ.cell 1; have cQ2 := LQ.cell 2; clear LQ))
  have A6 : Below w.heap.size w w6 := A5.trans (hq.mono A5.size)
  have HP_6 := Lib.hid (HP_5.out.after hq)
  have HQ_6 := Lib.hid (HQ_5.out.after hq)
  have HS_6 := Lib.hid (HS_5.out.after hq)
  have HT_6 := Lib.hid (show Lies w6 (w5.heap.size) 31 #[.int .i64 (bl - au), .int .i64 (bu - al)] from (by have h := ((Lies.made w5 31 #[.int .i64 (bl - au), .int .i64 (bu - al)]).keep hb4 (by simp)); (try simp only [World.size_alloc] at h); exact h))
  clear HP_5 HQ_5 HS_5 A5 rP0 rP1 rP2 yP uPT vPT cP0 cP1 cP2 rQ0 rQ1 rQ2 yQ uQT vQT cQ0 cQ1 cQ2
  clear hq hb2 hb4
  have kk : IntKind.i64.wrap (p1 - p2) = p1 - p2 := IntWalk.i64_in _ (by omega)
  rw [kk]
  have n1 : ¬ p1 - p2 < al - bu := by omega
  have n2 : ¬ au - bl < p1 - p2 := by omega
  have m1 : -(au - bl) = bl - au := by omega
  have m2 : -(al - bu) = bu - al := by omega
  generalize kindS (al - bu) (au - bl) = K at *
  generalize kindS (bl - au) (bu - al) = M at *
  have qP0 := HP_6.out.cell 0
  have qP1 := HP_6.out.cell 1
  have qP2 := HP_6.out.cell 2
  have qQ0 := HQ_6.out.cell 0
  have qQ1 := HQ_6.out.cell 1
  have qQ2 := HQ_6.out.cell 2
  have qS0 := HS_6.out.cell 0
  have qS1 := HS_6.out.cell 1
  have qT0 := HT_6.out.cell 0
  have qT1 := HT_6.out.cell 1
  have zP := HP_6.out.lt
  have zQ := HQ_6.out.lt
  have zS := HS_6.out.lt
  have zT := HT_6.out.lt
  rcases hk with ⟨h1, h2, rfl, rfl⟩ | ⟨h1, h2, rfl, rfl⟩ | ⟨h1, h2, rfl, rfl⟩ | ⟨h1, h2, rfl, rfl⟩
  case' inr.inl =>
    obtain rfl : bu = al := by omega
    obtain rfl : bl = au := by omega
    obtain rfl : bl = bu := by omega
    obtain rfl : p1 = bl := by omega
    obtain rfl : p2 = p1 := by omega
    clear h1 h2 m1 m2 kk n1 n2
    rw [Int.sub_self] at *
  all_goals
    go_wp2
    go_ret
    exact ⟨rfl, A6⟩
end Go.Proofs.YtldjkdomklgmaaaDoor
