/- The law SizeInside: the walk. -/
import Derived.Test.YtldjkdomklgmaaaDoorF2
import Derived.Test.YtldjkdomklgmaaaDoorF6
import Derived.IntWalk
namespace Go.Proofs.YtldjkdomklgmaaaDoor
set_option linter.unusedVariables false
set_option linter.unusedSimpArgs false
open Go.RowKit

theorem step_1 (b : Int) (w : World) (h0 : 0 ≤ b) (h1 : b ≤ 255) (h : unitOf b = 1) : Calls Tryd.prog 35 #[.int .u8 b] w fun e w' => e = .returned (.tuple #[.int .u8 1, .int .i64 100]) ∧ Below w.heap.size w w' := by
  have := step_b b w h0 h1
  rw [stepOf_eq, h] at this
  exact this
theorem step_2 (b : Int) (w : World) (h0 : 0 ≤ b) (h1 : b ≤ 255) (h : unitOf b = 2) : Calls Tryd.prog 35 #[.int .u8 b] w fun e w' => e = .returned (.tuple #[.int .u8 2, .int .i64 254]) ∧ Below w.heap.size w w' := by
  have := step_b b w h0 h1
  rw [stepOf_eq, h] at this
  exact this

set_option maxHeartbeats 8000000 in
set_option maxRecDepth 100000 in
theorem inside_a (n al au b s : Int) (w : World) (he : Env w) (x0 : 0 ≤ b) (x1 : b ≤ 255) (s0 : 0 ≤ s) (s1 : s ≤ 4294967295) (h : okD n al au = false) :
    Calls Tryd.prog 5 #[.agg #[.int .i64 n, .int .i64 al, .int .i64 au], .int .u8 b, .int .u32 s] w (Trues w) := by
  have HE := Lib.hid (fun W (hW : Below w.heap.size w W) => he.after hW)
  have HA := Lib.hid (fun W => h ▸ rDim_any n al au W)
  clear he h x0 x1 s0 s1
  go_enter Tryd.func5, Tryd.ntmps5
  go_wp2_with fail
  refine (alive_any _ (HE.out _ (by (repeat' (first | (with_reducible exact Below.refl _ _) | (with_reducible assumption) | (with_reducible refine Below.alloc ?_ ?_ _) | (with_reducible refine Below.setCell ?_ ?_ _) | (with_reducible refine below_row ?_ ?_ _) | (with_reducible refine Below.drew ?_) | (with_reducible refine below_drewN ?_ _) | (with_reducible refine Below.trans ?_ (Below.mono (by assumption) ?_)) | (first | exact Nat.le_refl _ | omega | (simp; done) | (simp; omega))))))).mono ?_
  rintro _ w1 ⟨rfl, hb1⟩
  have s1 := hb1.size; try simp only [World.size_alloc, World.size_setCell, World.size_drew, setRow_size] at s1
  have B1 : Below w.heap.size w w1 := by (repeat' (first | (with_reducible exact Below.refl _ _) | (with_reducible assumption) | (with_reducible refine Below.alloc ?_ ?_ _) | (with_reducible refine Below.setCell ?_ ?_ _) | (with_reducible refine below_row ?_ ?_ _) | (with_reducible refine Below.drew ?_) | (with_reducible refine below_drewN ?_ _) | (with_reducible refine Below.trans ?_ (Below.mono (by assumption) ?_)) | (first | exact Nat.le_refl _ | omega | (simp; done) | (simp; omega))))
  have HP_1 := Lib.hid (show Lies w1 _ 28 #[.int .i64 n, .int .i64 al, .int .i64 au] from (by first | exact (Lies.made w 28 #[.int .i64 n, .int .i64 al, .int .i64 au]).after hb1 | exact ((Lies.made w 28 #[.int .i64 n, .int .i64 al, .int .i64 au]).alloc _).after hb1 | exact (((Lies.made w 28 #[.int .i64 n, .int .i64 al, .int .i64 au]).alloc _).alloc _).after hb1))
  have A1 : Below w.heap.size w w1 := B1
  clear hb1 B1
  have qP0 := HP_1.out.cell 0
  have qP1 := HP_1.out.cell 1
  have qP2 := HP_1.out.cell 2
  have zP := HP_1.out.lt
  go_wp2_with fail
  refine (HA.out _).mono ?_
  rintro _ w2 ⟨rfl, hb2⟩
  have s2 := hb2.size; try simp only [World.size_alloc, World.size_setCell, World.size_drew, setRow_size] at s2
  clear qP0 qP1 qP2 zP
  have B2 : Below w1.heap.size w1 w2 := by (repeat' (first | (with_reducible exact Below.refl _ _) | (with_reducible assumption) | (with_reducible refine Below.alloc ?_ ?_ _) | (with_reducible refine Below.setCell ?_ ?_ _) | (with_reducible refine below_row ?_ ?_ _) | (with_reducible refine Below.drew ?_) | (with_reducible refine below_drewN ?_ _) | (with_reducible refine Below.trans ?_ (Below.mono (by assumption) ?_)) | (first | exact Nat.le_refl _ | omega | (simp; done) | (simp; omega))))
  have HP_2 := Lib.hid (HP_1.out.after B2)
  clear HP_1
  have A2 : Below w.heap.size w w2 := A1.trans (B2.mono A1.size)
  clear A1 hb2 B2
  go_wp2
  go_ret
  exact ⟨rfl, by (repeat' (first | (with_reducible exact Below.refl _ _) | (with_reducible assumption) | (with_reducible refine Below.alloc ?_ ?_ _) | (with_reducible refine Below.setCell ?_ ?_ _) | (with_reducible refine below_row ?_ ?_ _) | (with_reducible refine Below.drew ?_) | (with_reducible refine below_drewN ?_ _) | (with_reducible refine Below.trans ?_ (Below.mono (by assumption) ?_)) | (first | exact Nat.le_refl _ | omega | (simp; done) | (simp; omega))))⟩
set_option maxHeartbeats 8000000 in
set_option maxRecDepth 100000 in
theorem inside_none1 (n al au b s : Int) (w : World) (he : Env w) (x0 : 0 ≤ b) (x1 : b ≤ 255) (s0 : 0 ≤ s) (s1 : s ≤ 4294967295) (h : okD n al au = true) (hu : unitOf b = 1) (hv : convS 1 n al au = ((0, 0, 0), 6)) (hx : downS 100 au < upS 100 al) :
    Calls Tryd.prog 5 #[.agg #[.int .i64 n, .int .i64 al, .int .i64 au], .int .u8 b, .int .u32 s] w (Trues w) := by
  have HE := Lib.hid (fun W (hW : Below w.heap.size w W) => he.after hW)
  have HA := Lib.hid (fun W => h ▸ rDim_any n al au W)
  have HS := Lib.hid (fun W => step_1 b W x0 x1 hu)
  have HC := Lib.hid (fun W => Convert_any 1 n al au W)
  have HL := Lib.hid (fun W => Lost_any 1 n al au W)
  obtain ⟨a1, a2, a3, a4, a5⟩ := okD_iff.1 h
  rw [lostS_eq hv] at HL
  rw [hv] at HC
  rw [if_neg (by decide)] at HL
  have g := none_wide (.inl rfl) hx
  have hm1 := mult_low (st := 100) (l := al) (m := s % 10000001) (.inl rfl)
  have hm2 := mult_high (st := 100) (u := au) (m := s % 10000001) (.inl rfl)
  have hc : s % 10000001 * 100 < al ∨ (al ≤ s % 10000001 * 100 ∧ au < s % 10000001 * 100) := by omega
  have m0 : 0 ≤ s % 10000001 := by omega
  have m1 : s % 10000001 < 10000001 := by omega
  clear he h x0 x1 hu hv hx hm1 hm2
  go_enter Tryd.func5, Tryd.ntmps5
  go_wp2_with fail
  refine (alive_any _ (HE.out _ (by (repeat' (first | (with_reducible exact Below.refl _ _) | (with_reducible assumption) | (with_reducible refine Below.alloc ?_ ?_ _) | (with_reducible refine Below.setCell ?_ ?_ _) | (with_reducible refine below_row ?_ ?_ _) | (with_reducible refine Below.drew ?_) | (with_reducible refine below_drewN ?_ _) | (with_reducible refine Below.trans ?_ (Below.mono (by assumption) ?_)) | (first | exact Nat.le_refl _ | omega | (simp; done) | (simp; omega))))))).mono ?_
  rintro _ w1 ⟨rfl, hb1⟩
  have s1 := hb1.size; try simp only [World.size_alloc, World.size_setCell, World.size_drew, setRow_size] at s1
  have B1 : Below w.heap.size w w1 := by (repeat' (first | (with_reducible exact Below.refl _ _) | (with_reducible assumption) | (with_reducible refine Below.alloc ?_ ?_ _) | (with_reducible refine Below.setCell ?_ ?_ _) | (with_reducible refine below_row ?_ ?_ _) | (with_reducible refine Below.drew ?_) | (with_reducible refine below_drewN ?_ _) | (with_reducible refine Below.trans ?_ (Below.mono (by assumption) ?_)) | (first | exact Nat.le_refl _ | omega | (simp; done) | (simp; omega))))
  have HP_1 := Lib.hid (show Lies w1 _ 28 #[.int .i64 n, .int .i64 al, .int .i64 au] from (by first | exact (Lies.made w 28 #[.int .i64 n, .int .i64 al, .int .i64 au]).after hb1 | exact ((Lies.made w 28 #[.int .i64 n, .int .i64 al, .int .i64 au]).alloc _).after hb1 | exact (((Lies.made w 28 #[.int .i64 n, .int .i64 al, .int .i64 au]).alloc _).alloc _).after hb1))
  have A1 : Below w.heap.size w w1 := B1
  clear hb1 B1
  have qP0 := HP_1.out.cell 0
  have qP1 := HP_1.out.cell 1
  have qP2 := HP_1.out.cell 2
  have zP := HP_1.out.lt
  go_wp2_with fail
  refine (HA.out _).mono ?_
  rintro _ w2 ⟨rfl, hb2⟩
  have s2 := hb2.size; try simp only [World.size_alloc, World.size_setCell, World.size_drew, setRow_size] at s2
  clear qP0 qP1 qP2 zP
  have B2 : Below w1.heap.size w1 w2 := by (repeat' (first | (with_reducible exact Below.refl _ _) | (with_reducible assumption) | (with_reducible refine Below.alloc ?_ ?_ _) | (with_reducible refine Below.setCell ?_ ?_ _) | (with_reducible refine below_row ?_ ?_ _) | (with_reducible refine Below.drew ?_) | (with_reducible refine below_drewN ?_ _) | (with_reducible refine Below.trans ?_ (Below.mono (by assumption) ?_)) | (first | exact Nat.le_refl _ | omega | (simp; done) | (simp; omega))))
  have HP_2 := Lib.hid (HP_1.out.after B2)
  clear HP_1
  have A2 : Below w.heap.size w w2 := A1.trans (B2.mono A1.size)
  clear A1 hb2 B2
  have qP0 := HP_2.out.cell 0
  have qP1 := HP_2.out.cell 1
  have qP2 := HP_2.out.cell 2
  have zP := HP_2.out.lt
  go_wp2_with fail
  refine (HS.out _).mono ?_
  rintro _ w3 ⟨rfl, hb3⟩
  have s3 := hb3.size; try simp only [World.size_alloc, World.size_setCell, World.size_drew, setRow_size] at s3
  clear qP0 qP1 qP2 zP
  have B3 : Below w2.heap.size w2 w3 := by (repeat' (first | (with_reducible exact Below.refl _ _) | (with_reducible assumption) | (with_reducible refine Below.alloc ?_ ?_ _) | (with_reducible refine Below.setCell ?_ ?_ _) | (with_reducible refine below_row ?_ ?_ _) | (with_reducible refine Below.drew ?_) | (with_reducible refine below_drewN ?_ _) | (with_reducible refine Below.trans ?_ (Below.mono (by assumption) ?_)) | (first | exact Nat.le_refl _ | omega | (simp; done) | (simp; omega))))
  have HP_3 := Lib.hid (HP_2.out.after B3)
  clear HP_2
  have A3 : Below w.heap.size w w3 := A2.trans (B3.mono A2.size)
  clear A2 hb3 B3
  have qP0 := HP_3.out.cell 0
  have qP1 := HP_3.out.cell 1
  have qP2 := HP_3.out.cell 2
  have zP := HP_3.out.lt
  go_wp2_with fail
  refine (HC.out _).mono ?_
  rintro _ w4 ⟨rfl, hb4⟩
  have s4 := hb4.size; try simp only [World.size_alloc, World.size_setCell, World.size_drew, setRow_size] at s4
  clear qP0 qP1 qP2 zP
  have B4 : Below w3.heap.size w3 w4 := by (repeat' (first | (with_reducible exact Below.refl _ _) | (with_reducible assumption) | (with_reducible refine Below.alloc ?_ ?_ _) | (with_reducible refine Below.setCell ?_ ?_ _) | (with_reducible refine below_row ?_ ?_ _) | (with_reducible refine Below.drew ?_) | (with_reducible refine below_drewN ?_ _) | (with_reducible refine Below.trans ?_ (Below.mono (by assumption) ?_)) | (first | exact Nat.le_refl _ | omega | (simp; done) | (simp; omega))))
  have HP_4 := Lib.hid (HP_3.out.after B4)
  clear HP_3
  have A4 : Below w.heap.size w w4 := A3.trans (B4.mono A3.size)
  clear A3 hb4 B4
  have qP0 := HP_4.out.cell 0
  have qP1 := HP_4.out.cell 1
  have qP2 := HP_4.out.cell 2
  have zP := HP_4.out.lt
  go_wp2_with fail
  refine (HL.out _).mono ?_
  rintro _ w5 ⟨rfl, hb5⟩
  have s5 := hb5.size; try simp only [World.size_alloc, World.size_setCell, World.size_drew, setRow_size] at s5
  clear qP0 qP1 qP2 zP
  have B5 : Below w4.heap.size w4 w5 := by (repeat' (first | (with_reducible exact Below.refl _ _) | (with_reducible assumption) | (with_reducible refine Below.alloc ?_ ?_ _) | (with_reducible refine Below.setCell ?_ ?_ _) | (with_reducible refine below_row ?_ ?_ _) | (with_reducible refine Below.drew ?_) | (with_reducible refine below_drewN ?_ _) | (with_reducible refine Below.trans ?_ (Below.mono (by assumption) ?_)) | (first | exact Nat.le_refl _ | omega | (simp; done) | (simp; omega))))
  have HP_5 := Lib.hid (HP_4.out.after B5)
  have HX_5 := Lib.hid (show Lies w5 _ 28 #[.int .i64 0, .int .i64 0, .int .i64 0] from (by first | exact (Lies.made w4 28 #[.int .i64 0, .int .i64 0, .int .i64 0]).after hb5 | exact ((Lies.made w4 28 #[.int .i64 0, .int .i64 0, .int .i64 0]).alloc _).after hb5 | exact (((Lies.made w4 28 #[.int .i64 0, .int .i64 0, .int .i64 0]).alloc _).alloc _).after hb5))
  clear HP_4
  have A5 : Below w.heap.size w w5 := A4.trans (B5.mono A4.size)
  clear A4 hb5 B5
  have qP0 := HP_5.out.cell 0
  have qP1 := HP_5.out.cell 1
  have qP2 := HP_5.out.cell 2
  have qX0 := HX_5.out.cell 0
  have qX1 := HX_5.out.cell 1
  have qX2 := HX_5.out.cell 2
  have zP := HP_5.out.lt
  have zX := HX_5.out.lt
  rcases hc with f1 | ⟨f1, f2⟩
  case' inl => have d1 : decide (al ≤ s % 10000001 * 100) = false := decide_eq_false (by omega)
  case' inr => have d1 : decide (al ≤ s % 10000001 * 100) = true := decide_eq_true f1
  case' inr => have d2 : decide (s % 10000001 * 100 ≤ au) = false := decide_eq_false (by omega)
  all_goals
    go_wp2
    go_ret
    exact ⟨rfl, by (repeat' (first | (with_reducible exact Below.refl _ _) | (with_reducible assumption) | (with_reducible refine Below.alloc ?_ ?_ _) | (with_reducible refine Below.setCell ?_ ?_ _) | (with_reducible refine below_row ?_ ?_ _) | (with_reducible refine Below.drew ?_) | (with_reducible refine below_drewN ?_ _) | (with_reducible refine Below.trans ?_ (Below.mono (by assumption) ?_)) | (first | exact Nat.le_refl _ | omega | (simp; done) | (simp; omega))))⟩
set_option maxHeartbeats 8000000 in
set_option maxRecDepth 100000 in
theorem inside_some1 (n al au b s : Int) (w : World) (he : Env w) (x0 : 0 ≤ b) (x1 : b ≤ 255) (s0 : 0 ≤ s) (s1 : s ≤ 4294967295) (h : okD n al au = true) (hu : unitOf b = 1) (x y z : Int) (hv : convS 1 n al au = ((x, y, z), 0)) (hx : x = nearS 100 n) (hy : y = upS 100 al) (hz : z = downS 100 au) (hyz : y ≤ z) (hok : okD x y z = true) :
    Calls Tryd.prog 5 #[.agg #[.int .i64 n, .int .i64 al, .int .i64 au], .int .u8 b, .int .u32 s] w (Trues w) := by
  have HE := Lib.hid (fun W (hW : Below w.heap.size w W) => he.after hW)
  have HA := Lib.hid (fun W => h ▸ rDim_any n al au W)
  have HS := Lib.hid (fun W => step_1 b W x0 x1 hu)
  have HC := Lib.hid (fun W => Convert_any 1 n al au W)
  have HL := Lib.hid (fun W => Lost_any 1 n al au W)
  obtain ⟨a1, a2, a3, a4, a5⟩ := okD_iff.1 h
  rw [lostS_eq hv] at HL
  rw [hv] at HC
  rw [if_pos rfl] at HL
  have HI := Lib.hid (fun W => Inside_ok x y z n al au W (bad2_iff.2 ⟨hok, h⟩))
  have HX := Lib.hid (fun W => Exact_any x y z W)
  have hex : exactS 100 x y z = true := by rw [hx, hy, hz]; exact exact_again (.inl rfl)
  have hR : exactR x y z = (exactU x y z, 0) := by unfold exactR; rw [hok]; rfl
  have hm1 := mult_low (st := 100) (l := al) (m := s % 10000001) (.inl rfl)
  have hm2 := mult_high (st := 100) (u := au) (m := s % 10000001) (.inl rfl)
  have hf := near_far (st := 100) (n := n) (.inl rfl) a1
  have b1 := upS_bd (st := 100) a3 (.inl rfl)
  have b2 := downS_bd (st := 100) (n := au) (by omega) (.inl rfl)
  rw [← hx] at hf
  rw [← hy] at b1 hm1
  rw [← hz] at b2 hm2
  rw [hR] at HX
  obtain ⟨o1, o2, o3, o4, o5⟩ := okD_iff.1 hok
  have hin : allIn al au [y, z] = true := by
    simp only [allIn, List.all_cons, List.all_nil, Bool.and_true, Bool.and_eq_true, decide_eq_true_eq]; omega
  rw [hin] at HI
  have hE : exactU x y z = 1 ∨ exactU x y z = 3 := by
    rcases exactU_cases x y z with ⟨e1, e2, e3⟩ | ⟨e1, e2, e3⟩ | ⟨e1, e2, e3⟩ | ⟨e1, e2, e3⟩
    all_goals first | exact .inr e3 | exact .inl e3 | (rw [hex] at e1; cases e1) | (rw [hex] at e2; cases e2)
  generalize exactU x y z = E at *
  have hc : (s % 10000001 * 100 < al ∧ s % 10000001 * 100 < y) ∨ (al ≤ s % 10000001 * 100 ∧ y ≤ s % 10000001 * 100 ∧ s % 10000001 * 100 ≤ au ∧ s % 10000001 * 100 ≤ z) ∨ (al ≤ s % 10000001 * 100 ∧ y ≤ s % 10000001 * 100 ∧ au < s % 10000001 * 100 ∧ z < s % 10000001 * 100) := by omega
  have m0 : 0 ≤ s % 10000001 := by omega
  have m1 : s % 10000001 < 10000001 := by omega
  have l0 : al ≤ y := by omega
  have l1 : y - al < 100 := by omega
  have h0 : z ≤ au := by omega
  have h1 : au - z < 100 := by omega
  obtain ⟨hf1, hf2⟩ := hf
  have hfin : decide (2 * max (x - n) (-(x - n)) ≤ 100 + 2 * max 0 (n - 999999900)) = true := by
    refine decide_eq_true ?_
    rw [Int.max_def, Int.max_def]
    split <;> split <;> omega
  clear hf1 hf2
  clear he h x0 x1 hu hv hx hy hz hok hex hR hm1 hm2 b1 b2 hin
  go_enter Tryd.func5, Tryd.ntmps5
  go_wp2_with fail
  refine (alive_any _ (HE.out _ (by (repeat' (first | (with_reducible exact Below.refl _ _) | (with_reducible assumption) | (with_reducible refine Below.alloc ?_ ?_ _) | (with_reducible refine Below.setCell ?_ ?_ _) | (with_reducible refine below_row ?_ ?_ _) | (with_reducible refine Below.drew ?_) | (with_reducible refine below_drewN ?_ _) | (with_reducible refine Below.trans ?_ (Below.mono (by assumption) ?_)) | (first | exact Nat.le_refl _ | omega | (simp; done) | (simp; omega))))))).mono ?_
  rintro _ w1 ⟨rfl, hb1⟩
  have s1 := hb1.size; try simp only [World.size_alloc, World.size_setCell, World.size_drew, setRow_size] at s1
  have B1 : Below w.heap.size w w1 := by (repeat' (first | (with_reducible exact Below.refl _ _) | (with_reducible assumption) | (with_reducible refine Below.alloc ?_ ?_ _) | (with_reducible refine Below.setCell ?_ ?_ _) | (with_reducible refine below_row ?_ ?_ _) | (with_reducible refine Below.drew ?_) | (with_reducible refine below_drewN ?_ _) | (with_reducible refine Below.trans ?_ (Below.mono (by assumption) ?_)) | (first | exact Nat.le_refl _ | omega | (simp; done) | (simp; omega))))
  have HP_1 := Lib.hid (show Lies w1 _ 28 #[.int .i64 n, .int .i64 al, .int .i64 au] from (by first | exact (Lies.made w 28 #[.int .i64 n, .int .i64 al, .int .i64 au]).after hb1 | exact ((Lies.made w 28 #[.int .i64 n, .int .i64 al, .int .i64 au]).alloc _).after hb1 | exact (((Lies.made w 28 #[.int .i64 n, .int .i64 al, .int .i64 au]).alloc _).alloc _).after hb1))
  have A1 : Below w.heap.size w w1 := B1
  clear hb1 B1
  have qP0 := HP_1.out.cell 0
  have qP1 := HP_1.out.cell 1
  have qP2 := HP_1.out.cell 2
  have zP := HP_1.out.lt
  go_wp2_with fail
  refine (HA.out _).mono ?_
  rintro _ w2 ⟨rfl, hb2⟩
  have s2 := hb2.size; try simp only [World.size_alloc, World.size_setCell, World.size_drew, setRow_size] at s2
  clear qP0 qP1 qP2 zP
  have B2 : Below w1.heap.size w1 w2 := by (repeat' (first | (with_reducible exact Below.refl _ _) | (with_reducible assumption) | (with_reducible refine Below.alloc ?_ ?_ _) | (with_reducible refine Below.setCell ?_ ?_ _) | (with_reducible refine below_row ?_ ?_ _) | (with_reducible refine Below.drew ?_) | (with_reducible refine below_drewN ?_ _) | (with_reducible refine Below.trans ?_ (Below.mono (by assumption) ?_)) | (first | exact Nat.le_refl _ | omega | (simp; done) | (simp; omega))))
  have HP_2 := Lib.hid (HP_1.out.after B2)
  clear HP_1
  have A2 : Below w.heap.size w w2 := A1.trans (B2.mono A1.size)
  clear A1 hb2 B2
  have qP0 := HP_2.out.cell 0
  have qP1 := HP_2.out.cell 1
  have qP2 := HP_2.out.cell 2
  have zP := HP_2.out.lt
  go_wp2_with fail
  refine (HS.out _).mono ?_
  rintro _ w3 ⟨rfl, hb3⟩
  have s3 := hb3.size; try simp only [World.size_alloc, World.size_setCell, World.size_drew, setRow_size] at s3
  clear qP0 qP1 qP2 zP
  have B3 : Below w2.heap.size w2 w3 := by (repeat' (first | (with_reducible exact Below.refl _ _) | (with_reducible assumption) | (with_reducible refine Below.alloc ?_ ?_ _) | (with_reducible refine Below.setCell ?_ ?_ _) | (with_reducible refine below_row ?_ ?_ _) | (with_reducible refine Below.drew ?_) | (with_reducible refine below_drewN ?_ _) | (with_reducible refine Below.trans ?_ (Below.mono (by assumption) ?_)) | (first | exact Nat.le_refl _ | omega | (simp; done) | (simp; omega))))
  have HP_3 := Lib.hid (HP_2.out.after B3)
  clear HP_2
  have A3 : Below w.heap.size w w3 := A2.trans (B3.mono A2.size)
  clear A2 hb3 B3
  have qP0 := HP_3.out.cell 0
  have qP1 := HP_3.out.cell 1
  have qP2 := HP_3.out.cell 2
  have zP := HP_3.out.lt
  go_wp2_with fail
  refine (HC.out _).mono ?_
  rintro _ w4 ⟨rfl, hb4⟩
  have s4 := hb4.size; try simp only [World.size_alloc, World.size_setCell, World.size_drew, setRow_size] at s4
  clear qP0 qP1 qP2 zP
  have B4 : Below w3.heap.size w3 w4 := by (repeat' (first | (with_reducible exact Below.refl _ _) | (with_reducible assumption) | (with_reducible refine Below.alloc ?_ ?_ _) | (with_reducible refine Below.setCell ?_ ?_ _) | (with_reducible refine below_row ?_ ?_ _) | (with_reducible refine Below.drew ?_) | (with_reducible refine below_drewN ?_ _) | (with_reducible refine Below.trans ?_ (Below.mono (by assumption) ?_)) | (first | exact Nat.le_refl _ | omega | (simp; done) | (simp; omega))))
  have HP_4 := Lib.hid (HP_3.out.after B4)
  clear HP_3
  have A4 : Below w.heap.size w w4 := A3.trans (B4.mono A3.size)
  clear A3 hb4 B4
  have qP0 := HP_4.out.cell 0
  have qP1 := HP_4.out.cell 1
  have qP2 := HP_4.out.cell 2
  have zP := HP_4.out.lt
  go_wp2_with fail
  refine (HL.out _).mono ?_
  rintro _ w5 ⟨rfl, hb5⟩
  have s5 := hb5.size; try simp only [World.size_alloc, World.size_setCell, World.size_drew, setRow_size] at s5
  clear qP0 qP1 qP2 zP
  have B5 : Below w4.heap.size w4 w5 := by (repeat' (first | (with_reducible exact Below.refl _ _) | (with_reducible assumption) | (with_reducible refine Below.alloc ?_ ?_ _) | (with_reducible refine Below.setCell ?_ ?_ _) | (with_reducible refine below_row ?_ ?_ _) | (with_reducible refine Below.drew ?_) | (with_reducible refine below_drewN ?_ _) | (with_reducible refine Below.trans ?_ (Below.mono (by assumption) ?_)) | (first | exact Nat.le_refl _ | omega | (simp; done) | (simp; omega))))
  have HP_5 := Lib.hid (HP_4.out.after B5)
  have HX_5 := Lib.hid (show Lies w5 _ 28 #[.int .i64 x, .int .i64 y, .int .i64 z] from (by first | exact (Lies.made w4 28 #[.int .i64 x, .int .i64 y, .int .i64 z]).after hb5 | exact ((Lies.made w4 28 #[.int .i64 x, .int .i64 y, .int .i64 z]).alloc _).after hb5 | exact (((Lies.made w4 28 #[.int .i64 x, .int .i64 y, .int .i64 z]).alloc _).alloc _).after hb5))
  clear HP_4
  have A5 : Below w.heap.size w w5 := A4.trans (B5.mono A4.size)
  clear A4 hb5 B5
  have d3 : decide (al ≤ y) = true := decide_eq_true l0
  rcases hc with ⟨f1, f3⟩ | ⟨f1, f3, f2, f4⟩ | ⟨f1, f3, f2, f4⟩
  case' inl => have d1 : decide (al ≤ s % 10000001 * 100) = false := decide_eq_false (by omega)
  case' inl => have d5 : decide (y ≤ s % 10000001 * 100) = false := decide_eq_false (by omega)
  case' inr.inl => have d1 : decide (al ≤ s % 10000001 * 100) = true := decide_eq_true f1
  case' inr.inl => have d2 : decide (s % 10000001 * 100 ≤ au) = true := decide_eq_true f2
  case' inr.inl => have d5 : decide (y ≤ s % 10000001 * 100) = true := decide_eq_true f3
  case' inr.inl => have d6 : decide (s % 10000001 * 100 ≤ z) = true := decide_eq_true f4
  case' inr.inr => have d1 : decide (al ≤ s % 10000001 * 100) = true := decide_eq_true f1
  case' inr.inr => have d2 : decide (s % 10000001 * 100 ≤ au) = false := decide_eq_false (by omega)
  case' inr.inr => have d5 : decide (y ≤ s % 10000001 * 100) = true := decide_eq_true f3
  case' inr.inr => have d6 : decide (s % 10000001 * 100 ≤ z) = false := decide_eq_false (by omega)
  all_goals
    rcases hE with rfl | rfl
  all_goals
    have qP0 := HP_5.out.cell 0
    have qP1 := HP_5.out.cell 1
    have qP2 := HP_5.out.cell 2
    have zP := HP_5.out.lt
    have qX0 := HX_5.out.cell 0
    have qX1 := HX_5.out.cell 1
    have qX2 := HX_5.out.cell 2
    have zX := HX_5.out.lt
    go_wp2_with fail
    refine (HI.out _).mono ?_
    rintro _ w6 ⟨rfl, hb6⟩
    have s6 := hb6.size; try simp only [World.size_alloc, World.size_setCell, World.size_drew, setRow_size] at s6
    clear qP0 qP1 qP2 zP qX0 qX1 qX2 zX
    have B6 : Below w5.heap.size w5 w6 := by (repeat' (first | (with_reducible exact Below.refl _ _) | (with_reducible assumption) | (with_reducible refine Below.alloc ?_ ?_ _) | (with_reducible refine Below.setCell ?_ ?_ _) | (with_reducible refine below_row ?_ ?_ _) | (with_reducible refine Below.drew ?_) | (with_reducible refine below_drewN ?_ _) | (with_reducible refine Below.trans ?_ (Below.mono (by assumption) ?_)) | (first | exact Nat.le_refl _ | omega | (simp; done) | (simp; omega))))
    have HP_6 := Lib.hid (HP_5.out.after B6)
    have HX_6 := Lib.hid (HX_5.out.after B6)
    clear HP_5 HX_5
    have A6 : Below w.heap.size w w6 := A5.trans (B6.mono A5.size)
    clear A5 hb6 B6
    have qP0 := HP_6.out.cell 0
    have qP1 := HP_6.out.cell 1
    have qP2 := HP_6.out.cell 2
    have zP := HP_6.out.lt
    have qX0 := HX_6.out.cell 0
    have qX1 := HX_6.out.cell 1
    have qX2 := HX_6.out.cell 2
    have zX := HX_6.out.lt
    go_wp2_with fail
    refine (HX.out _).mono ?_
    rintro _ w7 ⟨rfl, hb7⟩
    have s7 := hb7.size; try simp only [World.size_alloc, World.size_setCell, World.size_drew, setRow_size] at s7
    clear qP0 qP1 qP2 zP qX0 qX1 qX2 zX
    have B7 : Below w6.heap.size w6 w7 := by (repeat' (first | (with_reducible exact Below.refl _ _) | (with_reducible assumption) | (with_reducible refine Below.alloc ?_ ?_ _) | (with_reducible refine Below.setCell ?_ ?_ _) | (with_reducible refine below_row ?_ ?_ _) | (with_reducible refine Below.drew ?_) | (with_reducible refine below_drewN ?_ _) | (with_reducible refine Below.trans ?_ (Below.mono (by assumption) ?_)) | (first | exact Nat.le_refl _ | omega | (simp; done) | (simp; omega))))
    have HP_7 := Lib.hid (HP_6.out.after B7)
    have HX_7 := Lib.hid (HX_6.out.after B7)
    clear HP_6 HX_6
    have A7 : Below w.heap.size w w7 := A6.trans (B7.mono A6.size)
    clear A6 hb7 B7
    have qP0 := HP_7.out.cell 0
    have qP1 := HP_7.out.cell 1
    have qP2 := HP_7.out.cell 2
    have qX0 := HX_7.out.cell 0
    have qX1 := HX_7.out.cell 1
    have qX2 := HX_7.out.cell 2
    have zP := HP_7.out.lt
    have zX := HX_7.out.lt
    go_wp2
    go_ret
    exact ⟨rfl, by (repeat' (first | (with_reducible exact Below.refl _ _) | (with_reducible assumption) | (with_reducible refine Below.alloc ?_ ?_ _) | (with_reducible refine Below.setCell ?_ ?_ _) | (with_reducible refine below_row ?_ ?_ _) | (with_reducible refine Below.drew ?_) | (with_reducible refine below_drewN ?_ _) | (with_reducible refine Below.trans ?_ (Below.mono (by assumption) ?_)) | (first | exact Nat.le_refl _ | omega | (simp; done) | (simp; omega))))⟩
set_option maxHeartbeats 8000000 in
set_option maxRecDepth 100000 in
theorem inside_none2 (n al au b s : Int) (w : World) (he : Env w) (x0 : 0 ≤ b) (x1 : b ≤ 255) (s0 : 0 ≤ s) (s1 : s ≤ 4294967295) (h : okD n al au = true) (hu : unitOf b = 2) (hv : convS 2 n al au = ((0, 0, 0), 6)) (hx : downS 254 au < upS 254 al) :
    Calls Tryd.prog 5 #[.agg #[.int .i64 n, .int .i64 al, .int .i64 au], .int .u8 b, .int .u32 s] w (Trues w) := by
  have HE := Lib.hid (fun W (hW : Below w.heap.size w W) => he.after hW)
  have HA := Lib.hid (fun W => h ▸ rDim_any n al au W)
  have HS := Lib.hid (fun W => step_2 b W x0 x1 hu)
  have HC := Lib.hid (fun W => Convert_any 2 n al au W)
  have HL := Lib.hid (fun W => Lost_any 2 n al au W)
  obtain ⟨a1, a2, a3, a4, a5⟩ := okD_iff.1 h
  rw [lostS_eq hv] at HL
  rw [hv] at HC
  rw [if_neg (by decide)] at HL
  have g := none_wide (.inr rfl) hx
  have hm1 := mult_low (st := 254) (l := al) (m := s % 3937008) (.inr rfl)
  have hm2 := mult_high (st := 254) (u := au) (m := s % 3937008) (.inr rfl)
  have hc : s % 3937008 * 254 < al ∨ (al ≤ s % 3937008 * 254 ∧ au < s % 3937008 * 254) := by omega
  have m0 : 0 ≤ s % 3937008 := by omega
  have m1 : s % 3937008 < 3937008 := by omega
  clear he h x0 x1 hu hv hx hm1 hm2
  go_enter Tryd.func5, Tryd.ntmps5
  go_wp2_with fail
  refine (alive_any _ (HE.out _ (by (repeat' (first | (with_reducible exact Below.refl _ _) | (with_reducible assumption) | (with_reducible refine Below.alloc ?_ ?_ _) | (with_reducible refine Below.setCell ?_ ?_ _) | (with_reducible refine below_row ?_ ?_ _) | (with_reducible refine Below.drew ?_) | (with_reducible refine below_drewN ?_ _) | (with_reducible refine Below.trans ?_ (Below.mono (by assumption) ?_)) | (first | exact Nat.le_refl _ | omega | (simp; done) | (simp; omega))))))).mono ?_
  rintro _ w1 ⟨rfl, hb1⟩
  have s1 := hb1.size; try simp only [World.size_alloc, World.size_setCell, World.size_drew, setRow_size] at s1
  have B1 : Below w.heap.size w w1 := by (repeat' (first | (with_reducible exact Below.refl _ _) | (with_reducible assumption) | (with_reducible refine Below.alloc ?_ ?_ _) | (with_reducible refine Below.setCell ?_ ?_ _) | (with_reducible refine below_row ?_ ?_ _) | (with_reducible refine Below.drew ?_) | (with_reducible refine below_drewN ?_ _) | (with_reducible refine Below.trans ?_ (Below.mono (by assumption) ?_)) | (first | exact Nat.le_refl _ | omega | (simp; done) | (simp; omega))))
  have HP_1 := Lib.hid (show Lies w1 _ 28 #[.int .i64 n, .int .i64 al, .int .i64 au] from (by first | exact (Lies.made w 28 #[.int .i64 n, .int .i64 al, .int .i64 au]).after hb1 | exact ((Lies.made w 28 #[.int .i64 n, .int .i64 al, .int .i64 au]).alloc _).after hb1 | exact (((Lies.made w 28 #[.int .i64 n, .int .i64 al, .int .i64 au]).alloc _).alloc _).after hb1))
  have A1 : Below w.heap.size w w1 := B1
  clear hb1 B1
  have qP0 := HP_1.out.cell 0
  have qP1 := HP_1.out.cell 1
  have qP2 := HP_1.out.cell 2
  have zP := HP_1.out.lt
  go_wp2_with fail
  refine (HA.out _).mono ?_
  rintro _ w2 ⟨rfl, hb2⟩
  have s2 := hb2.size; try simp only [World.size_alloc, World.size_setCell, World.size_drew, setRow_size] at s2
  clear qP0 qP1 qP2 zP
  have B2 : Below w1.heap.size w1 w2 := by (repeat' (first | (with_reducible exact Below.refl _ _) | (with_reducible assumption) | (with_reducible refine Below.alloc ?_ ?_ _) | (with_reducible refine Below.setCell ?_ ?_ _) | (with_reducible refine below_row ?_ ?_ _) | (with_reducible refine Below.drew ?_) | (with_reducible refine below_drewN ?_ _) | (with_reducible refine Below.trans ?_ (Below.mono (by assumption) ?_)) | (first | exact Nat.le_refl _ | omega | (simp; done) | (simp; omega))))
  have HP_2 := Lib.hid (HP_1.out.after B2)
  clear HP_1
  have A2 : Below w.heap.size w w2 := A1.trans (B2.mono A1.size)
  clear A1 hb2 B2
  have qP0 := HP_2.out.cell 0
  have qP1 := HP_2.out.cell 1
  have qP2 := HP_2.out.cell 2
  have zP := HP_2.out.lt
  go_wp2_with fail
  refine (HS.out _).mono ?_
  rintro _ w3 ⟨rfl, hb3⟩
  have s3 := hb3.size; try simp only [World.size_alloc, World.size_setCell, World.size_drew, setRow_size] at s3
  clear qP0 qP1 qP2 zP
  have B3 : Below w2.heap.size w2 w3 := by (repeat' (first | (with_reducible exact Below.refl _ _) | (with_reducible assumption) | (with_reducible refine Below.alloc ?_ ?_ _) | (with_reducible refine Below.setCell ?_ ?_ _) | (with_reducible refine below_row ?_ ?_ _) | (with_reducible refine Below.drew ?_) | (with_reducible refine below_drewN ?_ _) | (with_reducible refine Below.trans ?_ (Below.mono (by assumption) ?_)) | (first | exact Nat.le_refl _ | omega | (simp; done) | (simp; omega))))
  have HP_3 := Lib.hid (HP_2.out.after B3)
  clear HP_2
  have A3 : Below w.heap.size w w3 := A2.trans (B3.mono A2.size)
  clear A2 hb3 B3
  have qP0 := HP_3.out.cell 0
  have qP1 := HP_3.out.cell 1
  have qP2 := HP_3.out.cell 2
  have zP := HP_3.out.lt
  go_wp2_with fail
  refine (HC.out _).mono ?_
  rintro _ w4 ⟨rfl, hb4⟩
  have s4 := hb4.size; try simp only [World.size_alloc, World.size_setCell, World.size_drew, setRow_size] at s4
  clear qP0 qP1 qP2 zP
  have B4 : Below w3.heap.size w3 w4 := by (repeat' (first | (with_reducible exact Below.refl _ _) | (with_reducible assumption) | (with_reducible refine Below.alloc ?_ ?_ _) | (with_reducible refine Below.setCell ?_ ?_ _) | (with_reducible refine below_row ?_ ?_ _) | (with_reducible refine Below.drew ?_) | (with_reducible refine below_drewN ?_ _) | (with_reducible refine Below.trans ?_ (Below.mono (by assumption) ?_)) | (first | exact Nat.le_refl _ | omega | (simp; done) | (simp; omega))))
  have HP_4 := Lib.hid (HP_3.out.after B4)
  clear HP_3
  have A4 : Below w.heap.size w w4 := A3.trans (B4.mono A3.size)
  clear A3 hb4 B4
  have qP0 := HP_4.out.cell 0
  have qP1 := HP_4.out.cell 1
  have qP2 := HP_4.out.cell 2
  have zP := HP_4.out.lt
  go_wp2_with fail
  refine (HL.out _).mono ?_
  rintro _ w5 ⟨rfl, hb5⟩
  have s5 := hb5.size; try simp only [World.size_alloc, World.size_setCell, World.size_drew, setRow_size] at s5
  clear qP0 qP1 qP2 zP
  have B5 : Below w4.heap.size w4 w5 := by (repeat' (first | (with_reducible exact Below.refl _ _) | (with_reducible assumption) | (with_reducible refine Below.alloc ?_ ?_ _) | (with_reducible refine Below.setCell ?_ ?_ _) | (with_reducible refine below_row ?_ ?_ _) | (with_reducible refine Below.drew ?_) | (with_reducible refine below_drewN ?_ _) | (with_reducible refine Below.trans ?_ (Below.mono (by assumption) ?_)) | (first | exact Nat.le_refl _ | omega | (simp; done) | (simp; omega))))
  have HP_5 := Lib.hid (HP_4.out.after B5)
  have HX_5 := Lib.hid (show Lies w5 _ 28 #[.int .i64 0, .int .i64 0, .int .i64 0] from (by first | exact (Lies.made w4 28 #[.int .i64 0, .int .i64 0, .int .i64 0]).after hb5 | exact ((Lies.made w4 28 #[.int .i64 0, .int .i64 0, .int .i64 0]).alloc _).after hb5 | exact (((Lies.made w4 28 #[.int .i64 0, .int .i64 0, .int .i64 0]).alloc _).alloc _).after hb5))
  clear HP_4
  have A5 : Below w.heap.size w w5 := A4.trans (B5.mono A4.size)
  clear A4 hb5 B5
  have qP0 := HP_5.out.cell 0
  have qP1 := HP_5.out.cell 1
  have qP2 := HP_5.out.cell 2
  have qX0 := HX_5.out.cell 0
  have qX1 := HX_5.out.cell 1
  have qX2 := HX_5.out.cell 2
  have zP := HP_5.out.lt
  have zX := HX_5.out.lt
  rcases hc with f1 | ⟨f1, f2⟩
  case' inl => have d1 : decide (al ≤ s % 3937008 * 254) = false := decide_eq_false (by omega)
  case' inr => have d1 : decide (al ≤ s % 3937008 * 254) = true := decide_eq_true f1
  case' inr => have d2 : decide (s % 3937008 * 254 ≤ au) = false := decide_eq_false (by omega)
  all_goals
    go_wp2
    go_ret
    exact ⟨rfl, by (repeat' (first | (with_reducible exact Below.refl _ _) | (with_reducible assumption) | (with_reducible refine Below.alloc ?_ ?_ _) | (with_reducible refine Below.setCell ?_ ?_ _) | (with_reducible refine below_row ?_ ?_ _) | (with_reducible refine Below.drew ?_) | (with_reducible refine below_drewN ?_ _) | (with_reducible refine Below.trans ?_ (Below.mono (by assumption) ?_)) | (first | exact Nat.le_refl _ | omega | (simp; done) | (simp; omega))))⟩
set_option maxHeartbeats 8000000 in
set_option maxRecDepth 100000 in
theorem inside_some2 (n al au b s : Int) (w : World) (he : Env w) (x0 : 0 ≤ b) (x1 : b ≤ 255) (s0 : 0 ≤ s) (s1 : s ≤ 4294967295) (h : okD n al au = true) (hu : unitOf b = 2) (x y z : Int) (hv : convS 2 n al au = ((x, y, z), 0)) (hx : x = nearS 254 n) (hy : y = upS 254 al) (hz : z = downS 254 au) (hyz : y ≤ z) (hok : okD x y z = true) :
    Calls Tryd.prog 5 #[.agg #[.int .i64 n, .int .i64 al, .int .i64 au], .int .u8 b, .int .u32 s] w (Trues w) := by
  have HE := Lib.hid (fun W (hW : Below w.heap.size w W) => he.after hW)
  have HA := Lib.hid (fun W => h ▸ rDim_any n al au W)
  have HS := Lib.hid (fun W => step_2 b W x0 x1 hu)
  have HC := Lib.hid (fun W => Convert_any 2 n al au W)
  have HL := Lib.hid (fun W => Lost_any 2 n al au W)
  obtain ⟨a1, a2, a3, a4, a5⟩ := okD_iff.1 h
  rw [lostS_eq hv] at HL
  rw [hv] at HC
  rw [if_pos rfl] at HL
  have HI := Lib.hid (fun W => Inside_ok x y z n al au W (bad2_iff.2 ⟨hok, h⟩))
  have HX := Lib.hid (fun W => Exact_any x y z W)
  have hex : exactS 254 x y z = true := by rw [hx, hy, hz]; exact exact_again (.inr rfl)
  have hR : exactR x y z = (exactU x y z, 0) := by unfold exactR; rw [hok]; rfl
  have hm1 := mult_low (st := 254) (l := al) (m := s % 3937008) (.inr rfl)
  have hm2 := mult_high (st := 254) (u := au) (m := s % 3937008) (.inr rfl)
  have hf := near_far (st := 254) (n := n) (.inr rfl) a1
  have b1 := upS_bd (st := 254) a3 (.inr rfl)
  have b2 := downS_bd (st := 254) (n := au) (by omega) (.inr rfl)
  rw [← hx] at hf
  rw [← hy] at b1 hm1
  rw [← hz] at b2 hm2
  rw [hR] at HX
  obtain ⟨o1, o2, o3, o4, o5⟩ := okD_iff.1 hok
  have hin : allIn al au [y, z] = true := by
    simp only [allIn, List.all_cons, List.all_nil, Bool.and_true, Bool.and_eq_true, decide_eq_true_eq]; omega
  rw [hin] at HI
  have hE : exactU x y z = 2 ∨ exactU x y z = 3 := by
    rcases exactU_cases x y z with ⟨e1, e2, e3⟩ | ⟨e1, e2, e3⟩ | ⟨e1, e2, e3⟩ | ⟨e1, e2, e3⟩
    all_goals first | exact .inr e3 | exact .inl e3 | (rw [hex] at e1; cases e1) | (rw [hex] at e2; cases e2)
  generalize exactU x y z = E at *
  have hc : (s % 3937008 * 254 < al ∧ s % 3937008 * 254 < y) ∨ (al ≤ s % 3937008 * 254 ∧ y ≤ s % 3937008 * 254 ∧ s % 3937008 * 254 ≤ au ∧ s % 3937008 * 254 ≤ z) ∨ (al ≤ s % 3937008 * 254 ∧ y ≤ s % 3937008 * 254 ∧ au < s % 3937008 * 254 ∧ z < s % 3937008 * 254) := by omega
  have m0 : 0 ≤ s % 3937008 := by omega
  have m1 : s % 3937008 < 3937008 := by omega
  have l0 : al ≤ y := by omega
  have l1 : y - al < 254 := by omega
  have h0 : z ≤ au := by omega
  have h1 : au - z < 254 := by omega
  obtain ⟨hf1, hf2⟩ := hf
  have hfin : decide (2 * max (x - n) (-(x - n)) ≤ 254 + 2 * max 0 (n - 999999746)) = true := by
    refine decide_eq_true ?_
    rw [Int.max_def, Int.max_def]
    split <;> split <;> omega
  clear hf1 hf2
  clear he h x0 x1 hu hv hx hy hz hok hex hR hm1 hm2 b1 b2 hin
  go_enter Tryd.func5, Tryd.ntmps5
  go_wp2_with fail
  refine (alive_any _ (HE.out _ (by (repeat' (first | (with_reducible exact Below.refl _ _) | (with_reducible assumption) | (with_reducible refine Below.alloc ?_ ?_ _) | (with_reducible refine Below.setCell ?_ ?_ _) | (with_reducible refine below_row ?_ ?_ _) | (with_reducible refine Below.drew ?_) | (with_reducible refine below_drewN ?_ _) | (with_reducible refine Below.trans ?_ (Below.mono (by assumption) ?_)) | (first | exact Nat.le_refl _ | omega | (simp; done) | (simp; omega))))))).mono ?_
  rintro _ w1 ⟨rfl, hb1⟩
  have s1 := hb1.size; try simp only [World.size_alloc, World.size_setCell, World.size_drew, setRow_size] at s1
  have B1 : Below w.heap.size w w1 := by (repeat' (first | (with_reducible exact Below.refl _ _) | (with_reducible assumption) | (with_reducible refine Below.alloc ?_ ?_ _) | (with_reducible refine Below.setCell ?_ ?_ _) | (with_reducible refine below_row ?_ ?_ _) | (with_reducible refine Below.drew ?_) | (with_reducible refine below_drewN ?_ _) | (with_reducible refine Below.trans ?_ (Below.mono (by assumption) ?_)) | (first | exact Nat.le_refl _ | omega | (simp; done) | (simp; omega))))
  have HP_1 := Lib.hid (show Lies w1 _ 28 #[.int .i64 n, .int .i64 al, .int .i64 au] from (by first | exact (Lies.made w 28 #[.int .i64 n, .int .i64 al, .int .i64 au]).after hb1 | exact ((Lies.made w 28 #[.int .i64 n, .int .i64 al, .int .i64 au]).alloc _).after hb1 | exact (((Lies.made w 28 #[.int .i64 n, .int .i64 al, .int .i64 au]).alloc _).alloc _).after hb1))
  have A1 : Below w.heap.size w w1 := B1
  clear hb1 B1
  have qP0 := HP_1.out.cell 0
  have qP1 := HP_1.out.cell 1
  have qP2 := HP_1.out.cell 2
  have zP := HP_1.out.lt
  go_wp2_with fail
  refine (HA.out _).mono ?_
  rintro _ w2 ⟨rfl, hb2⟩
  have s2 := hb2.size; try simp only [World.size_alloc, World.size_setCell, World.size_drew, setRow_size] at s2
  clear qP0 qP1 qP2 zP
  have B2 : Below w1.heap.size w1 w2 := by (repeat' (first | (with_reducible exact Below.refl _ _) | (with_reducible assumption) | (with_reducible refine Below.alloc ?_ ?_ _) | (with_reducible refine Below.setCell ?_ ?_ _) | (with_reducible refine below_row ?_ ?_ _) | (with_reducible refine Below.drew ?_) | (with_reducible refine below_drewN ?_ _) | (with_reducible refine Below.trans ?_ (Below.mono (by assumption) ?_)) | (first | exact Nat.le_refl _ | omega | (simp; done) | (simp; omega))))
  have HP_2 := Lib.hid (HP_1.out.after B2)
  clear HP_1
  have A2 : Below w.heap.size w w2 := A1.trans (B2.mono A1.size)
  clear A1 hb2 B2
  have qP0 := HP_2.out.cell 0
  have qP1 := HP_2.out.cell 1
  have qP2 := HP_2.out.cell 2
  have zP := HP_2.out.lt
  go_wp2_with fail
  refine (HS.out _).mono ?_
  rintro _ w3 ⟨rfl, hb3⟩
  have s3 := hb3.size; try simp only [World.size_alloc, World.size_setCell, World.size_drew, setRow_size] at s3
  clear qP0 qP1 qP2 zP
  have B3 : Below w2.heap.size w2 w3 := by (repeat' (first | (with_reducible exact Below.refl _ _) | (with_reducible assumption) | (with_reducible refine Below.alloc ?_ ?_ _) | (with_reducible refine Below.setCell ?_ ?_ _) | (with_reducible refine below_row ?_ ?_ _) | (with_reducible refine Below.drew ?_) | (with_reducible refine below_drewN ?_ _) | (with_reducible refine Below.trans ?_ (Below.mono (by assumption) ?_)) | (first | exact Nat.le_refl _ | omega | (simp; done) | (simp; omega))))
  have HP_3 := Lib.hid (HP_2.out.after B3)
  clear HP_2
  have A3 : Below w.heap.size w w3 := A2.trans (B3.mono A2.size)
  clear A2 hb3 B3
  have qP0 := HP_3.out.cell 0
  have qP1 := HP_3.out.cell 1
  have qP2 := HP_3.out.cell 2
  have zP := HP_3.out.lt
  go_wp2_with fail
  refine (HC.out _).mono ?_
  rintro _ w4 ⟨rfl, hb4⟩
  have s4 := hb4.size; try simp only [World.size_alloc, World.size_setCell, World.size_drew, setRow_size] at s4
  clear qP0 qP1 qP2 zP
  have B4 : Below w3.heap.size w3 w4 := by (repeat' (first | (with_reducible exact Below.refl _ _) | (with_reducible assumption) | (with_reducible refine Below.alloc ?_ ?_ _) | (with_reducible refine Below.setCell ?_ ?_ _) | (with_reducible refine below_row ?_ ?_ _) | (with_reducible refine Below.drew ?_) | (with_reducible refine below_drewN ?_ _) | (with_reducible refine Below.trans ?_ (Below.mono (by assumption) ?_)) | (first | exact Nat.le_refl _ | omega | (simp; done) | (simp; omega))))
  have HP_4 := Lib.hid (HP_3.out.after B4)
  clear HP_3
  have A4 : Below w.heap.size w w4 := A3.trans (B4.mono A3.size)
  clear A3 hb4 B4
  have qP0 := HP_4.out.cell 0
  have qP1 := HP_4.out.cell 1
  have qP2 := HP_4.out.cell 2
  have zP := HP_4.out.lt
  go_wp2_with fail
  refine (HL.out _).mono ?_
  rintro _ w5 ⟨rfl, hb5⟩
  have s5 := hb5.size; try simp only [World.size_alloc, World.size_setCell, World.size_drew, setRow_size] at s5
  clear qP0 qP1 qP2 zP
  have B5 : Below w4.heap.size w4 w5 := by (repeat' (first | (with_reducible exact Below.refl _ _) | (with_reducible assumption) | (with_reducible refine Below.alloc ?_ ?_ _) | (with_reducible refine Below.setCell ?_ ?_ _) | (with_reducible refine below_row ?_ ?_ _) | (with_reducible refine Below.drew ?_) | (with_reducible refine below_drewN ?_ _) | (with_reducible refine Below.trans ?_ (Below.mono (by assumption) ?_)) | (first | exact Nat.le_refl _ | omega | (simp; done) | (simp; omega))))
  have HP_5 := Lib.hid (HP_4.out.after B5)
  have HX_5 := Lib.hid (show Lies w5 _ 28 #[.int .i64 x, .int .i64 y, .int .i64 z] from (by first | exact (Lies.made w4 28 #[.int .i64 x, .int .i64 y, .int .i64 z]).after hb5 | exact ((Lies.made w4 28 #[.int .i64 x, .int .i64 y, .int .i64 z]).alloc _).after hb5 | exact (((Lies.made w4 28 #[.int .i64 x, .int .i64 y, .int .i64 z]).alloc _).alloc _).after hb5))
  clear HP_4
  have A5 : Below w.heap.size w w5 := A4.trans (B5.mono A4.size)
  clear A4 hb5 B5
  have d3 : decide (al ≤ y) = true := decide_eq_true l0
  rcases hc with ⟨f1, f3⟩ | ⟨f1, f3, f2, f4⟩ | ⟨f1, f3, f2, f4⟩
  case' inl => have d1 : decide (al ≤ s % 3937008 * 254) = false := decide_eq_false (by omega)
  case' inl => have d5 : decide (y ≤ s % 3937008 * 254) = false := decide_eq_false (by omega)
  case' inr.inl => have d1 : decide (al ≤ s % 3937008 * 254) = true := decide_eq_true f1
  case' inr.inl => have d2 : decide (s % 3937008 * 254 ≤ au) = true := decide_eq_true f2
  case' inr.inl => have d5 : decide (y ≤ s % 3937008 * 254) = true := decide_eq_true f3
  case' inr.inl => have d6 : decide (s % 3937008 * 254 ≤ z) = true := decide_eq_true f4
  case' inr.inr => have d1 : decide (al ≤ s % 3937008 * 254) = true := decide_eq_true f1
  case' inr.inr => have d2 : decide (s % 3937008 * 254 ≤ au) = false := decide_eq_false (by omega)
  case' inr.inr => have d5 : decide (y ≤ s % 3937008 * 254) = true := decide_eq_true f3
  case' inr.inr => have d6 : decide (s % 3937008 * 254 ≤ z) = false := decide_eq_false (by omega)
  all_goals
    rcases hE with rfl | rfl
  all_goals
    have qP0 := HP_5.out.cell 0
    have qP1 := HP_5.out.cell 1
    have qP2 := HP_5.out.cell 2
    have zP := HP_5.out.lt
    have qX0 := HX_5.out.cell 0
    have qX1 := HX_5.out.cell 1
    have qX2 := HX_5.out.cell 2
    have zX := HX_5.out.lt
    go_wp2_with fail
    refine (HI.out _).mono ?_
    rintro _ w6 ⟨rfl, hb6⟩
    have s6 := hb6.size; try simp only [World.size_alloc, World.size_setCell, World.size_drew, setRow_size] at s6
    clear qP0 qP1 qP2 zP qX0 qX1 qX2 zX
    have B6 : Below w5.heap.size w5 w6 := by (repeat' (first | (with_reducible exact Below.refl _ _) | (with_reducible assumption) | (with_reducible refine Below.alloc ?_ ?_ _) | (with_reducible refine Below.setCell ?_ ?_ _) | (with_reducible refine below_row ?_ ?_ _) | (with_reducible refine Below.drew ?_) | (with_reducible refine below_drewN ?_ _) | (with_reducible refine Below.trans ?_ (Below.mono (by assumption) ?_)) | (first | exact Nat.le_refl _ | omega | (simp; done) | (simp; omega))))
    have HP_6 := Lib.hid (HP_5.out.after B6)
    have HX_6 := Lib.hid (HX_5.out.after B6)
    clear HP_5 HX_5
    have A6 : Below w.heap.size w w6 := A5.trans (B6.mono A5.size)
    clear A5 hb6 B6
    have qP0 := HP_6.out.cell 0
    have qP1 := HP_6.out.cell 1
    have qP2 := HP_6.out.cell 2
    have zP := HP_6.out.lt
    have qX0 := HX_6.out.cell 0
    have qX1 := HX_6.out.cell 1
    have qX2 := HX_6.out.cell 2
    have zX := HX_6.out.lt
    go_wp2_with fail
    refine (HX.out _).mono ?_
    rintro _ w7 ⟨rfl, hb7⟩
    have s7 := hb7.size; try simp only [World.size_alloc, World.size_setCell, World.size_drew, setRow_size] at s7
    clear qP0 qP1 qP2 zP qX0 qX1 qX2 zX
    have B7 : Below w6.heap.size w6 w7 := by (repeat' (first | (with_reducible exact Below.refl _ _) | (with_reducible assumption) | (with_reducible refine Below.alloc ?_ ?_ _) | (with_reducible refine Below.setCell ?_ ?_ _) | (with_reducible refine below_row ?_ ?_ _) | (with_reducible refine Below.drew ?_) | (with_reducible refine below_drewN ?_ _) | (with_reducible refine Below.trans ?_ (Below.mono (by assumption) ?_)) | (first | exact Nat.le_refl _ | omega | (simp; done) | (simp; omega))))
    have HP_7 := Lib.hid (HP_6.out.after B7)
    have HX_7 := Lib.hid (HX_6.out.after B7)
    clear HP_6 HX_6
    have A7 : Below w.heap.size w w7 := A6.trans (B7.mono A6.size)
    clear A6 hb7 B7
    have qP0 := HP_7.out.cell 0
    have qP1 := HP_7.out.cell 1
    have qP2 := HP_7.out.cell 2
    have qX0 := HX_7.out.cell 0
    have qX1 := HX_7.out.cell 1
    have qX2 := HX_7.out.cell 2
    have zP := HP_7.out.lt
    have zX := HX_7.out.lt
    go_wp2
    go_ret
    exact ⟨rfl, by (repeat' (first | (with_reducible exact Below.refl _ _) | (with_reducible assumption) | (with_reducible refine Below.alloc ?_ ?_ _) | (with_reducible refine Below.setCell ?_ ?_ _) | (with_reducible refine below_row ?_ ?_ _) | (with_reducible refine Below.drew ?_) | (with_reducible refine below_drewN ?_ _) | (with_reducible refine Below.trans ?_ (Below.mono (by assumption) ?_)) | (first | exact Nat.le_refl _ | omega | (simp; done) | (simp; omega))))⟩
theorem inside_any (n al au b s : Int) (w : World) (he : Env w) (x0 : 0 ≤ b) (x1 : b ≤ 255) (s0 : 0 ≤ s) (s1 : s ≤ 4294967295) : Calls Tryd.prog 5 #[.agg #[.int .i64 n, .int .i64 al, .int .i64 au], .int .u8 b, .int .u32 s] w (Trues w) := by
  cases h : okD n al au
  · exact inside_a n al au b s w he x0 x1 s0 s1 h
  · rcases unitOf_or b with hu | hu
    · obtain ⟨x, y, z, e, hv, ⟨rfl, hx, hy, hz, hyz, hok⟩ | ⟨rfl, rfl, rfl, rfl, hx⟩⟩ := conv_spec (.inl hu) h
      · rw [hu] at hv hx hy hz; exact inside_some1 n al au b s w he x0 x1 s0 s1 h hu x y z hv hx hy hz hyz hok
      · rw [hu] at hv hx; exact inside_none1 n al au b s w he x0 x1 s0 s1 h hu hv hx
    · obtain ⟨x, y, z, e, hv, ⟨rfl, hx, hy, hz, hyz, hok⟩ | ⟨rfl, rfl, rfl, rfl, hx⟩⟩ := conv_spec (.inr hu) h
      · rw [hu] at hv hx hy hz; exact inside_some2 n al au b s w he x0 x1 s0 s1 h hu x y z hv hx hy hz hyz hok
      · rw [hu] at hv hx; exact inside_none2 n al au b s w he x0 x1 s0 s1 h hu hv hx
end Go.Proofs.YtldjkdomklgmaaaDoor
