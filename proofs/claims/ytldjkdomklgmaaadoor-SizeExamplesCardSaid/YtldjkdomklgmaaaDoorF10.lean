/- The law SizeExamples: the walk. -/
import Derived.Test.YtldjkdomklgmaaaDoorF2
import Derived.Deep.DeepCutAuto
import Derived.Deep.CutRange
import Derived.Deep.RegionHeld3
namespace Go.Proofs.YtldjkdomklgmaaaDoor
set_option linter.unusedVariables false
set_option linter.unusedSimpArgs false
open Go.RowKit

set_option maxHeartbeats 1000000 in
theorem err_any (w : World) (he : Env w) : Calls Tryd.prog 13 #[.int .i64 10] w fun e w' => e = .returned (.string ⟨#[101, 114, 114, 111, 114, 32, 49, 48]⟩) ∧ Below w.heap.size w w' := by
  have HI := Lib.hid (fun W hW => itoa_any 10 (by decide) (by decide) W hW)
  have hs : (⟨(Lib.itoa 10).toArray⟩ : ByteArray) = ⟨#[49, 48]⟩ := by decide +kernel
  rw [hs] at HI
  go_enter Tryd.func13, Tryd.ntmps13
  go_wp2_with fail
  refine (HI.out _ he).mono ?_
  rintro e w1 ⟨rfl, hb1⟩
  go_wp2
  go_ret
  exact ⟨by first | rfl | decide +kernel, by (repeat' (first | (with_reducible exact Below.refl _ _) | (with_reducible assumption) | (with_reducible refine Below.alloc ?_ ?_ _) | (with_reducible refine Below.setCell ?_ ?_ _) | (with_reducible refine below_row ?_ ?_ _) | (with_reducible refine Below.drew ?_) | (with_reducible refine below_drewN ?_ _) | (with_reducible refine Below.trans ?_ (Below.mono (by assumption) ?_)) | (first | exact Nat.le_refl _ | omega | (simp; done) | (simp; omega))))⟩
def zero21 : Array Value := Array.replicate 21 (.int .u8 0)
def zero63 : Array Value := Array.replicate 63 (.int .i64 0)
theorem y_exact3 : exactR 1270000 1270000 1270000 = (3, 0) := by decide +kernel
theorem y_exact0 : exactR 0 1 0 = (0, 10) := by decide +kernel
theorem y_bad1 : bad2 (2000000) (2000000) (2002100) (2000000) (1998000) (1999300) = false := by decide +kernel
theorem y_bad2 : bad2 (2000000) (1998000) (1999300) (2000000) (2000000) (2002100) = false := by decide +kernel
theorem y_bad3 : bad2 (2000000) (2000000) (2002100) 0 1 0 = true := by decide +kernel
theorem y_fit1 : fitS (2000000) (2002100) (1998000) (1999300) false = ((700, 4100), 1, 0) := by decide +kernel
theorem y_fit2 : fitS (1998000) (1999300) (2000000) (2002100) false = ((-4100, -700), 2, 0) := by decide +kernel
theorem y_write0 : writeS 0 (2000000) (2000000) (2002100) = ([], 11) := by decide +kernel
theorem y_write2 : writeS 2 (2000000) (2000000) (2002100) = ([], 12) := by decide +kernel
theorem y_read : readS ⟨#[50, 48, 46, 48, 48, 48, 32, 45, 48, 46, 48, 48, 48, 32, 43, 48, 46, 48, 48, 55, 32, 109, 109]⟩ = none := by decide +kernel
theorem y_conv : convS 1 5 1 99 = ((0, 0, 0), 6) := by decide +kernel
theorem y_redraw : redrawS [1, 3] (2000000) (2000000) (2002100) = ((0, 0, 0), 11) := by decide +kernel
theorem y_lost : lostS 3 (2000000) (2000000) (2002100) = (0, 0, 11) := by decide +kernel
theorem y_room1 : roomS (2000000) (2000000) (2002100) 1 0 = ((0, 0, 0), 2) := by decide +kernel
theorem y_room2 : roomS (2000000) (2000000) (2002100) 700 800 = ((0, 0, 0), 6) := by decide +kernel
theorem y_share1 : shareS 2 2000000 700 4100 = noTwo 12 := by decide +kernel
theorem y_share2 : shareS 1 (-1) 0 0 = noTwo 2 := by decide +kernel
theorem y_meet : meetR [(2000000, 2000000, 2002100), (2000000, 1998000, 1999300)] = ((0, 0), 6) := by decide +kernel
theorem y_ok : okD (2000000) (2000000) (2002100) = true := by decide +kernel

set_option maxHeartbeats 8000000 in
set_option maxRecDepth 100000 in
theorem examples_any (w : World) (he : Env w) : Calls Tryd.prog 3 #[] w (Trues w) := by
  have HE := Lib.hid (fun W (hW : Below w.heap.size w W) => he.after hW)
  clear he
  have KX3 : Hid (∀ W, Calls Tryd.prog 15 #[.agg #[.int .i64 1270000, .int .i64 1270000, .int .i64 1270000]] W fun e w' => e = .returned (.tuple #[.int .u8 3, .int .i64 0]) ∧ Below W.heap.size W w') := Lib.hid (fun W => by have h := Exact_any 1270000 1270000 1270000 W; rw [y_exact3] at h; exact h)
  have KX0 : Hid (∀ W, Calls Tryd.prog 15 #[.agg #[.int .i64 0, .int .i64 1, .int .i64 0]] W fun e w' => e = .returned (.tuple #[.int .u8 0, .int .i64 10]) ∧ Below W.heap.size W w') := Lib.hid (fun W => by have h := Exact_any 0 1 0 W; rw [y_exact0] at h; exact h)
  have KF1 : Hid (∀ W, Calls Tryd.prog 17 #[.agg #[.int .i64 2000000, .int .i64 2000000, .int .i64 2002100], .agg #[.int .i64 2000000, .int .i64 1998000, .int .i64 1999300]] W fun e w' => e = .returned (.tuple #[.agg #[.int .i64 700, .int .i64 4100], .int .u8 1, .int .i64 0]) ∧ Below W.heap.size W w') := Lib.hid (fun W => by have h := Fit_any (2000000) (2000000) (2002100) (2000000) (1998000) (1999300) W; rw [y_bad1, y_fit1] at h; exact h)
  have KF2 : Hid (∀ W, Calls Tryd.prog 17 #[.agg #[.int .i64 2000000, .int .i64 1998000, .int .i64 1999300], .agg #[.int .i64 2000000, .int .i64 2000000, .int .i64 2002100]] W fun e w' => e = .returned (.tuple #[.agg #[.int .i64 (-4100), .int .i64 (-700)], .int .u8 2, .int .i64 0]) ∧ Below W.heap.size W w') := Lib.hid (fun W => by have h := Fit_any (2000000) (1998000) (1999300) (2000000) (2000000) (2002100) W; rw [y_bad2, y_fit2] at h; exact h)
  have KW0 : Hid (∀ W, Below w.heap.size w W → Calls Tryd.prog 20 #[.agg #[.int .i64 2000000, .int .i64 2000000, .int .i64 2002100], .int .u8 0] W fun e w' => e = .returned (.tuple #[.string ⟨#[]⟩, .int .i64 11]) ∧ Below W.heap.size W w') := Lib.hid (fun W hW => by have h := Write_any 0 (2000000) (2000000) (2002100) W (HE.out W hW); rw [y_write0] at h; exact h)
  have KW2 : Hid (∀ W, Below w.heap.size w W → Calls Tryd.prog 20 #[.agg #[.int .i64 2000000, .int .i64 2000000, .int .i64 2002100], .int .u8 2] W fun e w' => e = .returned (.tuple #[.string ⟨#[]⟩, .int .i64 12]) ∧ Below W.heap.size W w') := Lib.hid (fun W hW => by have h := Write_any 2 (2000000) (2000000) (2002100) W (HE.out W hW); rw [y_write2] at h; exact h)
  have KD : Hid (∀ W, Below w.heap.size w W → Calls Tryd.prog 21 #[.string ⟨#[50, 48, 46, 48, 48, 48, 32, 45, 48, 46, 48, 48, 48, 32, 43, 48, 46, 48, 48, 55, 32, 109, 109]⟩] W fun e w' => e = .returned (.tuple #[.agg #[.int .i64 0, .int .i64 0, .int .i64 0], .int .u8 0, .int .i64 13]) ∧ Below W.heap.size W w') := Lib.hid (fun W hW => by have h := Read_any ⟨#[50, 48, 46, 48, 48, 48, 32, 45, 48, 46, 48, 48, 48, 32, 43, 48, 46, 48, 48, 55, 32, 109, 109]⟩ W (HE.out W hW) (by decide); rw [y_read] at h; exact h)
  have KC : Hid (∀ W, Calls Tryd.prog 22 #[.agg #[.int .i64 5, .int .i64 1, .int .i64 99], .int .u8 1] W fun e w' => e = .returned (.tuple #[.agg #[.int .i64 0, .int .i64 0, .int .i64 0], .int .i64 6]) ∧ Below W.heap.size W w') := Lib.hid (fun W => by have h := Convert_any 1 5 1 99 W; rw [y_conv] at h; exact h)
  have KM : Hid (∀ (A : Option Addr) (c : Nat) W, Calls Tryd.prog 23 #[.agg #[.int .i64 2000000, .int .i64 2000000, .int .i64 2002100], .slice A 21 c] W fun e w' => e = .returned (.tuple #[.agg #[.int .i64 0, .int .i64 0, .int .i64 0], .int .i64 4]) ∧ Below W.heap.size W w') := Lib.hid (fun A c W => Redraw_many A 21 c (2000000) (2000000) (2002100) W y_ok (by decide))
  have KR : Hid (∀ g W, Lies W g 5 #[.int .u8 1, .int .u8 3] → Calls Tryd.prog 23 #[.agg #[.int .i64 2000000, .int .i64 2000000, .int .i64 2002100], .slice (some ⟨g, 0, none⟩) 2 2] W fun e w' => e = .returned (.tuple #[.agg #[.int .i64 0, .int .i64 0, .int .i64 0], .int .i64 11]) ∧ Below W.heap.size W w') := Lib.hid (fun g W hL => by
    have h := Redraw_any (some ⟨g, 0, none⟩) g 0 [1, 3] 2 (2000000) (2000000) (2002100) W (fun _ => rfl) (fun i hi => by
      match i, hi with
      | 0, _ => exact hL.cell 0
      | 1, _ => exact hL.cell 1)
    rw [y_redraw] at h; exact h)
  have KL : Hid (∀ W, Calls Tryd.prog 24 #[.agg #[.int .i64 2000000, .int .i64 2000000, .int .i64 2002100], .int .u8 3] W fun e w' => e = .returned (.tuple #[.int .i64 0, .int .i64 0, .int .i64 11]) ∧ Below W.heap.size W w') := Lib.hid (fun W => by have h := Lost_any 3 (2000000) (2000000) (2002100) W; rw [y_lost] at h; exact h)
  have KI : Hid (∀ W, Calls Tryd.prog 25 #[.agg #[.int .i64 2000000, .int .i64 2000000, .int .i64 2002100], .agg #[.int .i64 0, .int .i64 1, .int .i64 0]] W fun e w' => e = .returned (.tuple #[.bool false, .int .i64 10]) ∧ Below W.heap.size W w') := Lib.hid (fun W => Inside_bad (2000000) (2000000) (2002100) 0 1 0 W y_bad3)
  have KO1 : Hid (∀ W, Calls Tryd.prog 26 #[.agg #[.int .i64 2000000, .int .i64 2000000, .int .i64 2002100], .agg #[.int .i64 1, .int .i64 0]] W fun e w' => e = .returned (.tuple #[.agg #[.int .i64 0, .int .i64 0, .int .i64 0], .int .i64 2]) ∧ Below W.heap.size W w') := Lib.hid (fun W => by have h := Room_any (2000000) (2000000) (2002100) 1 0 W; rw [y_room1] at h; exact h)
  have KO2 : Hid (∀ W, Calls Tryd.prog 26 #[.agg #[.int .i64 2000000, .int .i64 2000000, .int .i64 2002100], .agg #[.int .i64 700, .int .i64 800]] W fun e w' => e = .returned (.tuple #[.agg #[.int .i64 0, .int .i64 0, .int .i64 0], .int .i64 6]) ∧ Below W.heap.size W w') := Lib.hid (fun W => by have h := Room_any (2000000) (2000000) (2002100) 700 800 W; rw [y_room2] at h; exact h)
  have KS1 : Hid (∀ W, Calls Tryd.prog 27 #[.int .i64 2000000, .agg #[.int .i64 700, .int .i64 4100], .int .u8 2] W fun e w' => e = .returned (.tuple #[.agg #[.int .i64 0, .int .i64 0, .int .i64 0], .agg #[.int .i64 0, .int .i64 0, .int .i64 0], .int .i64 12]) ∧ Below W.heap.size W w') := Lib.hid (fun W => by have h := Share_any 2 2000000 700 4100 W; rw [y_share1] at h; exact h)
  have KS2 : Hid (∀ W, Calls Tryd.prog 27 #[.int .i64 (-1), .agg #[.int .i64 0, .int .i64 0], .int .u8 1] W fun e w' => e = .returned (.tuple #[.agg #[.int .i64 0, .int .i64 0, .int .i64 0], .agg #[.int .i64 0, .int .i64 0, .int .i64 0], .int .i64 2]) ∧ Below W.heap.size W w') := Lib.hid (fun W => by have h := Share_any 1 (-1) 0 0 W; rw [y_share2] at h; exact h)
  have KT : Hid (∀ g W, Lies W g 28 #[.int .i64 2000000, .int .i64 2000000, .int .i64 2002100, .int .i64 2000000, .int .i64 1998000, .int .i64 1999300] → Calls Tryd.prog 28 #[.slice (some ⟨g, 0, none⟩) 2 2] W fun e w' => e = .returned (.tuple #[.agg #[.int .i64 0, .int .i64 0], .int .i64 6]) ∧ Below W.heap.size W w') := Lib.hid (fun g W hL => by
    have h := Meet_any (some ⟨g, 0, none⟩) g 0 [(2000000, 2000000, 2002100), (2000000, 1998000, 1999300)] 2 W (fun _ => rfl) (fun i hi => by
      match i, hi with
      | 0, _ => exact ⟨hL.cell 0, hL.cell 1, hL.cell 2⟩
      | 1, _ => exact ⟨hL.cell 3, hL.cell 4, hL.cell 5⟩)
    rw [y_meet] at h; exact h)
  have KN : Hid (∀ (A : Option Addr) (c : Nat) W, Calls Tryd.prog 28 #[.slice A 0 c] W fun e w' => e = .returned (.tuple #[.agg #[.int .i64 0, .int .i64 0], .int .i64 6]) ∧ Below W.heap.size W w') := Lib.hid (fun A c W => Meet_empty A c W)
  have KT4 : Hid (∀ (A : Option Addr) (c : Nat) W, Calls Tryd.prog 28 #[.slice A 21 c] W fun e w' => e = .returned (.tuple #[.agg #[.int .i64 0, .int .i64 0], .int .i64 4]) ∧ Below W.heap.size W w') := Lib.hid (fun A c W => Meet_many A 21 c W (by decide))
  have mk1 : ∀ W, (Instr.makeSlice 42 (.int .i64 21) (.int .i64 21)).run Tryd.prog W = .ok (.slice (some ⟨W.heap.size, 0, none⟩) 21 21) (W.alloc (.cells zero21 5)) := fun _ => by kernel_rfl
  have mk2 : ∀ W, (Instr.makeSlice 52 (.int .i64 21) (.int .i64 21)).run Tryd.prog W = .ok (.slice (some ⟨W.heap.size, 0, none⟩) 21 21) (W.alloc (.cells zero63 28)) := fun _ => by kernel_rfl
  go_enter Tryd.func3, Tryd.ntmps3
  go_wp2_with fail
  refine (err_any _ (HE.out _ (by (repeat' (first | (with_reducible exact Below.refl _ _) | (with_reducible assumption) | (with_reducible refine Below.alloc ?_ ?_ _) | (with_reducible refine Below.setCell ?_ ?_ _) | (with_reducible refine below_row ?_ ?_ _) | (with_reducible refine Below.drew ?_) | (with_reducible refine below_drewN ?_ _) | (with_reducible refine Below.trans ?_ (Below.mono (by assumption) ?_)) | (first | exact Nat.le_refl _ | omega | (simp; done) | (simp; omega))))))).mono ?_
  rintro _ w1 ⟨rfl, hb1⟩
  have s1 := hb1.size; try simp only [World.size_alloc, World.size_setCell, World.size_drew, setRow_size] at s1
  have B1 : Below w.heap.size w w1 := by (repeat' (first | (with_reducible exact Below.refl _ _) | (with_reducible assumption) | (with_reducible refine Below.alloc ?_ ?_ _) | (with_reducible refine Below.setCell ?_ ?_ _) | (with_reducible refine below_row ?_ ?_ _) | (with_reducible refine Below.drew ?_) | (with_reducible refine below_drewN ?_ _) | (with_reducible refine Below.trans ?_ (Below.mono (by assumption) ?_)) | (first | exact Nat.le_refl _ | omega | (simp; done) | (simp; omega))))
  have A1 : Below w.heap.size w w1 := B1
  clear hb1 B1
  go_wp2_with fail
  refine (alive_any _ (HE.out _ (A1.trans (Below.mono (by (repeat' (first | (with_reducible exact Below.refl _ _) | (with_reducible assumption) | (with_reducible refine Below.alloc ?_ ?_ _) | (with_reducible refine Below.setCell ?_ ?_ _) | (with_reducible refine below_row ?_ ?_ _) | (with_reducible refine Below.drew ?_) | (with_reducible refine below_drewN ?_ _) | (with_reducible refine Below.trans ?_ (Below.mono (by assumption) ?_)) | (first | exact Nat.le_refl _ | omega | (simp; done) | (simp; omega))))) A1.size)))).mono ?_
  rintro _ w2 ⟨rfl, hb2⟩
  have s2 := hb2.size; try simp only [World.size_alloc, World.size_setCell, World.size_drew, setRow_size] at s2
  have B2 : Below w1.heap.size w1 w2 := by (repeat' (first | (with_reducible exact Below.refl _ _) | (with_reducible assumption) | (with_reducible refine Below.alloc ?_ ?_ _) | (with_reducible refine Below.setCell ?_ ?_ _) | (with_reducible refine below_row ?_ ?_ _) | (with_reducible refine Below.drew ?_) | (with_reducible refine below_drewN ?_ _) | (with_reducible refine Below.trans ?_ (Below.mono (by assumption) ?_)) | (first | exact Nat.le_refl _ | omega | (simp; done) | (simp; omega))))
  have A2 : Below w.heap.size w w2 := A1.trans (B2.mono A1.size)
  clear A1 hb2 B2
  go_wp2_with fail
  refine (dim_any _ _ _ _).mono ?_
  rintro _ w3 ⟨rfl, hb3⟩
  have s3 := hb3.size; try simp only [World.size_alloc, World.size_setCell, World.size_drew, setRow_size] at s3
  have B3 : Below w2.heap.size w2 w3 := by (repeat' (first | (with_reducible exact Below.refl _ _) | (with_reducible assumption) | (with_reducible refine Below.alloc ?_ ?_ _) | (with_reducible refine Below.setCell ?_ ?_ _) | (with_reducible refine below_row ?_ ?_ _) | (with_reducible refine Below.drew ?_) | (with_reducible refine below_drewN ?_ _) | (with_reducible refine Below.trans ?_ (Below.mono (by assumption) ?_)) | (first | exact Nat.le_refl _ | omega | (simp; done) | (simp; omega))))
  have A3 : Below w.heap.size w w3 := A2.trans (B3.mono A2.size)
  clear A2 hb3 B3
  go_wp2_with fail
  refine (KX3.out _).mono ?_
  rintro _ w4 ⟨rfl, hb4⟩
  have s4 := hb4.size; try simp only [World.size_alloc, World.size_setCell, World.size_drew, setRow_size] at s4
  have B4 : Below w3.heap.size w3 w4 := by (repeat' (first | (with_reducible exact Below.refl _ _) | (with_reducible assumption) | (with_reducible refine Below.alloc ?_ ?_ _) | (with_reducible refine Below.setCell ?_ ?_ _) | (with_reducible refine below_row ?_ ?_ _) | (with_reducible refine Below.drew ?_) | (with_reducible refine below_drewN ?_ _) | (with_reducible refine Below.trans ?_ (Below.mono (by assumption) ?_)) | (first | exact Nat.le_refl _ | omega | (simp; done) | (simp; omega))))
  have A4 : Below w.heap.size w w4 := A3.trans (B4.mono A3.size)
  clear A3 hb4 B4
  go_wp2_with fail
  refine (hole_any _).mono ?_
  rintro _ w5 ⟨rfl, hb5⟩
  have s5 := hb5.size; try simp only [World.size_alloc, World.size_setCell, World.size_drew, setRow_size] at s5
  have B5 : Below w4.heap.size w4 w5 := by (repeat' (first | (with_reducible exact Below.refl _ _) | (with_reducible assumption) | (with_reducible refine Below.alloc ?_ ?_ _) | (with_reducible refine Below.setCell ?_ ?_ _) | (with_reducible refine below_row ?_ ?_ _) | (with_reducible refine Below.drew ?_) | (with_reducible refine below_drewN ?_ _) | (with_reducible refine Below.trans ?_ (Below.mono (by assumption) ?_)) | (first | exact Nat.le_refl _ | omega | (simp; done) | (simp; omega))))
  have A5 : Below w.heap.size w w5 := A4.trans (B5.mono A4.size)
  clear A4 hb5 B5
  go_wp2_with fail
  refine (shaft_any _).mono ?_
  rintro _ w6 ⟨rfl, hb6⟩
  have s6 := hb6.size; try simp only [World.size_alloc, World.size_setCell, World.size_drew, setRow_size] at s6
  have B6 : Below w5.heap.size w5 w6 := by (repeat' (first | (with_reducible exact Below.refl _ _) | (with_reducible assumption) | (with_reducible refine Below.alloc ?_ ?_ _) | (with_reducible refine Below.setCell ?_ ?_ _) | (with_reducible refine below_row ?_ ?_ _) | (with_reducible refine Below.drew ?_) | (with_reducible refine below_drewN ?_ _) | (with_reducible refine Below.trans ?_ (Below.mono (by assumption) ?_)) | (first | exact Nat.le_refl _ | omega | (simp; done) | (simp; omega))))
  have A6 : Below w.heap.size w w6 := A5.trans (B6.mono A5.size)
  clear A5 hb6 B6
  go_wp2_with fail
  refine (KF1.out _).mono ?_
  rintro _ w7 ⟨rfl, hb7⟩
  have s7 := hb7.size; try simp only [World.size_alloc, World.size_setCell, World.size_drew, setRow_size] at s7
  have B7 : Below w6.heap.size w6 w7 := by (repeat' (first | (with_reducible exact Below.refl _ _) | (with_reducible assumption) | (with_reducible refine Below.alloc ?_ ?_ _) | (with_reducible refine Below.setCell ?_ ?_ _) | (with_reducible refine below_row ?_ ?_ _) | (with_reducible refine Below.drew ?_) | (with_reducible refine below_drewN ?_ _) | (with_reducible refine Below.trans ?_ (Below.mono (by assumption) ?_)) | (first | exact Nat.le_refl _ | omega | (simp; done) | (simp; omega))))
  have A7 : Below w.heap.size w w7 := A6.trans (B7.mono A6.size)
  clear A6 hb7 B7
  go_wp2_with fail
  refine (shaft_any _).mono ?_
  rintro _ w8 ⟨rfl, hb8⟩
  have s8 := hb8.size; try simp only [World.size_alloc, World.size_setCell, World.size_drew, setRow_size] at s8
  have B8 : Below w7.heap.size w7 w8 := by (repeat' (first | (with_reducible exact Below.refl _ _) | (with_reducible assumption) | (with_reducible refine Below.alloc ?_ ?_ _) | (with_reducible refine Below.setCell ?_ ?_ _) | (with_reducible refine below_row ?_ ?_ _) | (with_reducible refine Below.drew ?_) | (with_reducible refine below_drewN ?_ _) | (with_reducible refine Below.trans ?_ (Below.mono (by assumption) ?_)) | (first | exact Nat.le_refl _ | omega | (simp; done) | (simp; omega))))
  have HS_8 := Lib.hid (show Lies w8 _ 31 #[.int .i64 700, .int .i64 4100] from (by first | exact (Lies.made w7 31 #[.int .i64 700, .int .i64 4100]).after hb8 | exact ((Lies.made w7 31 #[.int .i64 700, .int .i64 4100]).alloc _).after hb8 | exact (((Lies.made w7 31 #[.int .i64 700, .int .i64 4100]).alloc _).alloc _).after hb8))
  have A8 : Below w.heap.size w w8 := A7.trans (B8.mono A7.size)
  clear A7 hb8 B8
  go_wp2_with fail
  refine (hole_any _).mono ?_
  rintro _ w9 ⟨rfl, hb9⟩
  have s9 := hb9.size; try simp only [World.size_alloc, World.size_setCell, World.size_drew, setRow_size] at s9
  have B9 : Below w8.heap.size w8 w9 := by (repeat' (first | (with_reducible exact Below.refl _ _) | (with_reducible assumption) | (with_reducible refine Below.alloc ?_ ?_ _) | (with_reducible refine Below.setCell ?_ ?_ _) | (with_reducible refine below_row ?_ ?_ _) | (with_reducible refine Below.drew ?_) | (with_reducible refine below_drewN ?_ _) | (with_reducible refine Below.trans ?_ (Below.mono (by assumption) ?_)) | (first | exact Nat.le_refl _ | omega | (simp; done) | (simp; omega))))
  have HS_9 := Lib.hid (HS_8.out.after B9)
  clear HS_8
  have A9 : Below w.heap.size w w9 := A8.trans (B9.mono A8.size)
  clear A8 hb9 B9
  go_wp2_with fail
  refine (KF2.out _).mono ?_
  rintro _ w10 ⟨rfl, hb10⟩
  have s10 := hb10.size; try simp only [World.size_alloc, World.size_setCell, World.size_drew, setRow_size] at s10
  have B10 : Below w9.heap.size w9 w10 := by (repeat' (first | (with_reducible exact Below.refl _ _) | (with_reducible assumption) | (with_reducible refine Below.alloc ?_ ?_ _) | (with_reducible refine Below.setCell ?_ ?_ _) | (with_reducible refine below_row ?_ ?_ _) | (with_reducible refine Below.drew ?_) | (with_reducible refine below_drewN ?_ _) | (with_reducible refine Below.trans ?_ (Below.mono (by assumption) ?_)) | (first | exact Nat.le_refl _ | omega | (simp; done) | (simp; omega))))
  have HS_10 := Lib.hid (HS_9.out.after B10)
  clear HS_9
  have A10 : Below w.heap.size w w10 := A9.trans (B10.mono A9.size)
  clear A9 hb10 B10
  have qS0 := HS_10.out.cell 0
  have qS1 := HS_10.out.cell 1
  have zS := HS_10.out.lt
  go_wp2_with fail
  refine (dim_any _ _ _ _).mono ?_
  rintro _ w11 ⟨rfl, hb11⟩
  have s11 := hb11.size; try simp only [World.size_alloc, World.size_setCell, World.size_drew, setRow_size] at s11
  clear qS0 qS1 zS
  have B11 : Below w10.heap.size w10 w11 := by (repeat' (first | (with_reducible exact Below.refl _ _) | (with_reducible assumption) | (with_reducible refine Below.alloc ?_ ?_ _) | (with_reducible refine Below.setCell ?_ ?_ _) | (with_reducible refine below_row ?_ ?_ _) | (with_reducible refine Below.drew ?_) | (with_reducible refine below_drewN ?_ _) | (with_reducible refine Below.trans ?_ (Below.mono (by assumption) ?_)) | (first | exact Nat.le_refl _ | omega | (simp; done) | (simp; omega))))
  have HS_11 := Lib.hid (HS_10.out.after B11)
  clear HS_10
  have A11 : Below w.heap.size w w11 := A10.trans (B11.mono A10.size)
  clear A10 hb11 B11
  clear HS_11
  go_wp2_with fail
  refine (KX0.out _).mono ?_
  rintro _ w12 ⟨rfl, hb12⟩
  have s12 := hb12.size; try simp only [World.size_alloc, World.size_setCell, World.size_drew, setRow_size] at s12
  have B12 : Below w11.heap.size w11 w12 := by (repeat' (first | (with_reducible exact Below.refl _ _) | (with_reducible assumption) | (with_reducible refine Below.alloc ?_ ?_ _) | (with_reducible refine Below.setCell ?_ ?_ _) | (with_reducible refine below_row ?_ ?_ _) | (with_reducible refine Below.drew ?_) | (with_reducible refine below_drewN ?_ _) | (with_reducible refine Below.trans ?_ (Below.mono (by assumption) ?_)) | (first | exact Nat.le_refl _ | omega | (simp; done) | (simp; omega))))
  have HO_12 := Lib.hid (show Lies w12 _ 28 #[.int .i64 0, .int .i64 1, .int .i64 0] from (by first | exact (Lies.made w11 28 #[.int .i64 0, .int .i64 1, .int .i64 0]).after hb12 | exact ((Lies.made w11 28 #[.int .i64 0, .int .i64 1, .int .i64 0]).alloc _).after hb12 | exact (((Lies.made w11 28 #[.int .i64 0, .int .i64 1, .int .i64 0]).alloc _).alloc _).after hb12))
  have A12 : Below w.heap.size w w12 := A11.trans (B12.mono A11.size)
  clear A11 hb12 B12
  go_wp2_with fail
  refine (hole_any _).mono ?_
  rintro _ w13 ⟨rfl, hb13⟩
  have s13 := hb13.size; try simp only [World.size_alloc, World.size_setCell, World.size_drew, setRow_size] at s13
  have B13 : Below w12.heap.size w12 w13 := by (repeat' (first | (with_reducible exact Below.refl _ _) | (with_reducible assumption) | (with_reducible refine Below.alloc ?_ ?_ _) | (with_reducible refine Below.setCell ?_ ?_ _) | (with_reducible refine below_row ?_ ?_ _) | (with_reducible refine Below.drew ?_) | (with_reducible refine below_drewN ?_ _) | (with_reducible refine Below.trans ?_ (Below.mono (by assumption) ?_)) | (first | exact Nat.le_refl _ | omega | (simp; done) | (simp; omega))))
  have HO_13 := Lib.hid (HO_12.out.after B13)
  clear HO_12
  have A13 : Below w.heap.size w w13 := A12.trans (B13.mono A12.size)
  clear A12 hb13 B13
  go_wp2_with fail
  refine (KW0.out _ (A13.trans (Below.mono (by (repeat' (first | (with_reducible exact Below.refl _ _) | (with_reducible assumption) | (with_reducible refine Below.alloc ?_ ?_ _) | (with_reducible refine Below.setCell ?_ ?_ _) | (with_reducible refine below_row ?_ ?_ _) | (with_reducible refine Below.drew ?_) | (with_reducible refine below_drewN ?_ _) | (with_reducible refine Below.trans ?_ (Below.mono (by assumption) ?_)) | (first | exact Nat.le_refl _ | omega | (simp; done) | (simp; omega))))) A13.size))).mono ?_
  rintro _ w14 ⟨rfl, hb14⟩
  have s14 := hb14.size; try simp only [World.size_alloc, World.size_setCell, World.size_drew, setRow_size] at s14
  have B14 : Below w13.heap.size w13 w14 := by (repeat' (first | (with_reducible exact Below.refl _ _) | (with_reducible assumption) | (with_reducible refine Below.alloc ?_ ?_ _) | (with_reducible refine Below.setCell ?_ ?_ _) | (with_reducible refine below_row ?_ ?_ _) | (with_reducible refine Below.drew ?_) | (with_reducible refine below_drewN ?_ _) | (with_reducible refine Below.trans ?_ (Below.mono (by assumption) ?_)) | (first | exact Nat.le_refl _ | omega | (simp; done) | (simp; omega))))
  have HO_14 := Lib.hid (HO_13.out.after B14)
  clear HO_13
  have A14 : Below w.heap.size w w14 := A13.trans (B14.mono A13.size)
  clear A13 hb14 B14
  go_wp2_with fail
  refine (hole_any _).mono ?_
  rintro _ w15 ⟨rfl, hb15⟩
  have s15 := hb15.size; try simp only [World.size_alloc, World.size_setCell, World.size_drew, setRow_size] at s15
  have B15 : Below w14.heap.size w14 w15 := by (repeat' (first | (with_reducible exact Below.refl _ _) | (with_reducible assumption) | (with_reducible refine Below.alloc ?_ ?_ _) | (with_reducible refine Below.setCell ?_ ?_ _) | (with_reducible refine below_row ?_ ?_ _) | (with_reducible refine Below.drew ?_) | (with_reducible refine below_drewN ?_ _) | (with_reducible refine Below.trans ?_ (Below.mono (by assumption) ?_)) | (first | exact Nat.le_refl _ | omega | (simp; done) | (simp; omega))))
  have HO_15 := Lib.hid (HO_14.out.after B15)
  clear HO_14
  have A15 : Below w.heap.size w w15 := A14.trans (B15.mono A14.size)
  clear A14 hb15 B15
  go_wp2_with fail
  refine (KW2.out _ (A15.trans (Below.mono (by (repeat' (first | (with_reducible exact Below.refl _ _) | (with_reducible assumption) | (with_reducible refine Below.alloc ?_ ?_ _) | (with_reducible refine Below.setCell ?_ ?_ _) | (with_reducible refine below_row ?_ ?_ _) | (with_reducible refine Below.drew ?_) | (with_reducible refine below_drewN ?_ _) | (with_reducible refine Below.trans ?_ (Below.mono (by assumption) ?_)) | (first | exact Nat.le_refl _ | omega | (simp; done) | (simp; omega))))) A15.size))).mono ?_
  rintro _ w16 ⟨rfl, hb16⟩
  have s16 := hb16.size; try simp only [World.size_alloc, World.size_setCell, World.size_drew, setRow_size] at s16
  have B16 : Below w15.heap.size w15 w16 := by (repeat' (first | (with_reducible exact Below.refl _ _) | (with_reducible assumption) | (with_reducible refine Below.alloc ?_ ?_ _) | (with_reducible refine Below.setCell ?_ ?_ _) | (with_reducible refine below_row ?_ ?_ _) | (with_reducible refine Below.drew ?_) | (with_reducible refine below_drewN ?_ _) | (with_reducible refine Below.trans ?_ (Below.mono (by assumption) ?_)) | (first | exact Nat.le_refl _ | omega | (simp; done) | (simp; omega))))
  have HO_16 := Lib.hid (HO_15.out.after B16)
  clear HO_15
  have A16 : Below w.heap.size w w16 := A15.trans (B16.mono A15.size)
  clear A15 hb16 B16
  go_wp2_with fail
  refine (KD.out _ (A16.trans (Below.mono (by (repeat' (first | (with_reducible exact Below.refl _ _) | (with_reducible assumption) | (with_reducible refine Below.alloc ?_ ?_ _) | (with_reducible refine Below.setCell ?_ ?_ _) | (with_reducible refine below_row ?_ ?_ _) | (with_reducible refine Below.drew ?_) | (with_reducible refine below_drewN ?_ _) | (with_reducible refine Below.trans ?_ (Below.mono (by assumption) ?_)) | (first | exact Nat.le_refl _ | omega | (simp; done) | (simp; omega))))) A16.size))).mono ?_
  rintro _ w17 ⟨rfl, hb17⟩
  have s17 := hb17.size; try simp only [World.size_alloc, World.size_setCell, World.size_drew, setRow_size] at s17
  have B17 : Below w16.heap.size w16 w17 := by (repeat' (first | (with_reducible exact Below.refl _ _) | (with_reducible assumption) | (with_reducible refine Below.alloc ?_ ?_ _) | (with_reducible refine Below.setCell ?_ ?_ _) | (with_reducible refine below_row ?_ ?_ _) | (with_reducible refine Below.drew ?_) | (with_reducible refine below_drewN ?_ _) | (with_reducible refine Below.trans ?_ (Below.mono (by assumption) ?_)) | (first | exact Nat.le_refl _ | omega | (simp; done) | (simp; omega))))
  have HO_17 := Lib.hid (HO_16.out.after B17)
  clear HO_16
  have A17 : Below w.heap.size w w17 := A16.trans (B17.mono A16.size)
  clear A16 hb17 B17
  go_wp2_with fail
  refine (dim_any _ _ _ _).mono ?_
  rintro _ w18 ⟨rfl, hb18⟩
  have s18 := hb18.size; try simp only [World.size_alloc, World.size_setCell, World.size_drew, setRow_size] at s18
  have B18 : Below w17.heap.size w17 w18 := by (repeat' (first | (with_reducible exact Below.refl _ _) | (with_reducible assumption) | (with_reducible refine Below.alloc ?_ ?_ _) | (with_reducible refine Below.setCell ?_ ?_ _) | (with_reducible refine below_row ?_ ?_ _) | (with_reducible refine Below.drew ?_) | (with_reducible refine below_drewN ?_ _) | (with_reducible refine Below.trans ?_ (Below.mono (by assumption) ?_)) | (first | exact Nat.le_refl _ | omega | (simp; done) | (simp; omega))))
  have HO_18 := Lib.hid (HO_17.out.after B18)
  clear HO_17
  have A18 : Below w.heap.size w w18 := A17.trans (B18.mono A17.size)
  clear A17 hb18 B18
  go_wp2_with fail
  refine (KC.out _).mono ?_
  rintro _ w19 ⟨rfl, hb19⟩
  have s19 := hb19.size; try simp only [World.size_alloc, World.size_setCell, World.size_drew, setRow_size] at s19
  have B19 : Below w18.heap.size w18 w19 := by (repeat' (first | (with_reducible exact Below.refl _ _) | (with_reducible assumption) | (with_reducible refine Below.alloc ?_ ?_ _) | (with_reducible refine Below.setCell ?_ ?_ _) | (with_reducible refine below_row ?_ ?_ _) | (with_reducible refine Below.drew ?_) | (with_reducible refine below_drewN ?_ _) | (with_reducible refine Below.trans ?_ (Below.mono (by assumption) ?_)) | (first | exact Nat.le_refl _ | omega | (simp; done) | (simp; omega))))
  have HO_19 := Lib.hid (HO_18.out.after B19)
  clear HO_18
  have A19 : Below w.heap.size w w19 := A18.trans (B19.mono A18.size)
  clear A18 hb19 B19
  go_upto_region 14 with fail
  go_cut [16] from 120 to 125 (fun s16 wx => s16 = .int .i64 4 ∧ Below w19.heap.size w19 wx)
  case first =>
    go_region_with (first | (go_at_call 18; (with_reducible refine (hole_any _).mono ?_); rintro _ wy ⟨rfl, hby⟩; (try (refine (fun (L1 : Lies wy (w19.heap.size + 1) 28 #[.int .i64 0, .int .i64 0, .int .i64 0]) => ?_) (Lies.after ?_ hby); rotate_left; (focus first | (refine Lies.new ?_; simp; done) | (refine Lies.drew (Lies.new ?_); simp; done) | (refine Lies.alloc (Lies.new ?_) _; simp; done) | (refine Lies.drew (Lies.alloc (Lies.new ?_) _); simp; done)))); (try (refine (fun (L2 : Lies wy (w19.heap.size + 1 + 1) 28 #[.int .i64 0, .int .i64 0, .int .i64 0]) => ?_) (Lies.after ?_ hby); rotate_left; (focus first | (refine Lies.new ?_; simp; done) | (refine Lies.drew (Lies.new ?_); simp; done) | (refine Lies.alloc (Lies.new ?_) _; simp; done) | (refine Lies.drew (Lies.alloc (Lies.new ?_) _); simp; done)))); (try obtain ⟨p0, p1, p2, g0, g1, g2⟩ := L1.c3); (try obtain ⟨p0, p1, p2, g0, g1, g2⟩ := L2.c3)) | (go_at_call 23; (with_reducible refine (KM.out _ _ _).mono ?_); rintro _ wz ⟨rfl, hbz⟩; (try (refine (fun (M1 : Lies wz (w19.heap.size + 1) 28 #[.int .i64 0, .int .i64 0, .int .i64 0]) => ?_) (Lies.after ?_ hbz); rotate_left; focus first | exact L1 | exact L1.drew | exact L1.alloc _ | exact (L1.alloc _).drew | exact (L1.alloc _).alloc _ | exact ((L1.alloc _).alloc _).drew)); (try (refine (fun (M2 : Lies wz (w19.heap.size + 1 + 1) 28 #[.int .i64 0, .int .i64 0, .int .i64 0]) => ?_) (Lies.after ?_ hbz); rotate_left; focus first | exact L2 | exact L2.drew | exact L2.alloc _ | exact (L2.alloc _).drew | exact (L2.alloc _).alloc _ | exact ((L2.alloc _).alloc _).drew)); (try (refine (fun (M3 : Lies wz (wy.heap.size) 28 #[.int .i64 0, .int .i64 0, .int .i64 0]) => ?_) (Lies.after ?_ hbz); rotate_left; (focus first | (refine Lies.new ?_; simp; done) | (refine Lies.drew (Lies.new ?_); simp; done) | (refine Lies.alloc (Lies.new ?_) _; simp; done) | (refine Lies.drew (Lies.alloc (Lies.new ?_) _); simp; done)))); (try (refine (fun (M4 : Lies wz (wy.heap.size + 1) 28 #[.int .i64 0, .int .i64 0, .int .i64 0]) => ?_) (Lies.after ?_ hbz); rotate_left; (focus first | (refine Lies.new ?_; simp; done) | (refine Lies.drew (Lies.new ?_); simp; done) | (refine Lies.alloc (Lies.new ?_) _; simp; done) | (refine Lies.drew (Lies.alloc (Lies.new ?_) _); simp; done)))); (try obtain ⟨r0, r1, r2, f0, f1, f2⟩ := M1.c3); (try obtain ⟨r0, r1, r2, f0, f1, f2⟩ := M2.c3); (try obtain ⟨r0, r1, r2, f0, f1, f2⟩ := M3.c3); (try obtain ⟨r0, r1, r2, f0, f1, f2⟩ := M4.c3)))
    all_goals (go_wp2_with fail; go_meet; have sy := hby.size; have sz := hbz.size; (try simp only [World.size_alloc, World.size_setCell, World.size_drew, setRow_size] at sy); (try simp only [World.size_alloc, World.size_setCell, World.size_drew, setRow_size] at sz); exact ⟨rfl, by (repeat' (first | (with_reducible exact Below.refl _ _) | (with_reducible assumption) | (with_reducible refine Below.alloc ?_ ?_ _) | (with_reducible refine Below.setCell ?_ ?_ _) | (with_reducible refine below_row ?_ ?_ _) | (with_reducible refine Below.drew ?_) | (with_reducible refine below_drewN ?_ _) | (with_reducible refine Below.trans ?_ (Below.mono (by assumption) ?_)) | (first | exact Nat.le_refl _ | omega | (simp; done) | (simp; omega))))⟩)
  case rest =>
    obtain ⟨rfl, hbc⟩ := hcut
    have HO_20 := Lib.hid (HO_19.out.after hbc)
    have A20 : Below w.heap.size w wc := A19.trans (hbc.mono A19.size)
    clear hbc HO_19 A19
    obtain ⟨w20, rfl⟩ : ∃ w20 : World, w20 = wc := ⟨_, rfl⟩
    go_wp2_with fail
    refine (hole_any _).mono ?_
    rintro _ w21 ⟨rfl, hb21⟩
    have s21 := hb21.size; try simp only [World.size_alloc, World.size_setCell, World.size_drew, setRow_size] at s21
    have B21 : Below w20.heap.size w20 w21 := by (repeat' (first | (with_reducible exact Below.refl _ _) | (with_reducible assumption) | (with_reducible refine Below.alloc ?_ ?_ _) | (with_reducible refine Below.setCell ?_ ?_ _) | (with_reducible refine below_row ?_ ?_ _) | (with_reducible refine Below.drew ?_) | (with_reducible refine below_drewN ?_ _) | (with_reducible refine Below.trans ?_ (Below.mono (by assumption) ?_)) | (first | exact Nat.le_refl _ | omega | (simp; done) | (simp; omega))))
    have HO_21 := Lib.hid (HO_20.out.after B21)
    clear HO_20
    have A21 : Below w.heap.size w w21 := A20.trans (B21.mono A20.size)
    clear A20 hb21 B21
    go_wp2_with fail
    refine (KR.out _ _ (Lies.new rfl)).mono ?_
    rintro _ w22 ⟨rfl, hb22⟩
    have s22 := hb22.size; try simp only [World.size_alloc, World.size_setCell, World.size_drew, setRow_size] at s22
    have B22 : Below w21.heap.size w21 w22 := by (repeat' (first | (with_reducible exact Below.refl _ _) | (with_reducible assumption) | (with_reducible refine Below.alloc ?_ ?_ _) | (with_reducible refine Below.setCell ?_ ?_ _) | (with_reducible refine below_row ?_ ?_ _) | (with_reducible refine Below.drew ?_) | (with_reducible refine below_drewN ?_ _) | (with_reducible refine Below.trans ?_ (Below.mono (by assumption) ?_)) | (first | exact Nat.le_refl _ | omega | (simp; done) | (simp; omega))))
    have HO_22 := Lib.hid (HO_21.out.after B22)
    clear HO_21
    have A22 : Below w.heap.size w w22 := A21.trans (B22.mono A21.size)
    clear A21 hb22 B22
    go_wp2_with fail
    refine (hole_any _).mono ?_
    rintro _ w23 ⟨rfl, hb23⟩
    have s23 := hb23.size; try simp only [World.size_alloc, World.size_setCell, World.size_drew, setRow_size] at s23
    have B23 : Below w22.heap.size w22 w23 := by (repeat' (first | (with_reducible exact Below.refl _ _) | (with_reducible assumption) | (with_reducible refine Below.alloc ?_ ?_ _) | (with_reducible refine Below.setCell ?_ ?_ _) | (with_reducible refine below_row ?_ ?_ _) | (with_reducible refine Below.drew ?_) | (with_reducible refine below_drewN ?_ _) | (with_reducible refine Below.trans ?_ (Below.mono (by assumption) ?_)) | (first | exact Nat.le_refl _ | omega | (simp; done) | (simp; omega))))
    have HO_23 := Lib.hid (HO_22.out.after B23)
    clear HO_22
    have A23 : Below w.heap.size w w23 := A22.trans (B23.mono A22.size)
    clear A22 hb23 B23
    go_wp2_with fail
    refine (KL.out _).mono ?_
    rintro _ w24 ⟨rfl, hb24⟩
    have s24 := hb24.size; try simp only [World.size_alloc, World.size_setCell, World.size_drew, setRow_size] at s24
    have B24 : Below w23.heap.size w23 w24 := by (repeat' (first | (with_reducible exact Below.refl _ _) | (with_reducible assumption) | (with_reducible refine Below.alloc ?_ ?_ _) | (with_reducible refine Below.setCell ?_ ?_ _) | (with_reducible refine below_row ?_ ?_ _) | (with_reducible refine Below.drew ?_) | (with_reducible refine below_drewN ?_ _) | (with_reducible refine Below.trans ?_ (Below.mono (by assumption) ?_)) | (first | exact Nat.le_refl _ | omega | (simp; done) | (simp; omega))))
    have HO_24 := Lib.hid (HO_23.out.after B24)
    clear HO_23
    have A24 : Below w.heap.size w w24 := A23.trans (B24.mono A23.size)
    clear A23 hb24 B24
    go_wp2_with fail
    have rO0 := HO_24.out.cell 0
    have rO1 := HO_24.out.cell 1
    have rO2 := HO_24.out.cell 2
    have yO := HO_24.out.lt
    go_region_held3 (fun W => W.cell? ⟨w11.heap.size, 0, none⟩ = some (.int .i64 0) ∧ W.cell? ⟨w11.heap.size, 1, none⟩ = some (.int .i64 1) ∧ W.cell? ⟨w11.heap.size, 2, none⟩ = some (.int .i64 0)) (go_keep)
        (first | (go_at_call 18; (with_reducible refine (hole_any _).mono ?_); rintro e w25 ⟨rfl, hb2⟩; have hq : Below w24.heap.size w24 w25 := Below.trans (by (repeat' (first | (with_reducible exact Below.refl _ _) | (with_reducible assumption) | (with_reducible refine Below.alloc ?_ ?_ _) | (with_reducible refine Below.setCell ?_ ?_ _) | (with_reducible refine below_row ?_ ?_ _) | (with_reducible refine Below.drew ?_) | (with_reducible refine below_drewN ?_ _) | (with_reducible refine Below.trans ?_ (Below.mono (by assumption) ?_)) | (first | exact Nat.le_refl _ | omega | (simp; done) | (simp; omega))))) (hb2.mono (Below.size (B := w24.heap.size) (by (repeat' (first | (with_reducible exact Below.refl _ _) | (with_reducible assumption) | (with_reducible refine Below.alloc ?_ ?_ _) | (with_reducible refine Below.setCell ?_ ?_ _) | (with_reducible refine below_row ?_ ?_ _) | (with_reducible refine Below.drew ?_) | (with_reducible refine below_drewN ?_ _) | (with_reducible refine Below.trans ?_ (Below.mono (by assumption) ?_)) | (first | exact Nat.le_refl _ | omega | (simp; done) | (simp; omega))))))); have s25 := hq.size; have LO := HO_24.out.after hq; have cO0 := LO.cell 0; have cO1 := LO.cell 1; have cO2 := LO.cell 2; clear LO) | (go_at_call 25; (with_reducible refine (KI.out _).mono ?_); rintro e w25 ⟨rfl, hb2⟩; have hq : Below w24.heap.size w24 w25 := Below.trans (by (repeat' (first | (with_reducible exact Below.refl _ _) | (with_reducible assumption) | (with_reducible refine Below.alloc ?_ ?_ _) | (with_reducible refine Below.setCell ?_ ?_ _) | (with_reducible refine below_row ?_ ?_ _) | (with_reducible refine Below.drew ?_) | (with_reducible refine below_drewN ?_ _) | (with_reducible refine Below.trans ?_ (Below.mono (by assumption) ?_)) | (first | exact Nat.le_refl _ | omega | (simp; done) | (simp; omega))))) (hb2.mono (Below.size (B := w24.heap.size) (by (repeat' (first | (with_reducible exact Below.refl _ _) | (with_reducible assumption) | (with_reducible refine Below.alloc ?_ ?_ _) | (with_reducible refine Below.setCell ?_ ?_ _) | (with_reducible refine below_row ?_ ?_ _) | (with_reducible refine Below.drew ?_) | (with_reducible refine below_drewN ?_ _) | (with_reducible refine Below.trans ?_ (Below.mono (by assumption) ?_)) | (first | exact Nat.le_refl _ | omega | (simp; done) | (simp; omega))))))); have s25 := hq.size; have LO := HO_24.out.after hq; have cO0 := LO.cell 0; have cO1 := LO.cell 1; have cO2 := LO.cell 2; clear LO))
    have A25 : Below w.heap.size w w25 := A24.trans (hq.mono A24.size)
    have HO_25 := Lib.hid (HO_24.out.after hq)
    clear HO_24 A24 rO0 rO1 rO2 yO cO0 cO1 cO2
    clear hq hb2
    go_wp2_with fail
    refine (hole_any _).mono ?_
    rintro _ w26 ⟨rfl, hb26⟩
    have s26 := hb26.size; try simp only [World.size_alloc, World.size_setCell, World.size_drew, setRow_size] at s26
    have B26 : Below w25.heap.size w25 w26 := by (repeat' (first | (with_reducible exact Below.refl _ _) | (with_reducible assumption) | (with_reducible refine Below.alloc ?_ ?_ _) | (with_reducible refine Below.setCell ?_ ?_ _) | (with_reducible refine below_row ?_ ?_ _) | (with_reducible refine Below.drew ?_) | (with_reducible refine below_drewN ?_ _) | (with_reducible refine Below.trans ?_ (Below.mono (by assumption) ?_)) | (first | exact Nat.le_refl _ | omega | (simp; done) | (simp; omega))))
    have HO_26 := Lib.hid (HO_25.out.after B26)
    clear HO_25
    have A26 : Below w.heap.size w w26 := A25.trans (B26.mono A25.size)
    clear A25 hb26 B26
    go_wp2_with fail
    refine (KO1.out _).mono ?_
    rintro _ w27 ⟨rfl, hb27⟩
    have s27 := hb27.size; try simp only [World.size_alloc, World.size_setCell, World.size_drew, setRow_size] at s27
    have B27 : Below w26.heap.size w26 w27 := by (repeat' (first | (with_reducible exact Below.refl _ _) | (with_reducible assumption) | (with_reducible refine Below.alloc ?_ ?_ _) | (with_reducible refine Below.setCell ?_ ?_ _) | (with_reducible refine below_row ?_ ?_ _) | (with_reducible refine Below.drew ?_) | (with_reducible refine below_drewN ?_ _) | (with_reducible refine Below.trans ?_ (Below.mono (by assumption) ?_)) | (first | exact Nat.le_refl _ | omega | (simp; done) | (simp; omega))))
    have HO_27 := Lib.hid (HO_26.out.after B27)
    clear HO_26
    have A27 : Below w.heap.size w w27 := A26.trans (B27.mono A26.size)
    clear A26 hb27 B27
    go_wp2_with fail
    refine (hole_any _).mono ?_
    rintro _ w28 ⟨rfl, hb28⟩
    have s28 := hb28.size; try simp only [World.size_alloc, World.size_setCell, World.size_drew, setRow_size] at s28
    have B28 : Below w27.heap.size w27 w28 := by (repeat' (first | (with_reducible exact Below.refl _ _) | (with_reducible assumption) | (with_reducible refine Below.alloc ?_ ?_ _) | (with_reducible refine Below.setCell ?_ ?_ _) | (with_reducible refine below_row ?_ ?_ _) | (with_reducible refine Below.drew ?_) | (with_reducible refine below_drewN ?_ _) | (with_reducible refine Below.trans ?_ (Below.mono (by assumption) ?_)) | (first | exact Nat.le_refl _ | omega | (simp; done) | (simp; omega))))
    have HO_28 := Lib.hid (HO_27.out.after B28)
    clear HO_27
    have A28 : Below w.heap.size w w28 := A27.trans (B28.mono A27.size)
    clear A27 hb28 B28
    go_wp2_with fail
    refine (KO2.out _).mono ?_
    rintro _ w29 ⟨rfl, hb29⟩
    have s29 := hb29.size; try simp only [World.size_alloc, World.size_setCell, World.size_drew, setRow_size] at s29
    have B29 : Below w28.heap.size w28 w29 := by (repeat' (first | (with_reducible exact Below.refl _ _) | (with_reducible assumption) | (with_reducible refine Below.alloc ?_ ?_ _) | (with_reducible refine Below.setCell ?_ ?_ _) | (with_reducible refine below_row ?_ ?_ _) | (with_reducible refine Below.drew ?_) | (with_reducible refine below_drewN ?_ _) | (with_reducible refine Below.trans ?_ (Below.mono (by assumption) ?_)) | (first | exact Nat.le_refl _ | omega | (simp; done) | (simp; omega))))
    have HO_29 := Lib.hid (HO_28.out.after B29)
    clear HO_28
    have A29 : Below w.heap.size w w29 := A28.trans (B29.mono A28.size)
    clear A28 hb29 B29
    go_wp2_with fail
    refine (KS1.out _).mono ?_
    rintro _ w30 ⟨rfl, hb30⟩
    have s30 := hb30.size; try simp only [World.size_alloc, World.size_setCell, World.size_drew, setRow_size] at s30
    have B30 : Below w29.heap.size w29 w30 := by (repeat' (first | (with_reducible exact Below.refl _ _) | (with_reducible assumption) | (with_reducible refine Below.alloc ?_ ?_ _) | (with_reducible refine Below.setCell ?_ ?_ _) | (with_reducible refine below_row ?_ ?_ _) | (with_reducible refine Below.drew ?_) | (with_reducible refine below_drewN ?_ _) | (with_reducible refine Below.trans ?_ (Below.mono (by assumption) ?_)) | (first | exact Nat.le_refl _ | omega | (simp; done) | (simp; omega))))
    have HO_30 := Lib.hid (HO_29.out.after B30)
    clear HO_29
    have A30 : Below w.heap.size w w30 := A29.trans (B30.mono A29.size)
    clear A29 hb30 B30
    go_wp2_with fail
    refine (hole_any _).mono ?_
    rintro _ w31 ⟨rfl, hb31⟩
    have s31 := hb31.size; try simp only [World.size_alloc, World.size_setCell, World.size_drew, setRow_size] at s31
    have B31 : Below w30.heap.size w30 w31 := by (repeat' (first | (with_reducible exact Below.refl _ _) | (with_reducible assumption) | (with_reducible refine Below.alloc ?_ ?_ _) | (with_reducible refine Below.setCell ?_ ?_ _) | (with_reducible refine below_row ?_ ?_ _) | (with_reducible refine Below.drew ?_) | (with_reducible refine below_drewN ?_ _) | (with_reducible refine Below.trans ?_ (Below.mono (by assumption) ?_)) | (first | exact Nat.le_refl _ | omega | (simp; done) | (simp; omega))))
    have HO_31 := Lib.hid (HO_30.out.after B31)
    clear HO_30
    have A31 : Below w.heap.size w w31 := A30.trans (B31.mono A30.size)
    clear A30 hb31 B31
    go_wp2_with fail
    refine (shaft_any _).mono ?_
    rintro _ w32 ⟨rfl, hb32⟩
    have s32 := hb32.size; try simp only [World.size_alloc, World.size_setCell, World.size_drew, setRow_size] at s32
    have B32 : Below w31.heap.size w31 w32 := by (repeat' (first | (with_reducible exact Below.refl _ _) | (with_reducible assumption) | (with_reducible refine Below.alloc ?_ ?_ _) | (with_reducible refine Below.setCell ?_ ?_ _) | (with_reducible refine below_row ?_ ?_ _) | (with_reducible refine Below.drew ?_) | (with_reducible refine below_drewN ?_ _) | (with_reducible refine Below.trans ?_ (Below.mono (by assumption) ?_)) | (first | exact Nat.le_refl _ | omega | (simp; done) | (simp; omega))))
    have HO_32 := Lib.hid (HO_31.out.after B32)
    clear HO_31
    have A32 : Below w.heap.size w w32 := A31.trans (B32.mono A31.size)
    clear A31 hb32 B32
    go_wp2_with fail
    refine (KT.out _ _ (Lies.new rfl)).mono ?_
    rintro _ w33 ⟨rfl, hb33⟩
    have s33 := hb33.size; try simp only [World.size_alloc, World.size_setCell, World.size_drew, setRow_size] at s33
    have B33 : Below w32.heap.size w32 w33 := by (repeat' (first | (with_reducible exact Below.refl _ _) | (with_reducible assumption) | (with_reducible refine Below.alloc ?_ ?_ _) | (with_reducible refine Below.setCell ?_ ?_ _) | (with_reducible refine below_row ?_ ?_ _) | (with_reducible refine Below.drew ?_) | (with_reducible refine below_drewN ?_ _) | (with_reducible refine Below.trans ?_ (Below.mono (by assumption) ?_)) | (first | exact Nat.le_refl _ | omega | (simp; done) | (simp; omega))))
    have HO_33 := Lib.hid (HO_32.out.after B33)
    clear HO_32
    have A33 : Below w.heap.size w w33 := A32.trans (B33.mono A32.size)
    clear A32 hb33 B33
    go_wp2_with fail
    refine (KN.out _ _ _).mono ?_
    rintro _ w34 ⟨rfl, hb34⟩
    have s34 := hb34.size; try simp only [World.size_alloc, World.size_setCell, World.size_drew, setRow_size] at s34
    have B34 : Below w33.heap.size w33 w34 := by (repeat' (first | (with_reducible exact Below.refl _ _) | (with_reducible assumption) | (with_reducible refine Below.alloc ?_ ?_ _) | (with_reducible refine Below.setCell ?_ ?_ _) | (with_reducible refine below_row ?_ ?_ _) | (with_reducible refine Below.drew ?_) | (with_reducible refine below_drewN ?_ _) | (with_reducible refine Below.trans ?_ (Below.mono (by assumption) ?_)) | (first | exact Nat.le_refl _ | omega | (simp; done) | (simp; omega))))
    have HO_34 := Lib.hid (HO_33.out.after B34)
    clear HO_33
    have A34 : Below w.heap.size w w34 := A33.trans (B34.mono A33.size)
    clear A33 hb34 B34
    go_wp2_with fail
    refine (KT4.out _ _ _).mono ?_
    rintro _ w35 ⟨rfl, hb35⟩
    have s35 := hb35.size; try simp only [World.size_alloc, World.size_setCell, World.size_drew, setRow_size] at s35
    have B35 : Below w34.heap.size w34 w35 := by (repeat' (first | (with_reducible exact Below.refl _ _) | (with_reducible assumption) | (with_reducible refine Below.alloc ?_ ?_ _) | (with_reducible refine Below.setCell ?_ ?_ _) | (with_reducible refine below_row ?_ ?_ _) | (with_reducible refine Below.drew ?_) | (with_reducible refine below_drewN ?_ _) | (with_reducible refine Below.trans ?_ (Below.mono (by assumption) ?_)) | (first | exact Nat.le_refl _ | omega | (simp; done) | (simp; omega))))
    have HO_35 := Lib.hid (HO_34.out.after B35)
    clear HO_34
    have A35 : Below w.heap.size w w35 := A34.trans (B35.mono A34.size)
    clear A34 hb35 B35
    go_wp2_with fail
    refine (KS2.out _).mono ?_
    rintro _ w36 ⟨rfl, hb36⟩
    have s36 := hb36.size; try simp only [World.size_alloc, World.size_setCell, World.size_drew, setRow_size] at s36
    have B36 : Below w35.heap.size w35 w36 := by (repeat' (first | (with_reducible exact Below.refl _ _) | (with_reducible assumption) | (with_reducible refine Below.alloc ?_ ?_ _) | (with_reducible refine Below.setCell ?_ ?_ _) | (with_reducible refine below_row ?_ ?_ _) | (with_reducible refine Below.drew ?_) | (with_reducible refine below_drewN ?_ _) | (with_reducible refine Below.trans ?_ (Below.mono (by assumption) ?_)) | (first | exact Nat.le_refl _ | omega | (simp; done) | (simp; omega))))
    have HO_36 := Lib.hid (HO_35.out.after B36)
    clear HO_35
    have A36 : Below w.heap.size w w36 := A35.trans (B36.mono A35.size)
    clear A35 hb36 B36
    go_wp2
    go_ret
    have sA := A36.size
    exact ⟨rfl, by (repeat' (first | (with_reducible exact Below.refl _ _) | (with_reducible assumption) | (with_reducible refine Below.alloc ?_ ?_ _) | (with_reducible refine Below.setCell ?_ ?_ _) | (with_reducible refine below_row ?_ ?_ _) | (with_reducible refine Below.drew ?_) | (with_reducible refine below_drewN ?_ _) | (with_reducible refine Below.trans ?_ (Below.mono (by assumption) ?_)) | (first | exact Nat.le_refl _ | omega | (simp; done) | (simp; omega))))⟩
end Go.Proofs.YtldjkdomklgmaaaDoor
