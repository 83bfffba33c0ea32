/- The examples, of which each law asks first. -/
import Derived.Test.YtldjkdomklgmaaaDoorV1
import Derived.Test.YtldjkdomklgmaaaDoorV2
import Derived.Test.YtldjkdomklgmaaaDoorS1
import Derived.Test.YtldjkdomklgmaaaDoorT4
import Derived.Test.YtldjkdomklgmaaaDoorT5
import Derived.Test.YtldjkdomklgmaaaDoorU3
namespace Go.Proofs.YtldjkdomklgmaaaDoor
set_option linter.unusedVariables false
set_option linter.unusedSimpArgs false
open Go.RowKit

theorem x_conv : convS 2 2000000 2000000 2002100 = ((1999996, 2000250, 2002028), 0) := by decide +kernel
theorem x_write1 : writeS 2 1999996 2000250 2002028 = ([48, 46, 55, 56, 55, 52, 32, 43, 48, 46, 48, 48, 48, 49, 32, 43, 48, 46, 48, 48, 48, 56, 32, 105, 110], 0) := by decide +kernel
theorem x_lost : lostS 2 2000000 2000000 2002100 = (250, 72, 0) := by decide +kernel
theorem x_redraw : redrawS [2, 1] 2000000 2000000 2002100 = ((2000000, 2000300, 2002000), 0) := by decide +kernel
theorem x_write2 : writeS 1 2000000 2000300 2002000 = ([50, 48, 46, 48, 48, 48, 32, 43, 48, 46, 48, 48, 51, 32, 43, 48, 46, 48, 50, 48, 32, 109, 109], 0) := by decide +kernel
theorem x_exact : exactR 2000000 2000000 2002100 = (1, 0) := by decide +kernel
theorem x_bad : bad2 2000000 2000000 2002100 2000000 2001500 2002800 = false := by decide +kernel
theorem x_fit : fitS 2000000 2002100 2001500 2002800 false = ((-2800, 600), 3, 0) := by decide +kernel
theorem x_room : roomS 2000000 2000000 2002100 700 4100 = ((2000000, 1998000, 1999300), 0) := by decide +kernel
theorem x_meet : meetR [(2000000, 2000000, 2002100), (2000000, 2001500, 2002800)] = ((2001500, 2002100), 0) := by decide +kernel
theorem x_read : readS ⟨#[50, 48, 46, 48, 48, 48, 32, 45, 48, 46, 48, 50, 48, 32, 45, 48, 46, 48, 48, 55, 32, 109, 109]⟩ = some ((2000000, 1998000, 1999300), 1) := by decide +kernel
theorem x_bad2 : bad2 1999996 2000250 2002028 2000000 2000000 2002100 = false := by decide +kernel
theorem x_in : insS 2000250 2002028 2000000 2002100 false = true := by decide +kernel
theorem x_share : shareS 1 2000000 700 4100 = ((2000000, 2000000, 2001700), (2000000, 1997600, 1999300), 0) := by decide +kernel

set_option maxHeartbeats 8000000 in
set_option maxRecDepth 100000 in
theorem alive_any (w : World) (he : Env w) : Calls Tryd.prog 14 #[] w fun e w' => e = .returned (.bool true) ∧ Below w.heap.size w w' := by
  have HE := Lib.hid (fun W (hW : Below w.heap.size w W) => he.after hW)
  clear he
  have KC : Hid (∀ W, Calls Tryd.prog 22 #[.agg #[.int .i64 2000000, .int .i64 2000000, .int .i64 2002100], .int .u8 2] W fun e w' => e = .returned (.tuple #[.agg #[.int .i64 1999996, .int .i64 2000250, .int .i64 2002028], .int .i64 0]) ∧ Below W.heap.size W w') := Lib.hid (fun W => by have h := Convert_any 2 2000000 2000000 2002100 W; rw [x_conv] at h; exact h)
  have KW1 : Hid (∀ W, Below w.heap.size w W → Calls Tryd.prog 20 #[.agg #[.int .i64 1999996, .int .i64 2000250, .int .i64 2002028], .int .u8 2] W fun e w' => e = .returned (.tuple #[.string ⟨#[48, 46, 55, 56, 55, 52, 32, 43, 48, 46, 48, 48, 48, 49, 32, 43, 48, 46, 48, 48, 48, 56, 32, 105, 110]⟩, .int .i64 0]) ∧ Below W.heap.size W w') := Lib.hid (fun W hW => by have h := Write_any 2 1999996 2000250 2002028 W (HE.out W hW); rw [x_write1] at h; exact h)
  have KL : Hid (∀ W, Calls Tryd.prog 24 #[.agg #[.int .i64 2000000, .int .i64 2000000, .int .i64 2002100], .int .u8 2] W fun e w' => e = .returned (.tuple #[.int .i64 250, .int .i64 72, .int .i64 0]) ∧ Below W.heap.size W w') := Lib.hid (fun W => by have h := Lost_any 2 2000000 2000000 2002100 W; rw [x_lost] at h; exact h)
  have KR : Hid (∀ g W, Lies W g 5 #[.int .u8 2, .int .u8 1] → Calls Tryd.prog 23 #[.agg #[.int .i64 2000000, .int .i64 2000000, .int .i64 2002100], .slice (some ⟨g, 0, none⟩) 2 2] W fun e w' => e = .returned (.tuple #[.agg #[.int .i64 2000000, .int .i64 2000300, .int .i64 2002000], .int .i64 0]) ∧ Below W.heap.size W w') := Lib.hid (fun g W hL => by
    have h := Redraw_any (some ⟨g, 0, none⟩) g 0 [2, 1] 2 2000000 2000000 2002100 W (fun _ => rfl) (fun i hi => by
      match i, hi with
      | 0, _ => exact hL.cell 0
      | 1, _ => exact hL.cell 1)
    rw [x_redraw] at h; exact h)
  have KW2 : Hid (∀ W, Below w.heap.size w W → Calls Tryd.prog 20 #[.agg #[.int .i64 2000000, .int .i64 2000300, .int .i64 2002000], .int .u8 1] W fun e w' => e = .returned (.tuple #[.string ⟨#[50, 48, 46, 48, 48, 48, 32, 43, 48, 46, 48, 48, 51, 32, 43, 48, 46, 48, 50, 48, 32, 109, 109]⟩, .int .i64 0]) ∧ Below W.heap.size W w') := Lib.hid (fun W hW => by have h := Write_any 1 2000000 2000300 2002000 W (HE.out W hW); rw [x_write2] at h; exact h)
  have KE : Hid (∀ W, Calls Tryd.prog 15 #[.agg #[.int .i64 2000000, .int .i64 2000000, .int .i64 2002100]] W fun e w' => e = .returned (.tuple #[.int .u8 1, .int .i64 0]) ∧ Below W.heap.size W w') := Lib.hid (fun W => by have h := Exact_any 2000000 2000000 2002100 W; rw [x_exact] at h; exact h)
  have KF : Hid (∀ W, Calls Tryd.prog 17 #[.agg #[.int .i64 2000000, .int .i64 2000000, .int .i64 2002100], .agg #[.int .i64 2000000, .int .i64 2001500, .int .i64 2002800]] W fun e w' => e = .returned (.tuple #[.agg #[.int .i64 (-2800), .int .i64 600], .int .u8 3, .int .i64 0]) ∧ Below W.heap.size W w') := Lib.hid (fun W => by have h := Fit_any 2000000 2000000 2002100 2000000 2001500 2002800 W; rw [x_bad, x_fit] at h; exact h)
  have KO : Hid (∀ W, Calls Tryd.prog 26 #[.agg #[.int .i64 2000000, .int .i64 2000000, .int .i64 2002100], .agg #[.int .i64 700, .int .i64 4100]] W fun e w' => e = .returned (.tuple #[.agg #[.int .i64 2000000, .int .i64 1998000, .int .i64 1999300], .int .i64 0]) ∧ Below W.heap.size W w') := Lib.hid (fun W => by have h := Room_any 2000000 2000000 2002100 700 4100 W; rw [x_room] at h; exact h)
  have KM : Hid (∀ g W, Lies W g 28 #[.int .i64 2000000, .int .i64 2000000, .int .i64 2002100, .int .i64 2000000, .int .i64 2001500, .int .i64 2002800] → Calls Tryd.prog 28 #[.slice (some ⟨g, 0, none⟩) 2 2] W fun e w' => e = .returned (.tuple #[.agg #[.int .i64 2001500, .int .i64 2002100], .int .i64 0]) ∧ Below W.heap.size W w') := Lib.hid (fun g W hL => by
    have h := Meet_any (some ⟨g, 0, none⟩) g 0 [(2000000, 2000000, 2002100), (2000000, 2001500, 2002800)] 2 W (fun _ => rfl) (fun i hi => by
      match i, hi with
      | 0, _ => exact ⟨hL.cell 0, hL.cell 1, hL.cell 2⟩
      | 1, _ => exact ⟨hL.cell 3, hL.cell 4, hL.cell 5⟩)
    rw [x_meet] at h; exact h)
  have KD : Hid (∀ W, Below w.heap.size w W → Calls Tryd.prog 21 #[.string ⟨#[50, 48, 46, 48, 48, 48, 32, 45, 48, 46, 48, 50, 48, 32, 45, 48, 46, 48, 48, 55, 32, 109, 109]⟩] W fun e w' => e = .returned (.tuple #[.agg #[.int .i64 2000000, .int .i64 1998000, .int .i64 1999300], .int .u8 1, .int .i64 0]) ∧ Below W.heap.size W w') := Lib.hid (fun W hW => by have h := Read_any ⟨#[50, 48, 46, 48, 48, 48, 32, 45, 48, 46, 48, 50, 48, 32, 45, 48, 46, 48, 48, 55, 32, 109, 109]⟩ W (HE.out W hW) (by decide); rw [x_read] at h; exact h)
  have KI : Hid (∀ W, Calls Tryd.prog 25 #[.agg #[.int .i64 1999996, .int .i64 2000250, .int .i64 2002028], .agg #[.int .i64 2000000, .int .i64 2000000, .int .i64 2002100]] W fun e w' => e = .returned (.tuple #[.bool true, .int .i64 0]) ∧ Below W.heap.size W w') := Lib.hid (fun W => by have h := Inside_any 1999996 2000250 2002028 2000000 2000000 2002100 W; rw [x_bad2, x_in] at h; exact h)
  have KS : Hid (∀ W, Calls Tryd.prog 27 #[.int .i64 2000000, .agg #[.int .i64 700, .int .i64 4100], .int .u8 1] W fun e w' => e = .returned (.tuple #[.agg #[.int .i64 2000000, .int .i64 2000000, .int .i64 2001700], .agg #[.int .i64 2000000, .int .i64 1997600, .int .i64 1999300], .int .i64 0]) ∧ Below W.heap.size W w') := Lib.hid (fun W => by have h := Share_any 1 2000000 700 4100 W; rw [x_share] at h; exact h)
  clear HE
  go_enter Tryd.func14, Tryd.ntmps14
  go_wp2_with fail
  refine (hole_any _).mono ?_
  rintro _ w1 ⟨rfl, hb1⟩
  have s1 := hb1.size; try simp only [World.size_alloc, World.size_setCell, World.size_drew, setRow_size] at s1
  have B1 : Below w.heap.size w w1 := by (repeat' (first | (with_reducible exact Below.refl _ _) | (with_reducible assumption) | (with_reducible refine Below.alloc ?_ ?_ _) | (with_reducible refine Below.setCell ?_ ?_ _) | (with_reducible refine below_row ?_ ?_ _) | (with_reducible refine Below.drew ?_) | (with_reducible refine below_drewN ?_ _) | (with_reducible refine Below.trans ?_ (Below.mono (by assumption) ?_)) | (first | exact Nat.le_refl _ | omega | (simp; done) | (simp; omega))))
  have A1 : Below w.heap.size w w1 := B1
  clear hb1 B1
  go_wp2_with fail
  refine (KC.out _).mono ?_
  rintro _ w2 ⟨rfl, hb2⟩
  have s2 := hb2.size; try simp only [World.size_alloc, World.size_setCell, World.size_drew, setRow_size] at s2
  have B2 : Below w1.heap.size w1 w2 := by (repeat' (first | (with_reducible exact Below.refl _ _) | (with_reducible assumption) | (with_reducible refine Below.alloc ?_ ?_ _) | (with_reducible refine Below.setCell ?_ ?_ _) | (with_reducible refine below_row ?_ ?_ _) | (with_reducible refine Below.drew ?_) | (with_reducible refine below_drewN ?_ _) | (with_reducible refine Below.trans ?_ (Below.mono (by assumption) ?_)) | (first | exact Nat.le_refl _ | omega | (simp; done) | (simp; omega))))
  have A2 : Below w.heap.size w w2 := A1.trans (B2.mono A1.size)
  clear A1 hb2 B2
  go_wp2_with fail
  refine (KW1.out _ (A2.trans (Below.mono (by (repeat' (first | (with_reducible exact Below.refl _ _) | (with_reducible assumption) | (with_reducible refine Below.alloc ?_ ?_ _) | (with_reducible refine Below.setCell ?_ ?_ _) | (with_reducible refine below_row ?_ ?_ _) | (with_reducible refine Below.drew ?_) | (with_reducible refine below_drewN ?_ _) | (with_reducible refine Below.trans ?_ (Below.mono (by assumption) ?_)) | (first | exact Nat.le_refl _ | omega | (simp; done) | (simp; omega))))) A2.size))).mono ?_
  rintro _ w3 ⟨rfl, hb3⟩
  have s3 := hb3.size; try simp only [World.size_alloc, World.size_setCell, World.size_drew, setRow_size] at s3
  have B3 : Below w2.heap.size w2 w3 := by (repeat' (first | (with_reducible exact Below.refl _ _) | (with_reducible assumption) | (with_reducible refine Below.alloc ?_ ?_ _) | (with_reducible refine Below.setCell ?_ ?_ _) | (with_reducible refine below_row ?_ ?_ _) | (with_reducible refine Below.drew ?_) | (with_reducible refine below_drewN ?_ _) | (with_reducible refine Below.trans ?_ (Below.mono (by assumption) ?_)) | (first | exact Nat.le_refl _ | omega | (simp; done) | (simp; omega))))
  have HA_3 := Lib.hid (show Lies w3 _ 28 #[.int .i64 1999996, .int .i64 2000250, .int .i64 2002028] from (by first | exact (Lies.made w2 28 #[.int .i64 1999996, .int .i64 2000250, .int .i64 2002028]).after hb3 | exact ((Lies.made w2 28 #[.int .i64 1999996, .int .i64 2000250, .int .i64 2002028]).alloc _).after hb3 | exact (((Lies.made w2 28 #[.int .i64 1999996, .int .i64 2000250, .int .i64 2002028]).alloc _).alloc _).after hb3))
  have A3 : Below w.heap.size w w3 := A2.trans (B3.mono A2.size)
  clear A2 hb3 B3
  go_wp2_with fail
  refine (hole_any _).mono ?_
  rintro _ w4 ⟨rfl, hb4⟩
  have s4 := hb4.size; try simp only [World.size_alloc, World.size_setCell, World.size_drew, setRow_size] at s4
  have B4 : Below w3.heap.size w3 w4 := by (repeat' (first | (with_reducible exact Below.refl _ _) | (with_reducible assumption) | (with_reducible refine Below.alloc ?_ ?_ _) | (with_reducible refine Below.setCell ?_ ?_ _) | (with_reducible refine below_row ?_ ?_ _) | (with_reducible refine Below.drew ?_) | (with_reducible refine below_drewN ?_ _) | (with_reducible refine Below.trans ?_ (Below.mono (by assumption) ?_)) | (first | exact Nat.le_refl _ | omega | (simp; done) | (simp; omega))))
  have HA_4 := Lib.hid (HA_3.out.after B4)
  clear HA_3
  have A4 : Below w.heap.size w w4 := A3.trans (B4.mono A3.size)
  clear A3 hb4 B4
  go_wp2_with fail
  refine (KL.out _).mono ?_
  rintro _ w5 ⟨rfl, hb5⟩
  have s5 := hb5.size; try simp only [World.size_alloc, World.size_setCell, World.size_drew, setRow_size] at s5
  have B5 : Below w4.heap.size w4 w5 := by (repeat' (first | (with_reducible exact Below.refl _ _) | (with_reducible assumption) | (with_reducible refine Below.alloc ?_ ?_ _) | (with_reducible refine Below.setCell ?_ ?_ _) | (with_reducible refine below_row ?_ ?_ _) | (with_reducible refine Below.drew ?_) | (with_reducible refine below_drewN ?_ _) | (with_reducible refine Below.trans ?_ (Below.mono (by assumption) ?_)) | (first | exact Nat.le_refl _ | omega | (simp; done) | (simp; omega))))
  have HA_5 := Lib.hid (HA_4.out.after B5)
  clear HA_4
  have A5 : Below w.heap.size w w5 := A4.trans (B5.mono A4.size)
  clear A4 hb5 B5
  go_wp2_with fail
  refine (hole_any _).mono ?_
  rintro _ w6 ⟨rfl, hb6⟩
  have s6 := hb6.size; try simp only [World.size_alloc, World.size_setCell, World.size_drew, setRow_size] at s6
  have B6 : Below w5.heap.size w5 w6 := by (repeat' (first | (with_reducible exact Below.refl _ _) | (with_reducible assumption) | (with_reducible refine Below.alloc ?_ ?_ _) | (with_reducible refine Below.setCell ?_ ?_ _) | (with_reducible refine below_row ?_ ?_ _) | (with_reducible refine Below.drew ?_) | (with_reducible refine below_drewN ?_ _) | (with_reducible refine Below.trans ?_ (Below.mono (by assumption) ?_)) | (first | exact Nat.le_refl _ | omega | (simp; done) | (simp; omega))))
  have HA_6 := Lib.hid (HA_5.out.after B6)
  clear HA_5
  have A6 : Below w.heap.size w w6 := A5.trans (B6.mono A5.size)
  clear A5 hb6 B6
  go_wp2_with fail
  refine (KR.out _ _ (Lies.new rfl)).mono ?_
  rintro _ w7 ⟨rfl, hb7⟩
  have s7 := hb7.size; try simp only [World.size_alloc, World.size_setCell, World.size_drew, setRow_size] at s7
  have B7 : Below w6.heap.size w6 w7 := by (repeat' (first | (with_reducible exact Below.refl _ _) | (with_reducible assumption) | (with_reducible refine Below.alloc ?_ ?_ _) | (with_reducible refine Below.setCell ?_ ?_ _) | (with_reducible refine below_row ?_ ?_ _) | (with_reducible refine Below.drew ?_) | (with_reducible refine below_drewN ?_ _) | (with_reducible refine Below.trans ?_ (Below.mono (by assumption) ?_)) | (first | exact Nat.le_refl _ | omega | (simp; done) | (simp; omega))))
  have HA_7 := Lib.hid (HA_6.out.after B7)
  clear HA_6
  have A7 : Below w.heap.size w w7 := A6.trans (B7.mono A6.size)
  clear A6 hb7 B7
  go_wp2_with fail
  refine (KW2.out _ (A7.trans (Below.mono (by (repeat' (first | (with_reducible exact Below.refl _ _) | (with_reducible assumption) | (with_reducible refine Below.alloc ?_ ?_ _) | (with_reducible refine Below.setCell ?_ ?_ _) | (with_reducible refine below_row ?_ ?_ _) | (with_reducible refine Below.drew ?_) | (with_reducible refine below_drewN ?_ _) | (with_reducible refine Below.trans ?_ (Below.mono (by assumption) ?_)) | (first | exact Nat.le_refl _ | omega | (simp; done) | (simp; omega))))) A7.size))).mono ?_
  rintro _ w8 ⟨rfl, hb8⟩
  have s8 := hb8.size; try simp only [World.size_alloc, World.size_setCell, World.size_drew, setRow_size] at s8
  have B8 : Below w7.heap.size w7 w8 := by (repeat' (first | (with_reducible exact Below.refl _ _) | (with_reducible assumption) | (with_reducible refine Below.alloc ?_ ?_ _) | (with_reducible refine Below.setCell ?_ ?_ _) | (with_reducible refine below_row ?_ ?_ _) | (with_reducible refine Below.drew ?_) | (with_reducible refine below_drewN ?_ _) | (with_reducible refine Below.trans ?_ (Below.mono (by assumption) ?_)) | (first | exact Nat.le_refl _ | omega | (simp; done) | (simp; omega))))
  have HA_8 := Lib.hid (HA_7.out.after B8)
  have HB_8 := Lib.hid (show Lies w8 _ 28 #[.int .i64 2000000, .int .i64 2000300, .int .i64 2002000] from (by first | exact (Lies.made w7 28 #[.int .i64 2000000, .int .i64 2000300, .int .i64 2002000]).after hb8 | exact ((Lies.made w7 28 #[.int .i64 2000000, .int .i64 2000300, .int .i64 2002000]).alloc _).after hb8 | exact (((Lies.made w7 28 #[.int .i64 2000000, .int .i64 2000300, .int .i64 2002000]).alloc _).alloc _).after hb8))
  clear HA_7
  have A8 : Below w.heap.size w w8 := A7.trans (B8.mono A7.size)
  clear A7 hb8 B8
  go_wp2_with fail
  refine (hole_any _).mono ?_
  rintro _ w9 ⟨rfl, hb9⟩
  have s9 := hb9.size; try simp only [World.size_alloc, World.size_setCell, World.size_drew, setRow_size] at s9
  have B9 : Below w8.heap.size w8 w9 := by (repeat' (first | (with_reducible exact Below.refl _ _) | (with_reducible assumption) | (with_reducible refine Below.alloc ?_ ?_ _) | (with_reducible refine Below.setCell ?_ ?_ _) | (with_reducible refine below_row ?_ ?_ _) | (with_reducible refine Below.drew ?_) | (with_reducible refine below_drewN ?_ _) | (with_reducible refine Below.trans ?_ (Below.mono (by assumption) ?_)) | (first | exact Nat.le_refl _ | omega | (simp; done) | (simp; omega))))
  have HA_9 := Lib.hid (HA_8.out.after B9)
  have HB_9 := Lib.hid (HB_8.out.after B9)
  clear HA_8 HB_8
  have A9 : Below w.heap.size w w9 := A8.trans (B9.mono A8.size)
  clear A8 hb9 B9
  go_wp2_with fail
  refine (KE.out _).mono ?_
  rintro _ w10 ⟨rfl, hb10⟩
  have s10 := hb10.size; try simp only [World.size_alloc, World.size_setCell, World.size_drew, setRow_size] at s10
  have B10 : Below w9.heap.size w9 w10 := by (repeat' (first | (with_reducible exact Below.refl _ _) | (with_reducible assumption) | (with_reducible refine Below.alloc ?_ ?_ _) | (with_reducible refine Below.setCell ?_ ?_ _) | (with_reducible refine below_row ?_ ?_ _) | (with_reducible refine Below.drew ?_) | (with_reducible refine below_drewN ?_ _) | (with_reducible refine Below.trans ?_ (Below.mono (by assumption) ?_)) | (first | exact Nat.le_refl _ | omega | (simp; done) | (simp; omega))))
  have HA_10 := Lib.hid (HA_9.out.after B10)
  have HB_10 := Lib.hid (HB_9.out.after B10)
  clear HA_9 HB_9
  have A10 : Below w.heap.size w w10 := A9.trans (B10.mono A9.size)
  clear A9 hb10 B10
  go_wp2_with fail
  refine (hole_any _).mono ?_
  rintro _ w11 ⟨rfl, hb11⟩
  have s11 := hb11.size; try simp only [World.size_alloc, World.size_setCell, World.size_drew, setRow_size] at s11
  have B11 : Below w10.heap.size w10 w11 := by (repeat' (first | (with_reducible exact Below.refl _ _) | (with_reducible assumption) | (with_reducible refine Below.alloc ?_ ?_ _) | (with_reducible refine Below.setCell ?_ ?_ _) | (with_reducible refine below_row ?_ ?_ _) | (with_reducible refine Below.drew ?_) | (with_reducible refine below_drewN ?_ _) | (with_reducible refine Below.trans ?_ (Below.mono (by assumption) ?_)) | (first | exact Nat.le_refl _ | omega | (simp; done) | (simp; omega))))
  have HA_11 := Lib.hid (HA_10.out.after B11)
  have HB_11 := Lib.hid (HB_10.out.after B11)
  clear HA_10 HB_10
  have A11 : Below w.heap.size w w11 := A10.trans (B11.mono A10.size)
  clear A10 hb11 B11
  go_wp2_with fail
  refine (press_any _).mono ?_
  rintro _ w12 ⟨rfl, hb12⟩
  have s12 := hb12.size; try simp only [World.size_alloc, World.size_setCell, World.size_drew, setRow_size] at s12
  have B12 : Below w11.heap.size w11 w12 := by (repeat' (first | (with_reducible exact Below.refl _ _) | (with_reducible assumption) | (with_reducible refine Below.alloc ?_ ?_ _) | (with_reducible refine Below.setCell ?_ ?_ _) | (with_reducible refine below_row ?_ ?_ _) | (with_reducible refine Below.drew ?_) | (with_reducible refine below_drewN ?_ _) | (with_reducible refine Below.trans ?_ (Below.mono (by assumption) ?_)) | (first | exact Nat.le_refl _ | omega | (simp; done) | (simp; omega))))
  have HA_12 := Lib.hid (HA_11.out.after B12)
  have HB_12 := Lib.hid (HB_11.out.after B12)
  clear HA_11 HB_11
  have A12 : Below w.heap.size w w12 := A11.trans (B12.mono A11.size)
  clear A11 hb12 B12
  go_wp2_with fail
  refine (KF.out _).mono ?_
  rintro _ w13 ⟨rfl, hb13⟩
  have s13 := hb13.size; try simp only [World.size_alloc, World.size_setCell, World.size_drew, setRow_size] at s13
  have B13 : Below w12.heap.size w12 w13 := by (repeat' (first | (with_reducible exact Below.refl _ _) | (with_reducible assumption) | (with_reducible refine Below.alloc ?_ ?_ _) | (with_reducible refine Below.setCell ?_ ?_ _) | (with_reducible refine below_row ?_ ?_ _) | (with_reducible refine Below.drew ?_) | (with_reducible refine below_drewN ?_ _) | (with_reducible refine Below.trans ?_ (Below.mono (by assumption) ?_)) | (first | exact Nat.le_refl _ | omega | (simp; done) | (simp; omega))))
  have HA_13 := Lib.hid (HA_12.out.after B13)
  have HB_13 := Lib.hid (HB_12.out.after B13)
  clear HA_12 HB_12
  have A13 : Below w.heap.size w w13 := A12.trans (B13.mono A12.size)
  clear A12 hb13 B13
  go_wp2_with fail
  refine (hole_any _).mono ?_
  rintro _ w14 ⟨rfl, hb14⟩
  have s14 := hb14.size; try simp only [World.size_alloc, World.size_setCell, World.size_drew, setRow_size] at s14
  have B14 : Below w13.heap.size w13 w14 := by (repeat' (first | (with_reducible exact Below.refl _ _) | (with_reducible assumption) | (with_reducible refine Below.alloc ?_ ?_ _) | (with_reducible refine Below.setCell ?_ ?_ _) | (with_reducible refine below_row ?_ ?_ _) | (with_reducible refine Below.drew ?_) | (with_reducible refine below_drewN ?_ _) | (with_reducible refine Below.trans ?_ (Below.mono (by assumption) ?_)) | (first | exact Nat.le_refl _ | omega | (simp; done) | (simp; omega))))
  have HA_14 := Lib.hid (HA_13.out.after B14)
  have HB_14 := Lib.hid (HB_13.out.after B14)
  have HC_14 := Lib.hid (show Lies w14 _ 31 #[.int .i64 (-2800), .int .i64 600] from (by first | exact (Lies.made w13 31 #[.int .i64 (-2800), .int .i64 600]).after hb14 | exact ((Lies.made w13 31 #[.int .i64 (-2800), .int .i64 600]).alloc _).after hb14 | exact (((Lies.made w13 31 #[.int .i64 (-2800), .int .i64 600]).alloc _).alloc _).after hb14))
  clear HA_13 HB_13
  have A14 : Below w.heap.size w w14 := A13.trans (B14.mono A13.size)
  clear A13 hb14 B14
  go_wp2_with fail
  refine (KO.out _).mono ?_
  rintro _ w15 ⟨rfl, hb15⟩
  have s15 := hb15.size; try simp only [World.size_alloc, World.size_setCell, World.size_drew, setRow_size] at s15
  have B15 : Below w14.heap.size w14 w15 := by (repeat' (first | (with_reducible exact Below.refl _ _) | (with_reducible assumption) | (with_reducible refine Below.alloc ?_ ?_ _) | (with_reducible refine Below.setCell ?_ ?_ _) | (with_reducible refine below_row ?_ ?_ _) | (with_reducible refine Below.drew ?_) | (with_reducible refine below_drewN ?_ _) | (with_reducible refine Below.trans ?_ (Below.mono (by assumption) ?_)) | (first | exact Nat.le_refl _ | omega | (simp; done) | (simp; omega))))
  have HA_15 := Lib.hid (HA_14.out.after B15)
  have HB_15 := Lib.hid (HB_14.out.after B15)
  have HC_15 := Lib.hid (HC_14.out.after B15)
  clear HA_14 HB_14 HC_14
  have A15 : Below w.heap.size w w15 := A14.trans (B15.mono A14.size)
  clear A14 hb15 B15
  go_wp2_with fail
  refine (hole_any _).mono ?_
  rintro _ w16 ⟨rfl, hb16⟩
  have s16 := hb16.size; try simp only [World.size_alloc, World.size_setCell, World.size_drew, setRow_size] at s16
  have B16 : Below w15.heap.size w15 w16 := by (repeat' (first | (with_reducible exact Below.refl _ _) | (with_reducible assumption) | (with_reducible refine Below.alloc ?_ ?_ _) | (with_reducible refine Below.setCell ?_ ?_ _) | (with_reducible refine below_row ?_ ?_ _) | (with_reducible refine Below.drew ?_) | (with_reducible refine below_drewN ?_ _) | (with_reducible refine Below.trans ?_ (Below.mono (by assumption) ?_)) | (first | exact Nat.le_refl _ | omega | (simp; done) | (simp; omega))))
  have HA_16 := Lib.hid (HA_15.out.after B16)
  have HB_16 := Lib.hid (HB_15.out.after B16)
  have HC_16 := Lib.hid (HC_15.out.after B16)
  have HE_16 := Lib.hid (show Lies w16 _ 28 #[.int .i64 2000000, .int .i64 1998000, .int .i64 1999300] from (by first | exact (Lies.made w15 28 #[.int .i64 2000000, .int .i64 1998000, .int .i64 1999300]).after hb16 | exact ((Lies.made w15 28 #[.int .i64 2000000, .int .i64 1998000, .int .i64 1999300]).alloc _).after hb16 | exact (((Lies.made w15 28 #[.int .i64 2000000, .int .i64 1998000, .int .i64 1999300]).alloc _).alloc _).after hb16))
  clear HA_15 HB_15 HC_15
  have A16 : Below w.heap.size w w16 := A15.trans (B16.mono A15.size)
  clear A15 hb16 B16
  go_wp2_with fail
  refine (press_any _).mono ?_
  rintro _ w17 ⟨rfl, hb17⟩
  have s17 := hb17.size; try simp only [World.size_alloc, World.size_setCell, World.size_drew, setRow_size] at s17
  have B17 : Below w16.heap.size w16 w17 := by (repeat' (first | (with_reducible exact Below.refl _ _) | (with_reducible assumption) | (with_reducible refine Below.alloc ?_ ?_ _) | (with_reducible refine Below.setCell ?_ ?_ _) | (with_reducible refine below_row ?_ ?_ _) | (with_reducible refine Below.drew ?_) | (with_reducible refine below_drewN ?_ _) | (with_reducible refine Below.trans ?_ (Below.mono (by assumption) ?_)) | (first | exact Nat.le_refl _ | omega | (simp; done) | (simp; omega))))
  have HA_17 := Lib.hid (HA_16.out.after B17)
  have HB_17 := Lib.hid (HB_16.out.after B17)
  have HC_17 := Lib.hid (HC_16.out.after B17)
  have HE_17 := Lib.hid (HE_16.out.after B17)
  clear HA_16 HB_16 HC_16 HE_16
  have A17 : Below w.heap.size w w17 := A16.trans (B17.mono A16.size)
  clear A16 hb17 B17
  go_wp2_with fail
  refine (KM.out _ _ (Lies.new rfl)).mono ?_
  rintro _ w18 ⟨rfl, hb18⟩
  have s18 := hb18.size; try simp only [World.size_alloc, World.size_setCell, World.size_drew, setRow_size] at s18
  have B18 : Below w17.heap.size w17 w18 := by (repeat' (first | (with_reducible exact Below.refl _ _) | (with_reducible assumption) | (with_reducible refine Below.alloc ?_ ?_ _) | (with_reducible refine Below.setCell ?_ ?_ _) | (with_reducible refine below_row ?_ ?_ _) | (with_reducible refine Below.drew ?_) | (with_reducible refine below_drewN ?_ _) | (with_reducible refine Below.trans ?_ (Below.mono (by assumption) ?_)) | (first | exact Nat.le_refl _ | omega | (simp; done) | (simp; omega))))
  have HA_18 := Lib.hid (HA_17.out.after B18)
  have HB_18 := Lib.hid (HB_17.out.after B18)
  have HC_18 := Lib.hid (HC_17.out.after B18)
  have HE_18 := Lib.hid (HE_17.out.after B18)
  clear HA_17 HB_17 HC_17 HE_17
  have A18 : Below w.heap.size w w18 := A17.trans (B18.mono A17.size)
  clear A17 hb18 B18
  go_wp2_with fail
  refine (KD.out _ (A18.trans (Below.mono (by (repeat' (first | (with_reducible exact Below.refl _ _) | (with_reducible assumption) | (with_reducible refine Below.alloc ?_ ?_ _) | (with_reducible refine Below.setCell ?_ ?_ _) | (with_reducible refine below_row ?_ ?_ _) | (with_reducible refine Below.drew ?_) | (with_reducible refine below_drewN ?_ _) | (with_reducible refine Below.trans ?_ (Below.mono (by assumption) ?_)) | (first | exact Nat.le_refl _ | omega | (simp; done) | (simp; omega))))) A18.size))).mono ?_
  rintro _ w19 ⟨rfl, hb19⟩
  have s19 := hb19.size; try simp only [World.size_alloc, World.size_setCell, World.size_drew, setRow_size] at s19
  have B19 : Below w18.heap.size w18 w19 := by (repeat' (first | (with_reducible exact Below.refl _ _) | (with_reducible assumption) | (with_reducible refine Below.alloc ?_ ?_ _) | (with_reducible refine Below.setCell ?_ ?_ _) | (with_reducible refine below_row ?_ ?_ _) | (with_reducible refine Below.drew ?_) | (with_reducible refine below_drewN ?_ _) | (with_reducible refine Below.trans ?_ (Below.mono (by assumption) ?_)) | (first | exact Nat.le_refl _ | omega | (simp; done) | (simp; omega))))
  have HA_19 := Lib.hid (HA_18.out.after B19)
  have HB_19 := Lib.hid (HB_18.out.after B19)
  have HC_19 := Lib.hid (HC_18.out.after B19)
  have HE_19 := Lib.hid (HE_18.out.after B19)
  have HU_19 := Lib.hid (show Lies w19 _ 31 #[.int .i64 2001500, .int .i64 2002100] from (by first | exact (Lies.made w18 31 #[.int .i64 2001500, .int .i64 2002100]).after hb19 | exact ((Lies.made w18 31 #[.int .i64 2001500, .int .i64 2002100]).alloc _).after hb19 | exact (((Lies.made w18 31 #[.int .i64 2001500, .int .i64 2002100]).alloc _).alloc _).after hb19))
  clear HA_18 HB_18 HC_18 HE_18
  have A19 : Below w.heap.size w w19 := A18.trans (B19.mono A18.size)
  clear A18 hb19 B19
  go_wp2_with fail
  have rA0 := HA_19.out.cell 0
  have rA1 := HA_19.out.cell 1
  have rA2 := HA_19.out.cell 2
  have yA := HA_19.out.lt
  have uAX : ¬ w19.heap.size = w2.heap.size := by omega
  have vAX : ¬ w2.heap.size = w19.heap.size := by omega
  go_region_held3 (fun W => W.cell? ⟨w2.heap.size, 0, none⟩ = some (.int .i64 1999996) ∧ W.cell? ⟨w2.heap.size, 1, none⟩ = some (.int .i64 2000250) ∧ W.cell? ⟨w2.heap.size, 2, none⟩ = some (.int .i64 2002028)) (go_keep)
      (first | (go_at_call 18; (with_reducible refine (hole_any _).mono ?_); rintro e w109 ⟨rfl, hb2⟩; have hq : Below w19.heap.size w19 w109 := Below.trans (by (repeat' (first | (with_reducible exact Below.refl _ _) | (with_reducible assumption) | (with_reducible refine Below.alloc ?_ ?_ _) | (with_reducible refine Below.setCell ?_ ?_ _) | (with_reducible refine below_row ?_ ?_ _) | (with_reducible refine Below.drew ?_) | (with_reducible refine below_drewN ?_ _) | (with_reducible refine Below.trans ?_ (Below.mono (by assumption) ?_)) | (first | exact Nat.le_refl _ | omega | (simp; done) | (simp; omega))))) (hb2.mono (Below.size (B := w19.heap.size) (by (repeat' (first | (with_reducible exact Below.refl _ _) | (with_reducible assumption) | (with_reducible refine Below.alloc ?_ ?_ _) | (with_reducible refine Below.setCell ?_ ?_ _) | (with_reducible refine below_row ?_ ?_ _) | (with_reducible refine Below.drew ?_) | (with_reducible refine below_drewN ?_ _) | (with_reducible refine Below.trans ?_ (Below.mono (by assumption) ?_)) | (first | exact Nat.le_refl _ | omega | (simp; done) | (simp; omega))))))); have hb4 : Below (w19.heap.size + 1) (w19.alloc (.cells #[.int .i64 2000000, .int .i64 1998000, .int .i64 1999300] 28)) w109 := Below.trans (by (repeat' (first | (with_reducible exact Below.refl _ _) | (with_reducible assumption) | (with_reducible refine Below.alloc ?_ ?_ _) | (with_reducible refine Below.setCell ?_ ?_ _) | (with_reducible refine below_row ?_ ?_ _) | (with_reducible refine Below.drew ?_) | (with_reducible refine below_drewN ?_ _) | (with_reducible refine Below.trans ?_ (Below.mono (by assumption) ?_)) | (first | exact Nat.le_refl _ | omega | (simp; done) | (simp; omega))))) (hb2.mono (by first | omega | (simp; done) | (simp; omega))); have s109 : w19.heap.size + 1 ≤ w109.heap.size := (by have h := hb4.size; simp only [World.size_alloc] at h; omega); have LA := HA_19.out.after hq; have cA0 := LA.cell 0; have cA1 := LA.cell 1; have cA2 := LA.cell 2; clear LA) | (go_at_call 25; (with_reducible refine (KI.out _).mono ?_); rintro e w109 ⟨rfl, hb2⟩; have hq : Below w19.heap.size w19 w109 := Below.trans (by (repeat' (first | (with_reducible exact Below.refl _ _) | (with_reducible assumption) | (with_reducible refine Below.alloc ?_ ?_ _) | (with_reducible refine Below.setCell ?_ ?_ _) | (with_reducible refine below_row ?_ ?_ _) | (with_reducible refine Below.drew ?_) | (with_reducible refine below_drewN ?_ _) | (with_reducible refine Below.trans ?_ (Below.mono (by assumption) ?_)) | (first | exact Nat.le_refl _ | omega | (simp; done) | (simp; omega))))) (hb2.mono (Below.size (B := w19.heap.size) (by (repeat' (first | (with_reducible exact Below.refl _ _) | (with_reducible assumption) | (with_reducible refine Below.alloc ?_ ?_ _) | (with_reducible refine Below.setCell ?_ ?_ _) | (with_reducible refine below_row ?_ ?_ _) | (with_reducible refine Below.drew ?_) | (with_reducible refine below_drewN ?_ _) | (with_reducible refine Below.trans ?_ (Below.mono (by assumption) ?_)) | (first | exact Nat.le_refl _ | omega | (simp; done) | (simp; omega))))))); have hb4 : Below (w19.heap.size + 1) (w19.alloc (.cells #[.int .i64 2000000, .int .i64 1998000, .int .i64 1999300] 28)) w109 := Below.trans (by (repeat' (first | (with_reducible exact Below.refl _ _) | (with_reducible assumption) | (with_reducible refine Below.alloc ?_ ?_ _) | (with_reducible refine Below.setCell ?_ ?_ _) | (with_reducible refine below_row ?_ ?_ _) | (with_reducible refine Below.drew ?_) | (with_reducible refine below_drewN ?_ _) | (with_reducible refine Below.trans ?_ (Below.mono (by assumption) ?_)) | (first | exact Nat.le_refl _ | omega | (simp; done) | (simp; omega))))) (hb2.mono (by first | omega | (simp; done) | (simp; omega))); have s109 : w19.heap.size + 1 ≤ w109.heap.size := (by have h := hb4.size; simp only [World.size_alloc] at h; omega); have LA := HA_19.out.after hq; have cA0 := LA.cell 0; have cA1 := LA.cell 1; have cA2 := LA.cell 2; clear LA))
  have A109 : Below w.heap.size w w109 := A19.trans (hq.mono A19.size)
  have HA_109 := Lib.hid (HA_19.out.after hq)
  have HB_109 := Lib.hid (HB_19.out.after hq)
  have HC_109 := Lib.hid (HC_19.out.after hq)
  have HE_109 := Lib.hid (HE_19.out.after hq)
  have HU_109 := Lib.hid (HU_19.out.after hq)
  have HX_109 := Lib.hid (show Lies w109 (w19.heap.size) 28 #[.int .i64 2000000, .int .i64 1998000, .int .i64 1999300] from (by have h := (Lies.made w19 28 #[.int .i64 2000000, .int .i64 1998000, .int .i64 1999300]).keep hb4 (by simp); (try simp only [World.size_alloc] at h); exact h))
  clear HA_19 HB_19 HC_19 HE_19 HU_19 A19 rA0 rA1 rA2 yA cA0 cA1 cA2 uAX vAX
  clear hq hb2 hb4
  go_wp2_with fail
  refine (KS.out _).mono ?_
  rintro _ w22 ⟨rfl, hb22⟩
  have s22 := hb22.size; try simp only [World.size_alloc, World.size_setCell, World.size_drew, setRow_size] at s22
  have B22 : Below w109.heap.size w109 w22 := by (repeat' (first | (with_reducible exact Below.refl _ _) | (with_reducible assumption) | (with_reducible refine Below.alloc ?_ ?_ _) | (with_reducible refine Below.setCell ?_ ?_ _) | (with_reducible refine below_row ?_ ?_ _) | (with_reducible refine Below.drew ?_) | (with_reducible refine below_drewN ?_ _) | (with_reducible refine Below.trans ?_ (Below.mono (by assumption) ?_)) | (first | exact Nat.le_refl _ | omega | (simp; done) | (simp; omega))))
  have A22 : Below w.heap.size w w22 := A109.trans (B22.mono A109.size)
  have HA_22 := Lib.hid (HA_109.out.after B22)
  have HB_22 := Lib.hid (HB_109.out.after B22)
  have HC_22 := Lib.hid (HC_109.out.after B22)
  have HE_22 := Lib.hid (HE_109.out.after B22)
  have HU_22 := Lib.hid (HU_109.out.after B22)
  have HX_22 := Lib.hid (HX_109.out.after B22)
  clear A109 hb22 B22 HA_109 HB_109 HC_109 HE_109 HU_109 HX_109
  go_wp2_with fail
  have rA0 := HA_22.out.cell 0
  have rA1 := HA_22.out.cell 1
  have rA2 := HA_22.out.cell 2
  have yA := HA_22.out.lt
  have rB0 := HB_22.out.cell 0
  have rB1 := HB_22.out.cell 1
  have rB2 := HB_22.out.cell 2
  have yB := HB_22.out.lt
  have uAV : ¬ w22.heap.size = w2.heap.size := by omega
  have vAV : ¬ w2.heap.size = w22.heap.size := by omega
  have uAZ : ¬ w22.heap.size + 1 = w2.heap.size := by omega
  have vAZ : ¬ w2.heap.size = w22.heap.size + 1 := by omega
  have uBV : ¬ w22.heap.size = w7.heap.size := by omega
  have vBV : ¬ w7.heap.size = w22.heap.size := by omega
  have uBZ : ¬ w22.heap.size + 1 = w7.heap.size := by omega
  have vBZ : ¬ w7.heap.size = w22.heap.size + 1 := by omega
  go_region_held3 (fun W => W.cell? ⟨w2.heap.size, 0, none⟩ = some (.int .i64 1999996) ∧ W.cell? ⟨w2.heap.size, 1, none⟩ = some (.int .i64 2000250) ∧ W.cell? ⟨w2.heap.size, 2, none⟩ = some (.int .i64 2002028) ∧ W.cell? ⟨w7.heap.size, 0, none⟩ = some (.int .i64 2000000) ∧ W.cell? ⟨w7.heap.size, 1, none⟩ = some (.int .i64 2000300) ∧ W.cell? ⟨w7.heap.size, 2, none⟩ = some (.int .i64 2002000)) (go_keep)
      (first | (go_at_call 40; (with_reducible refine (thin_any _).mono ?_); rintro e w112 ⟨rfl, hb2⟩; have hq : Below w22.heap.size w22 w112 := Below.trans (by (repeat' (first | (with_reducible exact Below.refl _ _) | (with_reducible assumption) | (with_reducible refine Below.alloc ?_ ?_ _) | (with_reducible refine Below.setCell ?_ ?_ _) | (with_reducible refine below_row ?_ ?_ _) | (with_reducible refine Below.drew ?_) | (with_reducible refine below_drewN ?_ _) | (with_reducible refine Below.trans ?_ (Below.mono (by assumption) ?_)) | (first | exact Nat.le_refl _ | omega | (simp; done) | (simp; omega))))) (hb2.mono (Below.size (B := w22.heap.size) (by (repeat' (first | (with_reducible exact Below.refl _ _) | (with_reducible assumption) | (with_reducible refine Below.alloc ?_ ?_ _) | (with_reducible refine Below.setCell ?_ ?_ _) | (with_reducible refine below_row ?_ ?_ _) | (with_reducible refine Below.drew ?_) | (with_reducible refine below_drewN ?_ _) | (with_reducible refine Below.trans ?_ (Below.mono (by assumption) ?_)) | (first | exact Nat.le_refl _ | omega | (simp; done) | (simp; omega))))))); have hb4 : Below (w22.heap.size + 2) ((w22.alloc (.cells #[.int .i64 2000000, .int .i64 2000000, .int .i64 2001700] 28)).alloc (.cells #[.int .i64 2000000, .int .i64 1997600, .int .i64 1999300] 28)) w112 := Below.trans (by (repeat' (first | (with_reducible exact Below.refl _ _) | (with_reducible assumption) | (with_reducible refine Below.alloc ?_ ?_ _) | (with_reducible refine Below.setCell ?_ ?_ _) | (with_reducible refine below_row ?_ ?_ _) | (with_reducible refine Below.drew ?_) | (with_reducible refine below_drewN ?_ _) | (with_reducible refine Below.trans ?_ (Below.mono (by assumption) ?_)) | (first | exact Nat.le_refl _ | omega | (simp; done) | (simp; omega))))) (hb2.mono (by first | omega | (simp; done) | (simp; omega))); have s112 : w22.heap.size + 2 ≤ w112.heap.size := (by have h := hb4.size; simp only [World.size_alloc] at h; omega); have LA := HA_22.out.after hq; have cA0 := LA.cell 0; have cA1 := LA.cell 1; have cA2 := LA.cell 2; clear LA; have LB := HB_22.out.after hq; have cB0 := LB.cell 0; have cB1 := LB.cell 1; have cB2 := LB.cell 2; clear LB) | (go_at_call 16; (with_reducible refine (dim_any _ _ _ _).mono ?_); rintro e w112 ⟨rfl, hb2⟩; have hq : Below w22.heap.size w22 w112 := Below.trans (by (repeat' (first | (with_reducible exact Below.refl _ _) | (with_reducible assumption) | (with_reducible refine Below.alloc ?_ ?_ _) | (with_reducible refine Below.setCell ?_ ?_ _) | (with_reducible refine below_row ?_ ?_ _) | (with_reducible refine Below.drew ?_) | (with_reducible refine below_drewN ?_ _) | (with_reducible refine Below.trans ?_ (Below.mono (by assumption) ?_)) | (first | exact Nat.le_refl _ | omega | (simp; done) | (simp; omega))))) (hb2.mono (Below.size (B := w22.heap.size) (by (repeat' (first | (with_reducible exact Below.refl _ _) | (with_reducible assumption) | (with_reducible refine Below.alloc ?_ ?_ _) | (with_reducible refine Below.setCell ?_ ?_ _) | (with_reducible refine below_row ?_ ?_ _) | (with_reducible refine Below.drew ?_) | (with_reducible refine below_drewN ?_ _) | (with_reducible refine Below.trans ?_ (Below.mono (by assumption) ?_)) | (first | exact Nat.le_refl _ | omega | (simp; done) | (simp; omega))))))); have hb4 : Below (w22.heap.size + 2) ((w22.alloc (.cells #[.int .i64 2000000, .int .i64 2000000, .int .i64 2001700] 28)).alloc (.cells #[.int .i64 2000000, .int .i64 1997600, .int .i64 1999300] 28)) w112 := Below.trans (by (repeat' (first | (with_reducible exact Below.refl _ _) | (with_reducible assumption) | (with_reducible refine Below.alloc ?_ ?_ _) | (with_reducible refine Below.setCell ?_ ?_ _) | (with_reducible refine below_row ?_ ?_ _) | (with_reducible refine Below.drew ?_) | (with_reducible refine below_drewN ?_ _) | (with_reducible refine Below.trans ?_ (Below.mono (by assumption) ?_)) | (first | exact Nat.le_refl _ | omega | (simp; done) | (simp; omega))))) (hb2.mono (by first | omega | (simp; done) | (simp; omega))); have s112 : w22.heap.size + 2 ≤ w112.heap.size := (by have h := hb4.size; simp only [World.size_alloc] at h; omega); have LA := HA_22.out.after hq; have cA0 := LA.cell 0; have cA1 := LA.cell 1; have cA2 := LA.cell 2; clear LA; have LB := HB_22.out.after hq; have cB0 := LB.cell 0; have cB1 := LB.cell 1; have cB2 := LB.cell 2; clear LB))
  have A112 : Below w.heap.size w w112 := A22.trans (hq.mono A22.size)
  have HA_112 := Lib.hid (HA_22.out.after hq)
  have HB_112 := Lib.hid (HB_22.out.after hq)
  have HC_112 := Lib.hid (HC_22.out.after hq)
  have HE_112 := Lib.hid (HE_22.out.after hq)
  have HU_112 := Lib.hid (HU_22.out.after hq)
  have HX_112 := Lib.hid (HX_22.out.after hq)
  have HV_112 := Lib.hid (show Lies w112 (w22.heap.size) 28 #[.int .i64 2000000, .int .i64 2000000, .int .i64 2001700] from (by have h := ((Lies.made w22 28 #[.int .i64 2000000, .int .i64 2000000, .int .i64 2001700]).alloc _).keep hb4 (by simp); (try simp only [World.size_alloc] at h); exact h))
  have HZ_112 := Lib.hid (show Lies w112 (w22.heap.size + 1) 28 #[.int .i64 2000000, .int .i64 1997600, .int .i64 1999300] from (by have h := (Lies.made (w22.alloc (.cells #[.int .i64 2000000, .int .i64 2000000, .int .i64 2001700] 28)) 28 #[.int .i64 2000000, .int .i64 1997600, .int .i64 1999300]).keep hb4 (by simp); (try simp only [World.size_alloc] at h); exact h))
  clear HA_22 HB_22 HC_22 HE_22 HU_22 HX_22 A22 rA0 rA1 rA2 yA cA0 cA1 cA2 uAV vAV uAZ vAZ rB0 rB1 rB2 yB cB0 cB1 cB2 uBV vBV uBZ vBZ
  clear hq hb2 hb4
  go_wp2_with fail
  have rC0 := HC_112.out.cell 0
  have rC1 := HC_112.out.cell 1
  have yC := HC_112.out.lt
  have rE0 := HE_112.out.cell 0
  have rE1 := HE_112.out.cell 1
  have rE2 := HE_112.out.cell 2
  have yE := HE_112.out.lt
  have rU0 := HU_112.out.cell 0
  have rU1 := HU_112.out.cell 1
  have yU := HU_112.out.lt
  have rX0 := HX_112.out.cell 0
  have rX1 := HX_112.out.cell 1
  have rX2 := HX_112.out.cell 2
  have yX := HX_112.out.lt
  have rV0 := HV_112.out.cell 0
  have rV1 := HV_112.out.cell 1
  have rV2 := HV_112.out.cell 2
  have yV := HV_112.out.lt
  have rZ0 := HZ_112.out.cell 0
  have rZ1 := HZ_112.out.cell 1
  have rZ2 := HZ_112.out.cell 2
  have yZ := HZ_112.out.lt
  go_region_held3 (fun W => W.cell? ⟨w13.heap.size, 0, none⟩ = some (.int .i64 (-2800)) ∧ W.cell? ⟨w13.heap.size, 1, none⟩ = some (.int .i64 600) ∧ W.cell? ⟨w15.heap.size, 0, none⟩ = some (.int .i64 2000000) ∧ W.cell? ⟨w15.heap.size, 1, none⟩ = some (.int .i64 1998000) ∧ W.cell? ⟨w15.heap.size, 2, none⟩ = some (.int .i64 1999300) ∧ W.cell? ⟨w18.heap.size, 0, none⟩ = some (.int .i64 2001500) ∧ W.cell? ⟨w18.heap.size, 1, none⟩ = some (.int .i64 2002100) ∧ W.cell? ⟨w19.heap.size, 0, none⟩ = some (.int .i64 2000000) ∧ W.cell? ⟨w19.heap.size, 1, none⟩ = some (.int .i64 1998000) ∧ W.cell? ⟨w19.heap.size, 2, none⟩ = some (.int .i64 1999300) ∧ W.cell? ⟨w22.heap.size, 0, none⟩ = some (.int .i64 2000000) ∧ W.cell? ⟨w22.heap.size, 1, none⟩ = some (.int .i64 2000000) ∧ W.cell? ⟨w22.heap.size, 2, none⟩ = some (.int .i64 2001700) ∧ W.cell? ⟨w22.heap.size + 1, 0, none⟩ = some (.int .i64 2000000) ∧ W.cell? ⟨w22.heap.size + 1, 1, none⟩ = some (.int .i64 1997600) ∧ W.cell? ⟨w22.heap.size + 1, 2, none⟩ = some (.int .i64 1999300)) (go_keep)
      (first | (go_at_call 19; (with_reducible refine (shaft_any _).mono ?_); rintro e w202 ⟨rfl, hb2⟩; have hq : Below w112.heap.size w112 w202 := Below.trans (by (repeat' (first | (with_reducible exact Below.refl _ _) | (with_reducible assumption) | (with_reducible refine Below.alloc ?_ ?_ _) | (with_reducible refine Below.setCell ?_ ?_ _) | (with_reducible refine below_row ?_ ?_ _) | (with_reducible refine Below.drew ?_) | (with_reducible refine below_drewN ?_ _) | (with_reducible refine Below.trans ?_ (Below.mono (by assumption) ?_)) | (first | exact Nat.le_refl _ | omega | (simp; done) | (simp; omega))))) (hb2.mono (Below.size (B := w112.heap.size) (by (repeat' (first | (with_reducible exact Below.refl _ _) | (with_reducible assumption) | (with_reducible refine Below.alloc ?_ ?_ _) | (with_reducible refine Below.setCell ?_ ?_ _) | (with_reducible refine below_row ?_ ?_ _) | (with_reducible refine Below.drew ?_) | (with_reducible refine below_drewN ?_ _) | (with_reducible refine Below.trans ?_ (Below.mono (by assumption) ?_)) | (first | exact Nat.le_refl _ | omega | (simp; done) | (simp; omega))))))); have s202 := hq.size; have LC := HC_112.out.after hq; have cC0 := LC.cell 0; have cC1 := LC.cell 1; clear LC; have LE := HE_112.out.after hq; have cE0 := LE.cell 0; have cE1 := LE.cell 1; have cE2 := LE.cell 2; clear LE; have LU := HU_112.out.after hq; have cU0 := LU.cell 0; have cU1 := LU.cell 1; clear LU; have LX := HX_112.out.after hq; have cX0 := LX.cell 0; have cX1 := LX.cell 1; have cX2 := LX.cell 2; clear LX; have LV := HV_112.out.after hq; have cV0 := LV.cell 0; have cV1 := LV.cell 1; have cV2 := LV.cell 2; clear LV; have LZ := HZ_112.out.after hq; have cZ0 := LZ.cell 0; have cZ1 := LZ.cell 1; have cZ2 := LZ.cell 2; clear LZ) | (go_at_call 16; (with_reducible refine (dim_any _ _ _ _).mono ?_); rintro e w202 ⟨rfl, hb2⟩; have hq : Below w112.heap.size w112 w202 := Below.trans (by (repeat' (first | (with_reducible exact Below.refl _ _) | (with_reducible assumption) | (with_reducible refine Below.alloc ?_ ?_ _) | (with_reducible refine Below.setCell ?_ ?_ _) | (with_reducible refine below_row ?_ ?_ _) | (with_reducible refine Below.drew ?_) | (with_reducible refine below_drewN ?_ _) | (with_reducible refine Below.trans ?_ (Below.mono (by assumption) ?_)) | (first | exact Nat.le_refl _ | omega | (simp; done) | (simp; omega))))) (hb2.mono (Below.size (B := w112.heap.size) (by (repeat' (first | (with_reducible exact Below.refl _ _) | (with_reducible assumption) | (with_reducible refine Below.alloc ?_ ?_ _) | (with_reducible refine Below.setCell ?_ ?_ _) | (with_reducible refine below_row ?_ ?_ _) | (with_reducible refine Below.drew ?_) | (with_reducible refine below_drewN ?_ _) | (with_reducible refine Below.trans ?_ (Below.mono (by assumption) ?_)) | (first | exact Nat.le_refl _ | omega | (simp; done) | (simp; omega))))))); have s202 := hq.size; have LC := HC_112.out.after hq; have cC0 := LC.cell 0; have cC1 := LC.cell 1; clear LC; have LE := HE_112.out.after hq; have cE0 := LE.cell 0; have cE1 := LE.cell 1; have cE2 := LE.cell 2; clear LE; have LU := HU_112.out.after hq; have cU0 := LU.cell 0; have cU1 := LU.cell 1; clear LU; have LX := HX_112.out.after hq; have cX0 := LX.cell 0; have cX1 := LX.cell 1; have cX2 := LX.cell 2; clear LX; have LV := HV_112.out.after hq; have cV0 := LV.cell 0; have cV1 := LV.cell 1; have cV2 := LV.cell 2; clear LV; have LZ := HZ_112.out.after hq; have cZ0 := LZ.cell 0; have cZ1 := LZ.cell 1; have cZ2 := LZ.cell 2; clear LZ))
  have A202 : Below w.heap.size w w202 := A112.trans (hq.mono A112.size)
  have HA_202 := Lib.hid (HA_112.out.after hq)
  have HB_202 := Lib.hid (HB_112.out.after hq)
  have HC_202 := Lib.hid (HC_112.out.after hq)
  have HE_202 := Lib.hid (HE_112.out.after hq)
  have HU_202 := Lib.hid (HU_112.out.after hq)
  have HX_202 := Lib.hid (HX_112.out.after hq)
  have HV_202 := Lib.hid (HV_112.out.after hq)
  have HZ_202 := Lib.hid (HZ_112.out.after hq)
  clear HA_112 HB_112 HC_112 HE_112 HU_112 HX_112 HV_112 HZ_112 A112 rC0 rC1 yC cC0 cC1 rE0 rE1 rE2 yE cE0 cE1 cE2 rU0 rU1 yU cU0 cU1 rX0 rX1 rX2 yX cX0 cX1 cX2 rV0 rV1 rV2 yV cV0 cV1 cV2 rZ0 rZ1 rZ2 yZ cZ0 cZ1 cZ2
  clear hq hb2
  go_wp2
  go_ret
  exact ⟨rfl, A202⟩
end Go.Proofs.YtldjkdomklgmaaaDoor
