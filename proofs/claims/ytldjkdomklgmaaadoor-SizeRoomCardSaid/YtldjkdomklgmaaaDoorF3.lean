/- The law SizeRoom: the walk. -/
import Derived.Test.YtldjkdomklgmaaaDoorF2
namespace Go.Proofs.YtldjkdomklgmaaaDoor
set_option linter.unusedVariables false
set_option linter.unusedSimpArgs false
open Go.RowKit

set_option maxHeartbeats 8000000 in
set_option maxRecDepth 100000 in
theorem roomy_a (an al au lo hi bn bl bu : Int) (w : World) (he : Env w) (h : okD an al au = false) :
    Calls Tryd.prog 11 #[.agg #[.int .i64 an, .int .i64 al, .int .i64 au], .agg #[.int .i64 lo, .int .i64 hi], .agg #[.int .i64 bn, .int .i64 bl, .int .i64 bu]] w (Trues w) := by
  have HE := Lib.hid (fun W (hW : Below w.heap.size w W) => he.after hW)
  have HA := Lib.hid (fun W => h ▸ rDim_any an al au W)
  clear he h
  go_enter Tryd.func11, Tryd.ntmps11
  go_wp2_with fail
  refine (alive_any _ (HE.out _ (by (repeat' (first | (with_reducible exact Below.refl _ _) | (with_reducible assumption) | (with_reducible refine Below.alloc ?_ ?_ _) | (with_reducible refine Below.setCell ?_ ?_ _) | (with_reducible refine below_row ?_ ?_ _) | (with_reducible refine Below.drew ?_) | (with_reducible refine below_drewN ?_ _) | (with_reducible refine Below.trans ?_ (Below.mono (by assumption) ?_)) | (first | exact Nat.le_refl _ | omega | (simp; done) | (simp; omega))))))).mono ?_
  rintro _ w1 ⟨rfl, hb1⟩
  have s1 := hb1.size; try simp only [World.size_alloc, World.size_setCell, World.size_drew, setRow_size] at s1
  have B1 : Below w.heap.size w w1 := by (repeat' (first | (with_reducible exact Below.refl _ _) | (with_reducible assumption) | (with_reducible refine Below.alloc ?_ ?_ _) | (with_reducible refine Below.setCell ?_ ?_ _) | (with_reducible refine below_row ?_ ?_ _) | (with_reducible refine Below.drew ?_) | (with_reducible refine below_drewN ?_ _) | (with_reducible refine Below.trans ?_ (Below.mono (by assumption) ?_)) | (first | exact Nat.le_refl _ | omega | (simp; done) | (simp; omega))))
  have HP_1 := Lib.hid (show Lies w1 _ 28 #[.int .i64 an, .int .i64 al, .int .i64 au] from (by first | exact (Lies.made w 28 #[.int .i64 an, .int .i64 al, .int .i64 au]).after hb1 | exact ((Lies.made w 28 #[.int .i64 an, .int .i64 al, .int .i64 au]).alloc _).after hb1 | exact (((Lies.made w 28 #[.int .i64 an, .int .i64 al, .int .i64 au]).alloc _).alloc _).after hb1))
  have HR_1 := Lib.hid (show Lies w1 _ 31 #[.int .i64 lo, .int .i64 hi] from (by first | exact (Lies.made (w.alloc (.cells #[.int .i64 an, .int .i64 al, .int .i64 au] 28)) 31 #[.int .i64 lo, .int .i64 hi]).after hb1 | exact ((Lies.made (w.alloc (.cells #[.int .i64 an, .int .i64 al, .int .i64 au] 28)) 31 #[.int .i64 lo, .int .i64 hi]).alloc _).after hb1 | exact (((Lies.made (w.alloc (.cells #[.int .i64 an, .int .i64 al, .int .i64 au] 28)) 31 #[.int .i64 lo, .int .i64 hi]).alloc _).alloc _).after hb1))
  have HQ_1 := Lib.hid (show Lies w1 _ 28 #[.int .i64 bn, .int .i64 bl, .int .i64 bu] from (by first | exact (Lies.made ((w.alloc (.cells #[.int .i64 an, .int .i64 al, .int .i64 au] 28)).alloc (.cells #[.int .i64 lo, .int .i64 hi] 31)) 28 #[.int .i64 bn, .int .i64 bl, .int .i64 bu]).after hb1 | exact ((Lies.made ((w.alloc (.cells #[.int .i64 an, .int .i64 al, .int .i64 au] 28)).alloc (.cells #[.int .i64 lo, .int .i64 hi] 31)) 28 #[.int .i64 bn, .int .i64 bl, .int .i64 bu]).alloc _).after hb1 | exact (((Lies.made ((w.alloc (.cells #[.int .i64 an, .int .i64 al, .int .i64 au] 28)).alloc (.cells #[.int .i64 lo, .int .i64 hi] 31)) 28 #[.int .i64 bn, .int .i64 bl, .int .i64 bu]).alloc _).alloc _).after hb1))
  have A1 : Below w.heap.size w w1 := B1
  clear hb1 B1
  simp only [World.size_alloc] at HQ_1 HR_1
  have qP0 := HP_1.out.cell 0
  have qP1 := HP_1.out.cell 1
  have qP2 := HP_1.out.cell 2
  have zP := HP_1.out.lt
  have qR0 := HR_1.out.cell 0
  have qR1 := HR_1.out.cell 1
  have zR := HR_1.out.lt
  have qQ0 := HQ_1.out.cell 0
  have qQ1 := HQ_1.out.cell 1
  have qQ2 := HQ_1.out.cell 2
  have zQ := HQ_1.out.lt
  go_wp2_with fail
  refine (HA.out _).mono ?_
  rintro _ w2 ⟨rfl, hb2⟩
  have s2 := hb2.size; try simp only [World.size_alloc, World.size_setCell, World.size_drew, setRow_size] at s2
  clear qP0 qP1 qP2 zP qR0 qR1 zR qQ0 qQ1 qQ2 zQ
  have B2 : Below w1.heap.size w1 w2 := by (repeat' (first | (with_reducible exact Below.refl _ _) | (with_reducible assumption) | (with_reducible refine Below.alloc ?_ ?_ _) | (with_reducible refine Below.setCell ?_ ?_ _) | (with_reducible refine below_row ?_ ?_ _) | (with_reducible refine Below.drew ?_) | (with_reducible refine below_drewN ?_ _) | (with_reducible refine Below.trans ?_ (Below.mono (by assumption) ?_)) | (first | exact Nat.le_refl _ | omega | (simp; done) | (simp; omega))))
  have HP_2 := Lib.hid (HP_1.out.after B2)
  have HR_2 := Lib.hid (HR_1.out.after B2)
  have HQ_2 := Lib.hid (HQ_1.out.after B2)
  clear HP_1 HR_1 HQ_1
  have A2 : Below w.heap.size w w2 := A1.trans (B2.mono A1.size)
  clear A1 hb2 B2
  go_wp2
  go_ret
  exact ⟨rfl, A2⟩
set_option maxHeartbeats 8000000 in
set_option maxRecDepth 100000 in
theorem roomy_b (an al au lo hi bn bl bu : Int) (w : World) (he : Env w) (h : okD an al au = true) (h' : okD bn bl bu = false) :
    Calls Tryd.prog 11 #[.agg #[.int .i64 an, .int .i64 al, .int .i64 au], .agg #[.int .i64 lo, .int .i64 hi], .agg #[.int .i64 bn, .int .i64 bl, .int .i64 bu]] w (Trues w) := by
  have HE := Lib.hid (fun W (hW : Below w.heap.size w W) => he.after hW)
  have HA := Lib.hid (fun W => h ▸ rDim_any an al au W)
  have HB := Lib.hid (fun W => h' ▸ rDim_any bn bl bu W)
  clear he h h'
  go_enter Tryd.func11, Tryd.ntmps11
  go_wp2_with fail
  refine (alive_any _ (HE.out _ (by (repeat' (first | (with_reducible exact Below.refl _ _) | (with_reducible assumption) | (with_reducible refine Below.alloc ?_ ?_ _) | (with_reducible refine Below.setCell ?_ ?_ _) | (with_reducible refine below_row ?_ ?_ _) | (with_reducible refine Below.drew ?_) | (with_reducible refine below_drewN ?_ _) | (with_reducible refine Below.trans ?_ (Below.mono (by assumption) ?_)) | (first | exact Nat.le_refl _ | omega | (simp; done) | (simp; omega))))))).mono ?_
  rintro _ w1 ⟨rfl, hb1⟩
  have s1 := hb1.size; try simp only [World.size_alloc, World.size_setCell, World.size_drew, setRow_size] at s1
  have B1 : Below w.heap.size w w1 := by (repeat' (first | (with_reducible exact Below.refl _ _) | (with_reducible assumption) | (with_reducible refine Below.alloc ?_ ?_ _) | (with_reducible refine Below.setCell ?_ ?_ _) | (with_reducible refine below_row ?_ ?_ _) | (with_reducible refine Below.drew ?_) | (with_reducible refine below_drewN ?_ _) | (with_reducible refine Below.trans ?_ (Below.mono (by assumption) ?_)) | (first | exact Nat.le_refl _ | omega | (simp; done) | (simp; omega))))
  have HP_1 := Lib.hid (show Lies w1 _ 28 #[.int .i64 an, .int .i64 al, .int .i64 au] from (by first | exact (Lies.made w 28 #[.int .i64 an, .int .i64 al, .int .i64 au]).after hb1 | exact ((Lies.made w 28 #[.int .i64 an, .int .i64 al, .int .i64 au]).alloc _).after hb1 | exact (((Lies.made w 28 #[.int .i64 an, .int .i64 al, .int .i64 au]).alloc _).alloc _).after hb1))
  have HR_1 := Lib.hid (show Lies w1 _ 31 #[.int .i64 lo, .int .i64 hi] from (by first | exact (Lies.made (w.alloc (.cells #[.int .i64 an, .int .i64 al, .int .i64 au] 28)) 31 #[.int .i64 lo, .int .i64 hi]).after hb1 | exact ((Lies.made (w.alloc (.cells #[.int .i64 an, .int .i64 al, .int .i64 au] 28)) 31 #[.int .i64 lo, .int .i64 hi]).alloc _).after hb1 | exact (((Lies.made (w.alloc (.cells #[.int .i64 an, .int .i64 al, .int .i64 au] 28)) 31 #[.int .i64 lo, .int .i64 hi]).alloc _).alloc _).after hb1))
  have HQ_1 := Lib.hid (show Lies w1 _ 28 #[.int .i64 bn, .int .i64 bl, .int .i64 bu] from (by first | exact (Lies.made ((w.alloc (.cells #[.int .i64 an, .int .i64 al, .int .i64 au] 28)).alloc (.cells #[.int .i64 lo, .int .i64 hi] 31)) 28 #[.int .i64 bn, .int .i64 bl, .int .i64 bu]).after hb1 | exact ((Lies.made ((w.alloc (.cells #[.int .i64 an, .int .i64 al, .int .i64 au] 28)).alloc (.cells #[.int .i64 lo, .int .i64 hi] 31)) 28 #[.int .i64 bn, .int .i64 bl, .int .i64 bu]).alloc _).after hb1 | exact (((Lies.made ((w.alloc (.cells #[.int .i64 an, .int .i64 al, .int .i64 au] 28)).alloc (.cells #[.int .i64 lo, .int .i64 hi] 31)) 28 #[.int .i64 bn, .int .i64 bl, .int .i64 bu]).alloc _).alloc _).after hb1))
  have A1 : Below w.heap.size w w1 := B1
  clear hb1 B1
  simp only [World.size_alloc] at HQ_1 HR_1
  have qP0 := HP_1.out.cell 0
  have qP1 := HP_1.out.cell 1
  have qP2 := HP_1.out.cell 2
  have zP := HP_1.out.lt
  have qR0 := HR_1.out.cell 0
  have qR1 := HR_1.out.cell 1
  have zR := HR_1.out.lt
  have qQ0 := HQ_1.out.cell 0
  have qQ1 := HQ_1.out.cell 1
  have qQ2 := HQ_1.out.cell 2
  have zQ := HQ_1.out.lt
  go_wp2_with fail
  refine (HA.out _).mono ?_
  rintro _ w2 ⟨rfl, hb2⟩
  have s2 := hb2.size; try simp only [World.size_alloc, World.size_setCell, World.size_drew, setRow_size] at s2
  clear qP0 qP1 qP2 zP qR0 qR1 zR qQ0 qQ1 qQ2 zQ
  have B2 : Below w1.heap.size w1 w2 := by (repeat' (first | (with_reducible exact Below.refl _ _) | (with_reducible assumption) | (with_reducible refine Below.alloc ?_ ?_ _) | (with_reducible refine Below.setCell ?_ ?_ _) | (with_reducible refine below_row ?_ ?_ _) | (with_reducible refine Below.drew ?_) | (with_reducible refine below_drewN ?_ _) | (with_reducible refine Below.trans ?_ (Below.mono (by assumption) ?_)) | (first | exact Nat.le_refl _ | omega | (simp; done) | (simp; omega))))
  have HP_2 := Lib.hid (HP_1.out.after B2)
  have HR_2 := Lib.hid (HR_1.out.after B2)
  have HQ_2 := Lib.hid (HQ_1.out.after B2)
  clear HP_1 HR_1 HQ_1
  have A2 : Below w.heap.size w w2 := A1.trans (B2.mono A1.size)
  clear A1 hb2 B2
  have qP0 := HP_2.out.cell 0
  have qP1 := HP_2.out.cell 1
  have qP2 := HP_2.out.cell 2
  have zP := HP_2.out.lt
  have qR0 := HR_2.out.cell 0
  have qR1 := HR_2.out.cell 1
  have zR := HR_2.out.lt
  have qQ0 := HQ_2.out.cell 0
  have qQ1 := HQ_2.out.cell 1
  have qQ2 := HQ_2.out.cell 2
  have zQ := HQ_2.out.lt
  go_wp2_with fail
  refine (HB.out _).mono ?_
  rintro _ w3 ⟨rfl, hb3⟩
  have s3 := hb3.size; try simp only [World.size_alloc, World.size_setCell, World.size_drew, setRow_size] at s3
  clear qP0 qP1 qP2 zP qR0 qR1 zR qQ0 qQ1 qQ2 zQ
  have B3 : Below w2.heap.size w2 w3 := by (repeat' (first | (with_reducible exact Below.refl _ _) | (with_reducible assumption) | (with_reducible refine Below.alloc ?_ ?_ _) | (with_reducible refine Below.setCell ?_ ?_ _) | (with_reducible refine below_row ?_ ?_ _) | (with_reducible refine Below.drew ?_) | (with_reducible refine below_drewN ?_ _) | (with_reducible refine Below.trans ?_ (Below.mono (by assumption) ?_)) | (first | exact Nat.le_refl _ | omega | (simp; done) | (simp; omega))))
  have HP_3 := Lib.hid (HP_2.out.after B3)
  have HR_3 := Lib.hid (HR_2.out.after B3)
  have HQ_3 := Lib.hid (HQ_2.out.after B3)
  clear HP_2 HR_2 HQ_2
  have A3 : Below w.heap.size w w3 := A2.trans (B3.mono A2.size)
  clear A2 hb3 B3
  go_wp2
  go_ret
  exact ⟨rfl, A3⟩
set_option maxHeartbeats 8000000 in
set_option maxRecDepth 100000 in
theorem roomy_w (an al au lo hi bn bl bu : Int) (w : World) (he : Env w) (h : okD an al au = true) (h' : okD bn bl bu = true) (hw : wantS lo hi = false) :
    Calls Tryd.prog 11 #[.agg #[.int .i64 an, .int .i64 al, .int .i64 au], .agg #[.int .i64 lo, .int .i64 hi], .agg #[.int .i64 bn, .int .i64 bl, .int .i64 bu]] w (Trues w) := by
  have HE := Lib.hid (fun W (hW : Below w.heap.size w W) => he.after hW)
  have HA := Lib.hid (fun W => h ▸ rDim_any an al au W)
  have HB := Lib.hid (fun W => h' ▸ rDim_any bn bl bu W)
  have HW := Lib.hid (fun W => hw ▸ rWanted_any lo hi W)
  clear he h h' hw
  go_enter Tryd.func11, Tryd.ntmps11
  go_wp2_with fail
  refine (alive_any _ (HE.out _ (by (repeat' (first | (with_reducible exact Below.refl _ _) | (with_reducible assumption) | (with_reducible refine Below.alloc ?_ ?_ _) | (with_reducible refine Below.setCell ?_ ?_ _) | (with_reducible refine below_row ?_ ?_ _) | (with_reducible refine Below.drew ?_) | (with_reducible refine below_drewN ?_ _) | (with_reducible refine Below.trans ?_ (Below.mono (by assumption) ?_)) | (first | exact Nat.le_refl _ | omega | (simp; done) | (simp; omega))))))).mono ?_
  rintro _ w1 ⟨rfl, hb1⟩
  have s1 := hb1.size; try simp only [World.size_alloc, World.size_setCell, World.size_drew, setRow_size] at s1
  have B1 : Below w.heap.size w w1 := by (repeat' (first | (with_reducible exact Below.refl _ _) | (with_reducible assumption) | (with_reducible refine Below.alloc ?_ ?_ _) | (with_reducible refine Below.setCell ?_ ?_ _) | (with_reducible refine below_row ?_ ?_ _) | (with_reducible refine Below.drew ?_) | (with_reducible refine below_drewN ?_ _) | (with_reducible refine Below.trans ?_ (Below.mono (by assumption) ?_)) | (first | exact Nat.le_refl _ | omega | (simp; done) | (simp; omega))))
  have HP_1 := Lib.hid (show Lies w1 _ 28 #[.int .i64 an, .int .i64 al, .int .i64 au] from (by first | exact (Lies.made w 28 #[.int .i64 an, .int .i64 al, .int .i64 au]).after hb1 | exact ((Lies.made w 28 #[.int .i64 an, .int .i64 al, .int .i64 au]).alloc _).after hb1 | exact (((Lies.made w 28 #[.int .i64 an, .int .i64 al, .int .i64 au]).alloc _).alloc _).after hb1))
  have HR_1 := Lib.hid (show Lies w1 _ 31 #[.int .i64 lo, .int .i64 hi] from (by first | exact (Lies.made (w.alloc (.cells #[.int .i64 an, .int .i64 al, .int .i64 au] 28)) 31 #[.int .i64 lo, .int .i64 hi]).after hb1 | exact ((Lies.made (w.alloc (.cells #[.int .i64 an, .int .i64 al, .int .i64 au] 28)) 31 #[.int .i64 lo, .int .i64 hi]).alloc _).after hb1 | exact (((Lies.made (w.alloc (.cells #[.int .i64 an, .int .i64 al, .int .i64 au] 28)) 31 #[.int .i64 lo, .int .i64 hi]).alloc _).alloc _).after hb1))
  have HQ_1 := Lib.hid (show Lies w1 _ 28 #[.int .i64 bn, .int .i64 bl, .int .i64 bu] from (by first | exact (Lies.made ((w.alloc (.cells #[.int .i64 an, .int .i64 al, .int .i64 au] 28)).alloc (.cells #[.int .i64 lo, .int .i64 hi] 31)) 28 #[.int .i64 bn, .int .i64 bl, .int .i64 bu]).after hb1 | exact ((Lies.made ((w.alloc (.cells #[.int .i64 an, .int .i64 al, .int .i64 au] 28)).alloc (.cells #[.int .i64 lo, .int .i64 hi] 31)) 28 #[.int .i64 bn, .int .i64 bl, .int .i64 bu]).alloc _).after hb1 | exact (((Lies.made ((w.alloc (.cells #[.int .i64 an, .int .i64 al, .int .i64 au] 28)).alloc (.cells #[.int .i64 lo, .int .i64 hi] 31)) 28 #[.int .i64 bn, .int .i64 bl, .int .i64 bu]).alloc _).alloc _).after hb1))
  have A1 : Below w.heap.size w w1 := B1
  clear hb1 B1
  simp only [World.size_alloc] at HQ_1 HR_1
  have qP0 := HP_1.out.cell 0
  have qP1 := HP_1.out.cell 1
  have qP2 := HP_1.out.cell 2
  have zP := HP_1.out.lt
  have qR0 := HR_1.out.cell 0
  have qR1 := HR_1.out.cell 1
  have zR := HR_1.out.lt
  have qQ0 := HQ_1.out.cell 0
  have qQ1 := HQ_1.out.cell 1
  have qQ2 := HQ_1.out.cell 2
  have zQ := HQ_1.out.lt
  go_wp2_with fail
  refine (HA.out _).mono ?_
  rintro _ w2 ⟨rfl, hb2⟩
  have s2 := hb2.size; try simp only [World.size_alloc, World.size_setCell, World.size_drew, setRow_size] at s2
  clear qP0 qP1 qP2 zP qR0 qR1 zR qQ0 qQ1 qQ2 zQ
  have B2 : Below w1.heap.size w1 w2 := by (repeat' (first | (with_reducible exact Below.refl _ _) | (with_reducible assumption) | (with_reducible refine Below.alloc ?_ ?_ _) | (with_reducible refine Below.setCell ?_ ?_ _) | (with_reducible refine below_row ?_ ?_ _) | (with_reducible refine Below.drew ?_) | (with_reducible refine below_drewN ?_ _) | (with_reducible refine Below.trans ?_ (Below.mono (by assumption) ?_)) | (first | exact Nat.le_refl _ | omega | (simp; done) | (simp; omega))))
  have HP_2 := Lib.hid (HP_1.out.after B2)
  have HR_2 := Lib.hid (HR_1.out.after B2)
  have HQ_2 := Lib.hid (HQ_1.out.after B2)
  clear HP_1 HR_1 HQ_1
  have A2 : Below w.heap.size w w2 := A1.trans (B2.mono A1.size)
  clear A1 hb2 B2
  have qP0 := HP_2.out.cell 0
  have qP1 := HP_2.out.cell 1
  have qP2 := HP_2.out.cell 2
  have zP := HP_2.out.lt
  have qR0 := HR_2.out.cell 0
  have qR1 := HR_2.out.cell 1
  have zR := HR_2.out.lt
  have qQ0 := HQ_2.out.cell 0
  have qQ1 := HQ_2.out.cell 1
  have qQ2 := HQ_2.out.cell 2
  have zQ := HQ_2.out.lt
  go_wp2_with fail
  refine (HB.out _).mono ?_
  rintro _ w3 ⟨rfl, hb3⟩
  have s3 := hb3.size; try simp only [World.size_alloc, World.size_setCell, World.size_drew, setRow_size] at s3
  clear qP0 qP1 qP2 zP qR0 qR1 zR qQ0 qQ1 qQ2 zQ
  have B3 : Below w2.heap.size w2 w3 := by (repeat' (first | (with_reducible exact Below.refl _ _) | (with_reducible assumption) | (with_reducible refine Below.alloc ?_ ?_ _) | (with_reducible refine Below.setCell ?_ ?_ _) | (with_reducible refine below_row ?_ ?_ _) | (with_reducible refine Below.drew ?_) | (with_reducible refine below_drewN ?_ _) | (with_reducible refine Below.trans ?_ (Below.mono (by assumption) ?_)) | (first | exact Nat.le_refl _ | omega | (simp; done) | (simp; omega))))
  have HP_3 := Lib.hid (HP_2.out.after B3)
  have HR_3 := Lib.hid (HR_2.out.after B3)
  have HQ_3 := Lib.hid (HQ_2.out.after B3)
  clear HP_2 HR_2 HQ_2
  have A3 : Below w.heap.size w w3 := A2.trans (B3.mono A2.size)
  clear A2 hb3 B3
  have qP0 := HP_3.out.cell 0
  have qP1 := HP_3.out.cell 1
  have qP2 := HP_3.out.cell 2
  have zP := HP_3.out.lt
  have qR0 := HR_3.out.cell 0
  have qR1 := HR_3.out.cell 1
  have zR := HR_3.out.lt
  have qQ0 := HQ_3.out.cell 0
  have qQ1 := HQ_3.out.cell 1
  have qQ2 := HQ_3.out.cell 2
  have zQ := HQ_3.out.lt
  go_wp2_with fail
  refine (HW.out _).mono ?_
  rintro _ w4 ⟨rfl, hb4⟩
  have s4 := hb4.size; try simp only [World.size_alloc, World.size_setCell, World.size_drew, setRow_size] at s4
  clear qP0 qP1 qP2 zP qR0 qR1 zR qQ0 qQ1 qQ2 zQ
  have B4 : Below w3.heap.size w3 w4 := by (repeat' (first | (with_reducible exact Below.refl _ _) | (with_reducible assumption) | (with_reducible refine Below.alloc ?_ ?_ _) | (with_reducible refine Below.setCell ?_ ?_ _) | (with_reducible refine below_row ?_ ?_ _) | (with_reducible refine Below.drew ?_) | (with_reducible refine below_drewN ?_ _) | (with_reducible refine Below.trans ?_ (Below.mono (by assumption) ?_)) | (first | exact Nat.le_refl _ | omega | (simp; done) | (simp; omega))))
  have HP_4 := Lib.hid (HP_3.out.after B4)
  have HR_4 := Lib.hid (HR_3.out.after B4)
  have HQ_4 := Lib.hid (HQ_3.out.after B4)
  clear HP_3 HR_3 HQ_3
  have A4 : Below w.heap.size w w4 := A3.trans (B4.mono A3.size)
  clear A3 hb4 B4
  go_wp2
  go_ret
  exact ⟨rfl, A4⟩
set_option maxHeartbeats 8000000 in
set_option maxRecDepth 100000 in
theorem roomy_none (an al au lo hi bn bl bu : Int) (w : World) (he : Env w) (h : okD an al au = true) (h' : okD bn bl bu = true) (hw : wantS lo hi = true) (hn : roomHi al lo < roomLo au hi) :
    Calls Tryd.prog 11 #[.agg #[.int .i64 an, .int .i64 al, .int .i64 au], .agg #[.int .i64 lo, .int .i64 hi], .agg #[.int .i64 bn, .int .i64 bl, .int .i64 bu]] w (Trues w) := by
  have HE := Lib.hid (fun W (hW : Below w.heap.size w W) => he.after hW)
  have HA := Lib.hid (fun W => h ▸ rDim_any an al au W)
  have HB := Lib.hid (fun W => h' ▸ rDim_any bn bl bu W)
  have HW := Lib.hid (fun W => hw ▸ rWanted_any lo hi W)
  have HO := Lib.hid (fun W => Room_none an al au lo hi W h hw hn)
  have HF := Lib.hid (fun W => Fit_ok an al au bn bl bu W (bad2_iff.2 ⟨h, h'⟩))
  obtain ⟨a1, a2, a3, a4, a5⟩ := okD_iff.1 h
  obtain ⟨c1, c2, c3, c4, c5⟩ := okD_iff.1 h'
  obtain ⟨g1, g2, g3⟩ : -1000000000 ≤ lo ∧ lo ≤ hi ∧ hi ≤ 1000000000 := by simpa [wantS] using hw
  have hc : al - bu < lo ∨ (lo ≤ al - bu ∧ hi < au - bl) := by
    unfold roomHi roomLo at hn
    by_cases e : al - bu < lo
    · exact .inl e
    · refine .inr ⟨by omega, ?_⟩
      split at hn <;> split at hn <;> omega
  clear he h h' hw hn
  generalize kindS (al - bu) (au - bl) = K at *
  go_enter Tryd.func11, Tryd.ntmps11
  go_wp2_with fail
  refine (alive_any _ (HE.out _ (by (repeat' (first | (with_reducible exact Below.refl _ _) | (with_reducible assumption) | (with_reducible refine Below.alloc ?_ ?_ _) | (with_reducible refine Below.setCell ?_ ?_ _) | (with_reducible refine below_row ?_ ?_ _) | (with_reducible refine Below.drew ?_) | (with_reducible refine below_drewN ?_ _) | (with_reducible refine Below.trans ?_ (Below.mono (by assumption) ?_)) | (first | exact Nat.le_refl _ | omega | (simp; done) | (simp; omega))))))).mono ?_
  rintro _ w1 ⟨rfl, hb1⟩
  have s1 := hb1.size; try simp only [World.size_alloc, World.size_setCell, World.size_drew, setRow_size] at s1
  have B1 : Below w.heap.size w w1 := by (repeat' (first | (with_reducible exact Below.refl _ _) | (with_reducible assumption) | (with_reducible refine Below.alloc ?_ ?_ _) | (with_reducible refine Below.setCell ?_ ?_ _) | (with_reducible refine below_row ?_ ?_ _) | (with_reducible refine Below.drew ?_) | (with_reducible refine below_drewN ?_ _) | (with_reducible refine Below.trans ?_ (Below.mono (by assumption) ?_)) | (first | exact Nat.le_refl _ | omega | (simp; done) | (simp; omega))))
  have HP_1 := Lib.hid (show Lies w1 _ 28 #[.int .i64 an, .int .i64 al, .int .i64 au] from (by first | exact (Lies.made w 28 #[.int .i64 an, .int .i64 al, .int .i64 au]).after hb1 | exact ((Lies.made w 28 #[.int .i64 an, .int .i64 al, .int .i64 au]).alloc _).after hb1 | exact (((Lies.made w 28 #[.int .i64 an, .int .i64 al, .int .i64 au]).alloc _).alloc _).after hb1))
  have HR_1 := Lib.hid (show Lies w1 _ 31 #[.int .i64 lo, .int .i64 hi] from (by first | exact (Lies.made (w.alloc (.cells #[.int .i64 an, .int .i64 al, .int .i64 au] 28)) 31 #[.int .i64 lo, .int .i64 hi]).after hb1 | exact ((Lies.made (w.alloc (.cells #[.int .i64 an, .int .i64 al, .int .i64 au] 28)) 31 #[.int .i64 lo, .int .i64 hi]).alloc _).after hb1 | exact (((Lies.made (w.alloc (.cells #[.int .i64 an, .int .i64 al, .int .i64 au] 28)) 31 #[.int .i64 lo, .int .i64 hi]).alloc _).alloc _).after hb1))
  have HQ_1 := Lib.hid (show Lies w1 _ 28 #[.int .i64 bn, .int .i64 bl, .int .i64 bu] from (by first | exact (Lies.made ((w.alloc (.cells #[.int .i64 an, .int .i64 al, .int .i64 au] 28)).alloc (.cells #[.int .i64 lo, .int .i64 hi] 31)) 28 #[.int .i64 bn, .int .i64 bl, .int .i64 bu]).after hb1 | exact ((Lies.made ((w.alloc (.cells #[.int .i64 an, .int .i64 al, .int .i64 au] 28)).alloc (.cells #[.int .i64 lo, .int .i64 hi] 31)) 28 #[.int .i64 bn, .int .i64 bl, .int .i64 bu]).alloc _).after hb1 | exact (((Lies.made ((w.alloc (.cells #[.int .i64 an, .int .i64 al, .int .i64 au] 28)).alloc (.cells #[.int .i64 lo, .int .i64 hi] 31)) 28 #[.int .i64 bn, .int .i64 bl, .int .i64 bu]).alloc _).alloc _).after hb1))
  have A1 : Below w.heap.size w w1 := B1
  clear hb1 B1
  simp only [World.size_alloc] at HQ_1 HR_1
  have qP0 := HP_1.out.cell 0
  have qP1 := HP_1.out.cell 1
  have qP2 := HP_1.out.cell 2
  have zP := HP_1.out.lt
  have qR0 := HR_1.out.cell 0
  have qR1 := HR_1.out.cell 1
  have zR := HR_1.out.lt
  have qQ0 := HQ_1.out.cell 0
  have qQ1 := HQ_1.out.cell 1
  have qQ2 := HQ_1.out.cell 2
  have zQ := HQ_1.out.lt
  go_wp2_with fail
  refine (HA.out _).mono ?_
  rintro _ w2 ⟨rfl, hb2⟩
  have s2 := hb2.size; try simp only [World.size_alloc, World.size_setCell, World.size_drew, setRow_size] at s2
  clear qP0 qP1 qP2 zP qR0 qR1 zR qQ0 qQ1 qQ2 zQ
  have B2 : Below w1.heap.size w1 w2 := by (repeat' (first | (with_reducible exact Below.refl _ _) | (with_reducible assumption) | (with_reducible refine Below.alloc ?_ ?_ _) | (with_reducible refine Below.setCell ?_ ?_ _) | (with_reducible refine below_row ?_ ?_ _) | (with_reducible refine Below.drew ?_) | (with_reducible refine below_drewN ?_ _) | (with_reducible refine Below.trans ?_ (Below.mono (by assumption) ?_)) | (first | exact Nat.le_refl _ | omega | (simp; done) | (simp; omega))))
  have HP_2 := Lib.hid (HP_1.out.after B2)
  have HR_2 := Lib.hid (HR_1.out.after B2)
  have HQ_2 := Lib.hid (HQ_1.out.after B2)
  clear HP_1 HR_1 HQ_1
  have A2 : Below w.heap.size w w2 := A1.trans (B2.mono A1.size)
  clear A1 hb2 B2
  have qP0 := HP_2.out.cell 0
  have qP1 := HP_2.out.cell 1
  have qP2 := HP_2.out.cell 2
  have zP := HP_2.out.lt
  have qR0 := HR_2.out.cell 0
  have qR1 := HR_2.out.cell 1
  have zR := HR_2.out.lt
  have qQ0 := HQ_2.out.cell 0
  have qQ1 := HQ_2.out.cell 1
  have qQ2 := HQ_2.out.cell 2
  have zQ := HQ_2.out.lt
  go_wp2_with fail
  refine (HB.out _).mono ?_
  rintro _ w3 ⟨rfl, hb3⟩
  have s3 := hb3.size; try simp only [World.size_alloc, World.size_setCell, World.size_drew, setRow_size] at s3
  clear qP0 qP1 qP2 zP qR0 qR1 zR qQ0 qQ1 qQ2 zQ
  have B3 : Below w2.heap.size w2 w3 := by (repeat' (first | (with_reducible exact Below.refl _ _) | (with_reducible assumption) | (with_reducible refine Below.alloc ?_ ?_ _) | (with_reducible refine Below.setCell ?_ ?_ _) | (with_reducible refine below_row ?_ ?_ _) | (with_reducible refine Below.drew ?_) | (with_reducible refine below_drewN ?_ _) | (with_reducible refine Below.trans ?_ (Below.mono (by assumption) ?_)) | (first | exact Nat.le_refl _ | omega | (simp; done) | (simp; omega))))
  have HP_3 := Lib.hid (HP_2.out.after B3)
  have HR_3 := Lib.hid (HR_2.out.after B3)
  have HQ_3 := Lib.hid (HQ_2.out.after B3)
  clear HP_2 HR_2 HQ_2
  have A3 : Below w.heap.size w w3 := A2.trans (B3.mono A2.size)
  clear A2 hb3 B3
  have qP0 := HP_3.out.cell 0
  have qP1 := HP_3.out.cell 1
  have qP2 := HP_3.out.cell 2
  have zP := HP_3.out.lt
  have qR0 := HR_3.out.cell 0
  have qR1 := HR_3.out.cell 1
  have zR := HR_3.out.lt
  have qQ0 := HQ_3.out.cell 0
  have qQ1 := HQ_3.out.cell 1
  have qQ2 := HQ_3.out.cell 2
  have zQ := HQ_3.out.lt
  go_wp2_with fail
  refine (HW.out _).mono ?_
  rintro _ w4 ⟨rfl, hb4⟩
  have s4 := hb4.size; try simp only [World.size_alloc, World.size_setCell, World.size_drew, setRow_size] at s4
  clear qP0 qP1 qP2 zP qR0 qR1 zR qQ0 qQ1 qQ2 zQ
  have B4 : Below w3.heap.size w3 w4 := by (repeat' (first | (with_reducible exact Below.refl _ _) | (with_reducible assumption) | (with_reducible refine Below.alloc ?_ ?_ _) | (with_reducible refine Below.setCell ?_ ?_ _) | (with_reducible refine below_row ?_ ?_ _) | (with_reducible refine Below.drew ?_) | (with_reducible refine below_drewN ?_ _) | (with_reducible refine Below.trans ?_ (Below.mono (by assumption) ?_)) | (first | exact Nat.le_refl _ | omega | (simp; done) | (simp; omega))))
  have HP_4 := Lib.hid (HP_3.out.after B4)
  have HR_4 := Lib.hid (HR_3.out.after B4)
  have HQ_4 := Lib.hid (HQ_3.out.after B4)
  clear HP_3 HR_3 HQ_3
  have A4 : Below w.heap.size w w4 := A3.trans (B4.mono A3.size)
  clear A3 hb4 B4
  have qP0 := HP_4.out.cell 0
  have qP1 := HP_4.out.cell 1
  have qP2 := HP_4.out.cell 2
  have zP := HP_4.out.lt
  have qR0 := HR_4.out.cell 0
  have qR1 := HR_4.out.cell 1
  have zR := HR_4.out.lt
  have qQ0 := HQ_4.out.cell 0
  have qQ1 := HQ_4.out.cell 1
  have qQ2 := HQ_4.out.cell 2
  have zQ := HQ_4.out.lt
  go_wp2_with fail
  refine (HO.out _).mono ?_
  rintro _ w5 ⟨rfl, hb5⟩
  have s5 := hb5.size; try simp only [World.size_alloc, World.size_setCell, World.size_drew, setRow_size] at s5
  clear qP0 qP1 qP2 zP qR0 qR1 zR qQ0 qQ1 qQ2 zQ
  have B5 : Below w4.heap.size w4 w5 := by (repeat' (first | (with_reducible exact Below.refl _ _) | (with_reducible assumption) | (with_reducible refine Below.alloc ?_ ?_ _) | (with_reducible refine Below.setCell ?_ ?_ _) | (with_reducible refine below_row ?_ ?_ _) | (with_reducible refine Below.drew ?_) | (with_reducible refine below_drewN ?_ _) | (with_reducible refine Below.trans ?_ (Below.mono (by assumption) ?_)) | (first | exact Nat.le_refl _ | omega | (simp; done) | (simp; omega))))
  have HP_5 := Lib.hid (HP_4.out.after B5)
  have HR_5 := Lib.hid (HR_4.out.after B5)
  have HQ_5 := Lib.hid (HQ_4.out.after B5)
  clear HP_4 HR_4 HQ_4
  have A5 : Below w.heap.size w w5 := A4.trans (B5.mono A4.size)
  clear A4 hb5 B5
  have qP0 := HP_5.out.cell 0
  have qP1 := HP_5.out.cell 1
  have qP2 := HP_5.out.cell 2
  have zP := HP_5.out.lt
  have qR0 := HR_5.out.cell 0
  have qR1 := HR_5.out.cell 1
  have zR := HR_5.out.lt
  have qQ0 := HQ_5.out.cell 0
  have qQ1 := HQ_5.out.cell 1
  have qQ2 := HQ_5.out.cell 2
  have zQ := HQ_5.out.lt
  go_wp2_with fail
  refine (HF.out _).mono ?_
  rintro _ w6 ⟨rfl, hb6⟩
  have s6 := hb6.size; try simp only [World.size_alloc, World.size_setCell, World.size_drew, setRow_size] at s6
  clear qP0 qP1 qP2 zP qR0 qR1 zR qQ0 qQ1 qQ2 zQ
  have B6 : Below w5.heap.size w5 w6 := by (repeat' (first | (with_reducible exact Below.refl _ _) | (with_reducible assumption) | (with_reducible refine Below.alloc ?_ ?_ _) | (with_reducible refine Below.setCell ?_ ?_ _) | (with_reducible refine below_row ?_ ?_ _) | (with_reducible refine Below.drew ?_) | (with_reducible refine below_drewN ?_ _) | (with_reducible refine Below.trans ?_ (Below.mono (by assumption) ?_)) | (first | exact Nat.le_refl _ | omega | (simp; done) | (simp; omega))))
  have HP_6 := Lib.hid (HP_5.out.after B6)
  have HR_6 := Lib.hid (HR_5.out.after B6)
  have HQ_6 := Lib.hid (HQ_5.out.after B6)
  have HX_6 := Lib.hid (show Lies w6 _ 28 #[.int .i64 0, .int .i64 0, .int .i64 0] from (by first | exact (Lies.made w5 28 #[.int .i64 0, .int .i64 0, .int .i64 0]).after hb6 | exact ((Lies.made w5 28 #[.int .i64 0, .int .i64 0, .int .i64 0]).alloc _).after hb6 | exact (((Lies.made w5 28 #[.int .i64 0, .int .i64 0, .int .i64 0]).alloc _).alloc _).after hb6))
  clear HP_5 HR_5 HQ_5
  have A6 : Below w.heap.size w w6 := A5.trans (B6.mono A5.size)
  clear A5 hb6 B6
  have qP0 := HP_6.out.cell 0
  have qP1 := HP_6.out.cell 1
  have qP2 := HP_6.out.cell 2
  have qR0 := HR_6.out.cell 0
  have qR1 := HR_6.out.cell 1
  have qQ0 := HQ_6.out.cell 0
  have qQ1 := HQ_6.out.cell 1
  have qQ2 := HQ_6.out.cell 2
  have qX0 := HX_6.out.cell 0
  have qX1 := HX_6.out.cell 1
  have qX2 := HX_6.out.cell 2
  have zP := HP_6.out.lt
  have zR := HR_6.out.lt
  have zQ := HQ_6.out.lt
  have zX := HX_6.out.lt
  rcases hc with f1 | ⟨f1, f2⟩
  case' inl => have d1 : decide (lo ≤ al - bu) = false := decide_eq_false (by omega)
  case' inr => have d1 : decide (lo ≤ al - bu) = true := decide_eq_true f1
  case' inr => have d2 : decide (au - bl ≤ hi) = false := decide_eq_false (by omega)
  all_goals
    go_wp2
    go_ret
    exact ⟨rfl, by (repeat' (first | (with_reducible exact Below.refl _ _) | (with_reducible assumption) | (with_reducible refine Below.alloc ?_ ?_ _) | (with_reducible refine Below.setCell ?_ ?_ _) | (with_reducible refine below_row ?_ ?_ _) | (with_reducible refine Below.drew ?_) | (with_reducible refine below_drewN ?_ _) | (with_reducible refine Below.trans ?_ (Below.mono (by assumption) ?_)) | (first | exact Nat.le_refl _ | omega | (simp; done) | (simp; omega))))⟩
set_option maxHeartbeats 8000000 in
set_option maxRecDepth 100000 in
theorem roomy_some (an al au lo hi bn bl bu : Int) (w : World) (he : Env w) (h : okD an al au = true) (h' : okD bn bl bu = true) (hw : wantS lo hi = true) (hn : ¬ roomHi al lo < roomLo au hi) :
    Calls Tryd.prog 11 #[.agg #[.int .i64 an, .int .i64 al, .int .i64 au], .agg #[.int .i64 lo, .int .i64 hi], .agg #[.int .i64 bn, .int .i64 bl, .int .i64 bu]] w (Trues w) := by
  have HE := Lib.hid (fun W (hW : Below w.heap.size w W) => he.after hW)
  have HA := Lib.hid (fun W => h ▸ rDim_any an al au W)
  have HB := Lib.hid (fun W => h' ▸ rDim_any bn bl bu W)
  have HW := Lib.hid (fun W => hw ▸ rWanted_any lo hi W)
  have HO := Lib.hid (fun W => Room_fits an al au lo hi W h hw hn)
  have HF := Lib.hid (fun W => Fit_ok an al au bn bl bu W (bad2_iff.2 ⟨h, h'⟩))
  obtain ⟨a1, a2, a3, a4, a5⟩ := okD_iff.1 h
  obtain ⟨c1, c2, c3, c4, c5⟩ := okD_iff.1 h'
  obtain ⟨g1, g2, g3⟩ : -1000000000 ≤ lo ∧ lo ≤ hi ∧ hi ≤ 1000000000 := by simpa [wantS] using hw
  have hx : 0 ≤ roomLo au hi ∧ au - hi ≤ roomLo au hi ∧ (roomLo au hi = 0 ∨ roomLo au hi = au - hi) ∧ roomHi al lo ≤ 1000000000 ∧ roomHi al lo ≤ al - lo ∧ (roomHi al lo = 1000000000 ∨ roomHi al lo = al - lo) := by
    unfold roomHi roomLo
    split <;> split <;> omega
  generalize roomLo au hi = xl at *
  generalize roomHi al lo = xu at *
  obtain ⟨x1, x2, x3, x4, x5, x6⟩ := hx
  have hxl : xl ≤ xu := by omega
  have hX : okD an xl xu = true := okD_iff.2 ⟨a1, a2, x1, hxl, x4⟩
  have HI := Lib.hid (fun W => Inside_ok bn bl bu an xl xu W (bad2_iff.2 ⟨h', hX⟩))
  have HG := Lib.hid (fun W => Fit_ok an al au an xl xu W (bad2_iff.2 ⟨h, hX⟩))
  have hc : (al - bu < lo ∧ allIn xl xu [bl, bu] = false) ∨ (lo ≤ al - bu ∧ hi < au - bl ∧ allIn xl xu [bl, bu] = false) ∨ (lo ≤ al - bu ∧ au - bl ≤ hi ∧ allIn xl xu [bl, bu] = true) := by
    by_cases e1 : al - bu < lo
    · refine .inl ⟨e1, ?_⟩
      rw [← Bool.not_eq_true]; simp only [allIn, List.all_cons, List.all_nil, Bool.and_true, Bool.and_eq_true, decide_eq_true_eq]; omega
    · by_cases e2 : hi < au - bl
      · refine .inr (.inl ⟨by omega, e2, ?_⟩)
        rw [← Bool.not_eq_true]; simp only [allIn, List.all_cons, List.all_nil, Bool.and_true, Bool.and_eq_true, decide_eq_true_eq]; omega
      · refine .inr (.inr ⟨by omega, by omega, ?_⟩)
        simp only [allIn, List.all_cons, List.all_nil, Bool.and_true, Bool.and_eq_true, decide_eq_true_eq]; omega
  have t1 : lo ≤ al - xu := by omega
  have t2 : au - xl ≤ hi := by omega
  clear he h h' hw hn hX
  generalize kindS (al - bu) (au - bl) = K at *
  generalize kindS (al - xu) (au - xl) = M at *
  generalize allIn xl xu [bl, bu] = In at *
  go_enter Tryd.func11, Tryd.ntmps11
  go_wp2_with fail
  refine (alive_any _ (HE.out _ (by (repeat' (first | (with_reducible exact Below.refl _ _) | (with_reducible assumption) | (with_reducible refine Below.alloc ?_ ?_ _) | (with_reducible refine Below.setCell ?_ ?_ _) | (with_reducible refine below_row ?_ ?_ _) | (with_reducible refine Below.drew ?_) | (with_reducible refine below_drewN ?_ _) | (with_reducible refine Below.trans ?_ (Below.mono (by assumption) ?_)) | (first | exact Nat.le_refl _ | omega | (simp; done) | (simp; omega))))))).mono ?_
  rintro _ w1 ⟨rfl, hb1⟩
  have s1 := hb1.size; try simp only [World.size_alloc, World.size_setCell, World.size_drew, setRow_size] at s1
  have B1 : Below w.heap.size w w1 := by (repeat' (first | (with_reducible exact Below.refl _ _) | (with_reducible assumption) | (with_reducible refine Below.alloc ?_ ?_ _) | (with_reducible refine Below.setCell ?_ ?_ _) | (with_reducible refine below_row ?_ ?_ _) | (with_reducible refine Below.drew ?_) | (with_reducible refine below_drewN ?_ _) | (with_reducible refine Below.trans ?_ (Below.mono (by assumption) ?_)) | (first | exact Nat.le_refl _ | omega | (simp; done) | (simp; omega))))
  have HP_1 := Lib.hid (show Lies w1 _ 28 #[.int .i64 an, .int .i64 al, .int .i64 au] from (by first | exact (Lies.made w 28 #[.int .i64 an, .int .i64 al, .int .i64 au]).after hb1 | exact ((Lies.made w 28 #[.int .i64 an, .int .i64 al, .int .i64 au]).alloc _).after hb1 | exact (((Lies.made w 28 #[.int .i64 an, .int .i64 al, .int .i64 au]).alloc _).alloc _).after hb1))
  have HR_1 := Lib.hid (show Lies w1 _ 31 #[.int .i64 lo, .int .i64 hi] from (by first | exact (Lies.made (w.alloc (.cells #[.int .i64 an, .int .i64 al, .int .i64 au] 28)) 31 #[.int .i64 lo, .int .i64 hi]).after hb1 | exact ((Lies.made (w.alloc (.cells #[.int .i64 an, .int .i64 al, .int .i64 au] 28)) 31 #[.int .i64 lo, .int .i64 hi]).alloc _).after hb1 | exact (((Lies.made (w.alloc (.cells #[.int .i64 an, .int .i64 al, .int .i64 au] 28)) 31 #[.int .i64 lo, .int .i64 hi]).alloc _).alloc _).after hb1))
  have HQ_1 := Lib.hid (show Lies w1 _ 28 #[.int .i64 bn, .int .i64 bl, .int .i64 bu] from (by first | exact (Lies.made ((w.alloc (.cells #[.int .i64 an, .int .i64 al, .int .i64 au] 28)).alloc (.cells #[.int .i64 lo, .int .i64 hi] 31)) 28 #[.int .i64 bn, .int .i64 bl, .int .i64 bu]).after hb1 | exact ((Lies.made ((w.alloc (.cells #[.int .i64 an, .int .i64 al, .int .i64 au] 28)).alloc (.cells #[.int .i64 lo, .int .i64 hi] 31)) 28 #[.int .i64 bn, .int .i64 bl, .int .i64 bu]).alloc _).after hb1 | exact (((Lies.made ((w.alloc (.cells #[.int .i64 an, .int .i64 al, .int .i64 au] 28)).alloc (.cells #[.int .i64 lo, .int .i64 hi] 31)) 28 #[.int .i64 bn, .int .i64 bl, .int .i64 bu]).alloc _).alloc _).after hb1))
  have A1 : Below w.heap.size w w1 := B1
  clear hb1 B1
  simp only [World.size_alloc] at HQ_1 HR_1
  have qP0 := HP_1.out.cell 0
  have qP1 := HP_1.out.cell 1
  have qP2 := HP_1.out.cell 2
  have zP := HP_1.out.lt
  have qR0 := HR_1.out.cell 0
  have qR1 := HR_1.out.cell 1
  have zR := HR_1.out.lt
  have qQ0 := HQ_1.out.cell 0
  have qQ1 := HQ_1.out.cell 1
  have qQ2 := HQ_1.out.cell 2
  have zQ := HQ_1.out.lt
  go_wp2_with fail
  refine (HA.out _).mono ?_
  rintro _ w2 ⟨rfl, hb2⟩
  have s2 := hb2.size; try simp only [World.size_alloc, World.size_setCell, World.size_drew, setRow_size] at s2
  clear qP0 qP1 qP2 zP qR0 qR1 zR qQ0 qQ1 qQ2 zQ
  have B2 : Below w1.heap.size w1 w2 := by (repeat' (first | (with_reducible exact Below.refl _ _) | (with_reducible assumption) | (with_reducible refine Below.alloc ?_ ?_ _) | (with_reducible refine Below.setCell ?_ ?_ _) | (with_reducible refine below_row ?_ ?_ _) | (with_reducible refine Below.drew ?_) | (with_reducible refine below_drewN ?_ _) | (with_reducible refine Below.trans ?_ (Below.mono (by assumption) ?_)) | (first | exact Nat.le_refl _ | omega | (simp; done) | (simp; omega))))
  have HP_2 := Lib.hid (HP_1.out.after B2)
  have HR_2 := Lib.hid (HR_1.out.after B2)
  have HQ_2 := Lib.hid (HQ_1.out.after B2)
  clear HP_1 HR_1 HQ_1
  have A2 : Below w.heap.size w w2 := A1.trans (B2.mono A1.size)
  clear A1 hb2 B2
  have qP0 := HP_2.out.cell 0
  have qP1 := HP_2.out.cell 1
  have qP2 := HP_2.out.cell 2
  have zP := HP_2.out.lt
  have qR0 := HR_2.out.cell 0
  have qR1 := HR_2.out.cell 1
  have zR := HR_2.out.lt
  have qQ0 := HQ_2.out.cell 0
  have qQ1 := HQ_2.out.cell 1
  have qQ2 := HQ_2.out.cell 2
  have zQ := HQ_2.out.lt
  go_wp2_with fail
  refine (HB.out _).mono ?_
  rintro _ w3 ⟨rfl, hb3⟩
  have s3 := hb3.size; try simp only [World.size_alloc, World.size_setCell, World.size_drew, setRow_size] at s3
  clear qP0 qP1 qP2 zP qR0 qR1 zR qQ0 qQ1 qQ2 zQ
  have B3 : Below w2.heap.size w2 w3 := by (repeat' (first | (with_reducible exact Below.refl _ _) | (with_reducible assumption) | (with_reducible refine Below.alloc ?_ ?_ _) | (with_reducible refine Below.setCell ?_ ?_ _) | (with_reducible refine below_row ?_ ?_ _) | (with_reducible refine Below.drew ?_) | (with_reducible refine below_drewN ?_ _) | (with_reducible refine Below.trans ?_ (Below.mono (by assumption) ?_)) | (first | exact Nat.le_refl _ | omega | (simp; done) | (simp; omega))))
  have HP_3 := Lib.hid (HP_2.out.after B3)
  have HR_3 := Lib.hid (HR_2.out.after B3)
  have HQ_3 := Lib.hid (HQ_2.out.after B3)
  clear HP_2 HR_2 HQ_2
  have A3 : Below w.heap.size w w3 := A2.trans (B3.mono A2.size)
  clear A2 hb3 B3
  have qP0 := HP_3.out.cell 0
  have qP1 := HP_3.out.cell 1
  have qP2 := HP_3.out.cell 2
  have zP := HP_3.out.lt
  have qR0 := HR_3.out.cell 0
  have qR1 := HR_3.out.cell 1
  have zR := HR_3.out.lt
  have qQ0 := HQ_3.out.cell 0
  have qQ1 := HQ_3.out.cell 1
  have qQ2 := HQ_3.out.cell 2
  have zQ := HQ_3.out.lt
  go_wp2_with fail
  refine (HW.out _).mono ?_
  rintro _ w4 ⟨rfl, hb4⟩
  have s4 := hb4.size; try simp only [World.size_alloc, World.size_setCell, World.size_drew, setRow_size] at s4
  clear qP0 qP1 qP2 zP qR0 qR1 zR qQ0 qQ1 qQ2 zQ
  have B4 : Below w3.heap.size w3 w4 := by (repeat' (first | (with_reducible exact Below.refl _ _) | (with_reducible assumption) | (with_reducible refine Below.alloc ?_ ?_ _) | (with_reducible refine Below.setCell ?_ ?_ _) | (with_reducible refine below_row ?_ ?_ _) | (with_reducible refine Below.drew ?_) | (with_reducible refine below_drewN ?_ _) | (with_reducible refine Below.trans ?_ (Below.mono (by assumption) ?_)) | (first | exact Nat.le_refl _ | omega | (simp; done) | (simp; omega))))
  have HP_4 := Lib.hid (HP_3.out.after B4)
  have HR_4 := Lib.hid (HR_3.out.after B4)
  have HQ_4 := Lib.hid (HQ_3.out.after B4)
  clear HP_3 HR_3 HQ_3
  have A4 : Below w.heap.size w w4 := A3.trans (B4.mono A3.size)
  clear A3 hb4 B4
  have qP0 := HP_4.out.cell 0
  have qP1 := HP_4.out.cell 1
  have qP2 := HP_4.out.cell 2
  have zP := HP_4.out.lt
  have qR0 := HR_4.out.cell 0
  have qR1 := HR_4.out.cell 1
  have zR := HR_4.out.lt
  have qQ0 := HQ_4.out.cell 0
  have qQ1 := HQ_4.out.cell 1
  have qQ2 := HQ_4.out.cell 2
  have zQ := HQ_4.out.lt
  go_wp2_with fail
  refine (HO.out _).mono ?_
  rintro _ w5 ⟨rfl, hb5⟩
  have s5 := hb5.size; try simp only [World.size_alloc, World.size_setCell, World.size_drew, setRow_size] at s5
  clear qP0 qP1 qP2 zP qR0 qR1 zR qQ0 qQ1 qQ2 zQ
  have B5 : Below w4.heap.size w4 w5 := by (repeat' (first | (with_reducible exact Below.refl _ _) | (with_reducible assumption) | (with_reducible refine Below.alloc ?_ ?_ _) | (with_reducible refine Below.setCell ?_ ?_ _) | (with_reducible refine below_row ?_ ?_ _) | (with_reducible refine Below.drew ?_) | (with_reducible refine below_drewN ?_ _) | (with_reducible refine Below.trans ?_ (Below.mono (by assumption) ?_)) | (first | exact Nat.le_refl _ | omega | (simp; done) | (simp; omega))))
  have HP_5 := Lib.hid (HP_4.out.after B5)
  have HR_5 := Lib.hid (HR_4.out.after B5)
  have HQ_5 := Lib.hid (HQ_4.out.after B5)
  clear HP_4 HR_4 HQ_4
  have A5 : Below w.heap.size w w5 := A4.trans (B5.mono A4.size)
  clear A4 hb5 B5
  have qP0 := HP_5.out.cell 0
  have qP1 := HP_5.out.cell 1
  have qP2 := HP_5.out.cell 2
  have zP := HP_5.out.lt
  have qR0 := HR_5.out.cell 0
  have qR1 := HR_5.out.cell 1
  have zR := HR_5.out.lt
  have qQ0 := HQ_5.out.cell 0
  have qQ1 := HQ_5.out.cell 1
  have qQ2 := HQ_5.out.cell 2
  have zQ := HQ_5.out.lt
  go_wp2_with fail
  refine (HF.out _).mono ?_
  rintro _ w6 ⟨rfl, hb6⟩
  have s6 := hb6.size; try simp only [World.size_alloc, World.size_setCell, World.size_drew, setRow_size] at s6
  clear qP0 qP1 qP2 zP qR0 qR1 zR qQ0 qQ1 qQ2 zQ
  have B6 : Below w5.heap.size w5 w6 := by (repeat' (first | (with_reducible exact Below.refl _ _) | (with_reducible assumption) | (with_reducible refine Below.alloc ?_ ?_ _) | (with_reducible refine Below.setCell ?_ ?_ _) | (with_reducible refine below_row ?_ ?_ _) | (with_reducible refine Below.drew ?_) | (with_reducible refine below_drewN ?_ _) | (with_reducible refine Below.trans ?_ (Below.mono (by assumption) ?_)) | (first | exact Nat.le_refl _ | omega | (simp; done) | (simp; omega))))
  have HP_6 := Lib.hid (HP_5.out.after B6)
  have HR_6 := Lib.hid (HR_5.out.after B6)
  have HQ_6 := Lib.hid (HQ_5.out.after B6)
  have HX_6 := Lib.hid (show Lies w6 _ 28 #[.int .i64 an, .int .i64 xl, .int .i64 xu] from (by first | exact (Lies.made w5 28 #[.int .i64 an, .int .i64 xl, .int .i64 xu]).after hb6 | exact ((Lies.made w5 28 #[.int .i64 an, .int .i64 xl, .int .i64 xu]).alloc _).after hb6 | exact (((Lies.made w5 28 #[.int .i64 an, .int .i64 xl, .int .i64 xu]).alloc _).alloc _).after hb6))
  clear HP_5 HR_5 HQ_5
  have A6 : Below w.heap.size w w6 := A5.trans (B6.mono A5.size)
  clear A5 hb6 B6
  have t1d : decide (lo ≤ al - xu) = true := decide_eq_true t1
  have t2d : decide (au - xl ≤ hi) = true := decide_eq_true t2
  rcases hc with ⟨f1, rfl⟩ | ⟨f1, f2, rfl⟩ | ⟨f1, f2, rfl⟩
  case' inl => have d1 : decide (lo ≤ al - bu) = false := decide_eq_false (by omega)
  case' inr.inl => have d1 : decide (lo ≤ al - bu) = true := decide_eq_true f1
  case' inr.inl => have d2 : decide (au - bl ≤ hi) = false := decide_eq_false (by omega)
  case' inr.inr => have d1 : decide (lo ≤ al - bu) = true := decide_eq_true f1
  case' inr.inr => have d2 : decide (au - bl ≤ hi) = true := decide_eq_true f2
  all_goals
    have qP0 := HP_6.out.cell 0
    have qP1 := HP_6.out.cell 1
    have qP2 := HP_6.out.cell 2
    have zP := HP_6.out.lt
    have qR0 := HR_6.out.cell 0
    have qR1 := HR_6.out.cell 1
    have zR := HR_6.out.lt
    have qQ0 := HQ_6.out.cell 0
    have qQ1 := HQ_6.out.cell 1
    have qQ2 := HQ_6.out.cell 2
    have zQ := HQ_6.out.lt
    have qX0 := HX_6.out.cell 0
    have qX1 := HX_6.out.cell 1
    have qX2 := HX_6.out.cell 2
    have zX := HX_6.out.lt
    go_wp2_with fail
    refine (HI.out _).mono ?_
    rintro _ w7 ⟨rfl, hb7⟩
    have s7 := hb7.size; try simp only [World.size_alloc, World.size_setCell, World.size_drew, setRow_size] at s7
    clear qP0 qP1 qP2 zP qR0 qR1 zR qQ0 qQ1 qQ2 zQ qX0 qX1 qX2 zX
    have B7 : Below w6.heap.size w6 w7 := by (repeat' (first | (with_reducible exact Below.refl _ _) | (with_reducible assumption) | (with_reducible refine Below.alloc ?_ ?_ _) | (with_reducible refine Below.setCell ?_ ?_ _) | (with_reducible refine below_row ?_ ?_ _) | (with_reducible refine Below.drew ?_) | (with_reducible refine below_drewN ?_ _) | (with_reducible refine Below.trans ?_ (Below.mono (by assumption) ?_)) | (first | exact Nat.le_refl _ | omega | (simp; done) | (simp; omega))))
    have HP_7 := Lib.hid (HP_6.out.after B7)
    have HR_7 := Lib.hid (HR_6.out.after B7)
    have HQ_7 := Lib.hid (HQ_6.out.after B7)
    have HX_7 := Lib.hid (HX_6.out.after B7)
    have HS_7 := Lib.hid (show Lies w7 _ 31 #[.int .i64 (al - bu), .int .i64 (au - bl)] from (by first | exact (Lies.made w6 31 #[.int .i64 (al - bu), .int .i64 (au - bl)]).after hb7 | exact ((Lies.made w6 31 #[.int .i64 (al - bu), .int .i64 (au - bl)]).alloc _).after hb7 | exact (((Lies.made w6 31 #[.int .i64 (al - bu), .int .i64 (au - bl)]).alloc _).alloc _).after hb7))
    clear HP_6 HR_6 HQ_6 HX_6
    have A7 : Below w.heap.size w w7 := A6.trans (B7.mono A6.size)
    clear A6 hb7 B7
    have qP0 := HP_7.out.cell 0
    have qP1 := HP_7.out.cell 1
    have qP2 := HP_7.out.cell 2
    have zP := HP_7.out.lt
    have qR0 := HR_7.out.cell 0
    have qR1 := HR_7.out.cell 1
    have zR := HR_7.out.lt
    have qQ0 := HQ_7.out.cell 0
    have qQ1 := HQ_7.out.cell 1
    have qQ2 := HQ_7.out.cell 2
    have zQ := HQ_7.out.lt
    have qX0 := HX_7.out.cell 0
    have qX1 := HX_7.out.cell 1
    have qX2 := HX_7.out.cell 2
    have zX := HX_7.out.lt
    have qS0 := HS_7.out.cell 0
    have qS1 := HS_7.out.cell 1
    have zS := HS_7.out.lt
    go_wp2_with fail
    refine (HG.out _).mono ?_
    rintro _ w8 ⟨rfl, hb8⟩
    have s8 := hb8.size; try simp only [World.size_alloc, World.size_setCell, World.size_drew, setRow_size] at s8
    clear qP0 qP1 qP2 zP qR0 qR1 zR qQ0 qQ1 qQ2 zQ qX0 qX1 qX2 zX qS0 qS1 zS
    have B8 : Below w7.heap.size w7 w8 := by (repeat' (first | (with_reducible exact Below.refl _ _) | (with_reducible assumption) | (with_reducible refine Below.alloc ?_ ?_ _) | (with_reducible refine Below.setCell ?_ ?_ _) | (with_reducible refine below_row ?_ ?_ _) | (with_reducible refine Below.drew ?_) | (with_reducible refine below_drewN ?_ _) | (with_reducible refine Below.trans ?_ (Below.mono (by assumption) ?_)) | (first | exact Nat.le_refl _ | omega | (simp; done) | (simp; omega))))
    have HP_8 := Lib.hid (HP_7.out.after B8)
    have HR_8 := Lib.hid (HR_7.out.after B8)
    have HQ_8 := Lib.hid (HQ_7.out.after B8)
    have HX_8 := Lib.hid (HX_7.out.after B8)
    have HS_8 := Lib.hid (HS_7.out.after B8)
    clear HP_7 HR_7 HQ_7 HX_7 HS_7
    have A8 : Below w.heap.size w w8 := A7.trans (B8.mono A7.size)
    clear A7 hb8 B8
    have qP0 := HP_8.out.cell 0
    have qP1 := HP_8.out.cell 1
    have qP2 := HP_8.out.cell 2
    have qR0 := HR_8.out.cell 0
    have qR1 := HR_8.out.cell 1
    have qQ0 := HQ_8.out.cell 0
    have qQ1 := HQ_8.out.cell 1
    have qQ2 := HQ_8.out.cell 2
    have qX0 := HX_8.out.cell 0
    have qX1 := HX_8.out.cell 1
    have qX2 := HX_8.out.cell 2
    have qS0 := HS_8.out.cell 0
    have qS1 := HS_8.out.cell 1
    have zP := HP_8.out.lt
    have zR := HR_8.out.lt
    have zQ := HQ_8.out.lt
    have zX := HX_8.out.lt
    have zS := HS_8.out.lt
    go_wp2
    go_ret
    exact ⟨rfl, by (repeat' (first | (with_reducible exact Below.refl _ _) | (with_reducible assumption) | (with_reducible refine Below.alloc ?_ ?_ _) | (with_reducible refine Below.setCell ?_ ?_ _) | (with_reducible refine below_row ?_ ?_ _) | (with_reducible refine Below.drew ?_) | (with_reducible refine below_drewN ?_ _) | (with_reducible refine Below.trans ?_ (Below.mono (by assumption) ?_)) | (first | exact Nat.le_refl _ | omega | (simp; done) | (simp; omega))))⟩
theorem roomy_any (an al au lo hi bn bl bu : Int) (w : World) (he : Env w) : Calls Tryd.prog 11 #[.agg #[.int .i64 an, .int .i64 al, .int .i64 au], .agg #[.int .i64 lo, .int .i64 hi], .agg #[.int .i64 bn, .int .i64 bl, .int .i64 bu]] w (Trues w) := by
  cases h : okD an al au
  · exact roomy_a an al au lo hi bn bl bu w he h
  · cases h' : okD bn bl bu
    · exact roomy_b an al au lo hi bn bl bu w he h h'
    · cases hw : wantS lo hi
      · exact roomy_w an al au lo hi bn bl bu w he h h' hw
      · by_cases hn : roomHi al lo < roomLo au hi
        · exact roomy_none an al au lo hi bn bl bu w he h h' hw hn
        · exact roomy_some an al au lo hi bn bl bu w he h h' hw hn
end Go.Proofs.YtldjkdomklgmaaaDoor
