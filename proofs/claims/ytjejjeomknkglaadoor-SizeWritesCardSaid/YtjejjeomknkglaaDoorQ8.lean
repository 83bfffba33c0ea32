/- The law SizeWrites: the walk. -/
import Derived.Test.YtjejjeomknkglaaDoorQ7
import Derived.Test.YtjejjeomknkglaaDoorE0
namespace Go.Proofs.YtjejjeomknkglaaDoor
set_option linter.unusedVariables false
set_option linter.unusedSimpArgs false
open Go.RowKit

def checkR (n l u : Int) : Int := bif okD n l u then 0 else 10
theorem Check_b (n l u : Int) (w : World) : Calls Tryd.prog 11 #[.agg #[.int .i64 n, .int .i64 l, .int .i64 u]] w fun e w' => e = .returned (.int .i64 (checkR n l u)) ∧ Below w.heap.size w w' := by
  unfold checkR
  cases h : okD n l u
  · exact Check_no n l u w h
  · exact Check_ok n l u w h
theorem rCheck_any (n l u : Int) (w : World) : Calls Tryd.prog 12 #[.agg #[.int .i64 n, .int .i64 l, .int .i64 u]] w fun e w' => e = .returned (.int .i64 (checkR n l u)) ∧ Below w.heap.size w w' := by
  have HD := Lib.hid (fun W => rDim_any n l u W)
  unfold checkR
  generalize okD n l u = o at *
  cases o
  all_goals
    go_enter Tryd.func12, Tryd.ntmps12
    go_wp2_with fail
    refine (HD.out _).mono ?_
    rintro e w1 ⟨rfl, hb1⟩
    have s1 := hb1.size; try simp only [World.size_alloc, World.size_setCell, World.size_drew, setRow_size] at s1
    go_wp2_with fail
    go_ret
    exact ⟨rfl, by (repeat' (first | (with_reducible exact Below.refl _ _) | (with_reducible assumption) | (with_reducible refine Below.alloc ?_ ?_ _) | (with_reducible refine Below.setCell ?_ ?_ _) | (with_reducible refine below_row ?_ ?_ _) | (with_reducible refine Below.drew ?_) | (with_reducible refine below_drewN ?_ _) | (with_reducible refine Below.trans ?_ (Below.mono (by assumption) ?_)) | (first | exact Nat.le_refl _ | omega | (simp; done) | (simp; omega))))⟩
def TruesW (w : World) (e : Ending) (w' : World) : Prop := e = .returned (.bool true) ∧ Below w.heap.size w w'
set_option maxRecDepth 100000 in
theorem rwrites_long (n l u b : Int) (s : ByteArray) (w : World) (h : (200 : Int) < (s.size : Int)) :
    Calls Tryd.prog 3 #[.agg #[.int .i64 n, .int .i64 l, .int .i64 u], .int .u8 b, .string s] w (TruesW w) := by
  go_enter Tryd.func3, Tryd.ntmps3
  go_wp2
  go_ret
  exact ⟨rfl, by (repeat' (first | (with_reducible exact Below.refl _ _) | (with_reducible assumption) | (with_reducible refine Below.alloc ?_ ?_ _) | (with_reducible refine Below.setCell ?_ ?_ _) | (with_reducible refine below_row ?_ ?_ _) | (with_reducible refine Below.drew ?_) | (with_reducible refine below_drewN ?_ _) | (with_reducible refine Below.trans ?_ (Below.mono (by assumption) ?_)) | (first | exact Nat.le_refl _ | omega | (simp; done) | (simp; omega))))⟩
set_option maxHeartbeats 8000000 in
set_option maxRecDepth 100000 in
theorem rwrites_go (n l u b : Int) (s : ByteArray) (w : World) (he : Env w) (hs : (s.size : Int) ≤ 200) :
    Calls Tryd.prog 3 #[.agg #[.int .i64 n, .int .i64 l, .int .i64 u], .int .u8 b, .string s] w (TruesW w) := by
  have HE := Lib.hid (fun W (hW : Below w.heap.size w W) => he.after hW)
  have HX1 := Lib.hid (fun W => Exact_any n l u W)
  have HX2 := Lib.hid (fun W => rExact_any n l u W)
  have HW1 : Hid (∀ W, Below w.heap.size w W → Calls Tryd.prog 7 #[.agg #[.int .i64 n, .int .i64 l, .int .i64 u], .int .u8 b] W (Wrote (writeS b n l u) W)) := Lib.hid (fun W hW => Write_any b n l u W (HE.out W hW))
  have HW2 := Lib.hid (fun W => rWrite_any b n l u W)
  have HR1 : Hid (∀ W, Below w.heap.size w W → Calls Tryd.prog 9 #[.string s] W (DidRead (readS s) W)) := Lib.hid (fun W hW => Read_any s W (HE.out W hW) (by omega))
  have HR2 := Lib.hid (fun W => rRead_any s W)
  have HC1 := Lib.hid (fun W => Check_b n l u W)
  have HC2 := Lib.hid (fun W => rCheck_any n l u W)
  unfold DidRead at HR1 HR2
  unfold Wrote at HW1 HW2
  have hs' : ¬ (200 : Int) < (s.size : Int) := by omega
  clear he HE
  generalize (exactR n l u).1 = a1 at *
  generalize (exactR n l u).2 = a2 at *
  generalize (writeS b n l u).2 = b2 at *
  generalize bs (writeS b n l u).1 = b1 at *
  generalize (readR (readS s)).1.1 = x0 at *
  generalize (readR (readS s)).1.2.1 = x1 at *
  generalize (readR (readS s)).1.2.2 = x2 at *
  generalize (readR (readS s)).2.1 = m at *
  generalize (readR (readS s)).2.2 = j at *
  generalize checkR n l u = c at *
  go_enter Tryd.func3, Tryd.ntmps3
  go_wp2_with fail
  refine (HX1.out _).mono ?_
  rintro _ w1 ⟨rfl, hb1⟩
  have s1 := hb1.size; try simp only [World.size_alloc, World.size_setCell, World.size_drew, setRow_size] at s1
  have B1 : Below w.heap.size w w1 := by (repeat' (first | (with_reducible exact Below.refl _ _) | (with_reducible assumption) | (with_reducible refine Below.alloc ?_ ?_ _) | (with_reducible refine Below.setCell ?_ ?_ _) | (with_reducible refine below_row ?_ ?_ _) | (with_reducible refine Below.drew ?_) | (with_reducible refine below_drewN ?_ _) | (with_reducible refine Below.trans ?_ (Below.mono (by assumption) ?_)) | (first | exact Nat.le_refl _ | omega | (simp; done) | (simp; omega))))
  have HP_1 := Lib.hid (show Lies w1 _ 23 #[.int .i64 n, .int .i64 l, .int .i64 u] from (by first | exact (Lies.made w 23 #[.int .i64 n, .int .i64 l, .int .i64 u]).after hb1 | exact ((Lies.made w 23 #[.int .i64 n, .int .i64 l, .int .i64 u]).alloc _).after hb1 | exact (((Lies.made w 23 #[.int .i64 n, .int .i64 l, .int .i64 u]).alloc _).alloc _).after hb1))
  have A1 : Below w.heap.size w w1 := B1
  clear hb1 B1
  have qP0 := HP_1.out.cell 0
  have qP1 := HP_1.out.cell 1
  have qP2 := HP_1.out.cell 2
  have zP := HP_1.out.lt
  go_wp2_with fail
  refine (HX2.out _).mono ?_
  rintro _ w2 ⟨rfl, hb2⟩
  have s2 := hb2.size; try simp only [World.size_alloc, World.size_setCell, World.size_drew, setRow_size] at s2
  clear qP0 qP1 qP2 zP
  have B2 : Below w1.heap.size w1 w2 := by (repeat' (first | (with_reducible exact Below.refl _ _) | (with_reducible assumption) | (with_reducible refine Below.alloc ?_ ?_ _) | (with_reducible refine Below.setCell ?_ ?_ _) | (with_reducible refine below_row ?_ ?_ _) | (with_reducible refine Below.drew ?_) | (with_reducible refine below_drewN ?_ _) | (with_reducible refine Below.trans ?_ (Below.mono (by assumption) ?_)) | (first | exact Nat.le_refl _ | omega | (simp; done) | (simp; omega))))
  have HP_2 := Lib.hid (HP_1.out.after B2)
  clear HP_1
  have A2 : Below w.heap.size w w2 := A1.trans (B2.mono A1.size)
  clear A1 hb2 B2
  have qP0 := HP_2.out.cell 0
  have qP1 := HP_2.out.cell 1
  have qP2 := HP_2.out.cell 2
  have zP := HP_2.out.lt
  go_wp2_with fail
  refine (HW1.out _ A2).mono ?_
  rintro _ w3 ⟨rfl, hb3⟩
  have s3 := hb3.size; try simp only [World.size_alloc, World.size_setCell, World.size_drew, setRow_size] at s3
  clear qP0 qP1 qP2 zP
  have B3 : Below w2.heap.size w2 w3 := by (repeat' (first | (with_reducible exact Below.refl _ _) | (with_reducible assumption) | (with_reducible refine Below.alloc ?_ ?_ _) | (with_reducible refine Below.setCell ?_ ?_ _) | (with_reducible refine below_row ?_ ?_ _) | (with_reducible refine Below.drew ?_) | (with_reducible refine below_drewN ?_ _) | (with_reducible refine Below.trans ?_ (Below.mono (by assumption) ?_)) | (first | exact Nat.le_refl _ | omega | (simp; done) | (simp; omega))))
  have HP_3 := Lib.hid (HP_2.out.after B3)
  clear HP_2
  have A3 : Below w.heap.size w w3 := A2.trans (B3.mono A2.size)
  clear A2 hb3 B3
  have qP0 := HP_3.out.cell 0
  have qP1 := HP_3.out.cell 1
  have qP2 := HP_3.out.cell 2
  have zP := HP_3.out.lt
  go_wp2_with fail
  refine (HW2.out _).mono ?_
  rintro _ w4 ⟨rfl, hb4⟩
  have s4 := hb4.size; try simp only [World.size_alloc, World.size_setCell, World.size_drew, setRow_size] at s4
  clear qP0 qP1 qP2 zP
  have B4 : Below w3.heap.size w3 w4 := by (repeat' (first | (with_reducible exact Below.refl _ _) | (with_reducible assumption) | (with_reducible refine Below.alloc ?_ ?_ _) | (with_reducible refine Below.setCell ?_ ?_ _) | (with_reducible refine below_row ?_ ?_ _) | (with_reducible refine Below.drew ?_) | (with_reducible refine below_drewN ?_ _) | (with_reducible refine Below.trans ?_ (Below.mono (by assumption) ?_)) | (first | exact Nat.le_refl _ | omega | (simp; done) | (simp; omega))))
  have HP_4 := Lib.hid (HP_3.out.after B4)
  clear HP_3
  have A4 : Below w.heap.size w w4 := A3.trans (B4.mono A3.size)
  clear A3 hb4 B4
  go_wp2_with fail
  refine (HR1.out _ A4).mono ?_
  rintro _ w5 ⟨rfl, hb5⟩
  have s5 := hb5.size; try simp only [World.size_alloc, World.size_setCell, World.size_drew, setRow_size] at s5
  have B5 : Below w4.heap.size w4 w5 := by (repeat' (first | (with_reducible exact Below.refl _ _) | (with_reducible assumption) | (with_reducible refine Below.alloc ?_ ?_ _) | (with_reducible refine Below.setCell ?_ ?_ _) | (with_reducible refine below_row ?_ ?_ _) | (with_reducible refine Below.drew ?_) | (with_reducible refine below_drewN ?_ _) | (with_reducible refine Below.trans ?_ (Below.mono (by assumption) ?_)) | (first | exact Nat.le_refl _ | omega | (simp; done) | (simp; omega))))
  have HP_5 := Lib.hid (HP_4.out.after B5)
  clear HP_4
  have A5 : Below w.heap.size w w5 := A4.trans (B5.mono A4.size)
  clear A4 hb5 B5
  go_wp2_with fail
  refine (HR2.out _).mono ?_
  rintro _ w6 ⟨rfl, hb6⟩
  have s6 := hb6.size; try simp only [World.size_alloc, World.size_setCell, World.size_drew, setRow_size] at s6
  have B6 : Below w5.heap.size w5 w6 := by (repeat' (first | (with_reducible exact Below.refl _ _) | (with_reducible assumption) | (with_reducible refine Below.alloc ?_ ?_ _) | (with_reducible refine Below.setCell ?_ ?_ _) | (with_reducible refine below_row ?_ ?_ _) | (with_reducible refine Below.drew ?_) | (with_reducible refine below_drewN ?_ _) | (with_reducible refine Below.trans ?_ (Below.mono (by assumption) ?_)) | (first | exact Nat.le_refl _ | omega | (simp; done) | (simp; omega))))
  have HP_6 := Lib.hid (HP_5.out.after B6)
  have HX_6 := Lib.hid (show Lies w6 _ 23 #[.int .i64 x0, .int .i64 x1, .int .i64 x2] from (by first | exact (Lies.made w5 23 #[.int .i64 x0, .int .i64 x1, .int .i64 x2]).after hb6 | exact ((Lies.made w5 23 #[.int .i64 x0, .int .i64 x1, .int .i64 x2]).alloc _).after hb6 | exact (((Lies.made w5 23 #[.int .i64 x0, .int .i64 x1, .int .i64 x2]).alloc _).alloc _).after hb6))
  clear HP_5
  have A6 : Below w.heap.size w w6 := A5.trans (B6.mono A5.size)
  clear A5 hb6 B6
  obtain ⟨w7, hw7, HP, HX, HY, A7, z7⟩ : ∃ w7, w6.alloc (.cells #[.int .i64 x0, .int .i64 x1, .int .i64 x2] 23) = w7 ∧ Hid (Lies w7 w.heap.size 23 #[.int .i64 n, .int .i64 l, .int .i64 u]) ∧ Hid (Lies w7 w5.heap.size 23 #[.int .i64 x0, .int .i64 x1, .int .i64 x2]) ∧ Hid (Lies w7 w6.heap.size 23 #[.int .i64 x0, .int .i64 x1, .int .i64 x2]) ∧ Below w.heap.size w w7 ∧ w.heap.size ≤ w7.heap.size :=
    ⟨_, rfl, Lib.hid (HP_6.out.alloc _), Lib.hid (HX_6.out.alloc _), Lib.hid (Lies.made w6 23 #[.int .i64 x0, .int .i64 x1, .int .i64 x2]), A6.alloc (by have := A6.size; omega) _, by have := A6.size; rw [World.size_alloc]; omega⟩
  clear HP_6 HX_6 A6
  have hq : ∀ W, (binOp .eql 23 (.agg #[.int .i64 x0, .int .i64 x1, .int .i64 x2]) (.agg #[.int .i64 x0, .int .i64 x1, .int .i64 x2])).run Tryd.prog W = .ok (.bool true) W := fun W => by rw [eqD]; simp
  obtain ⟨p0, p1, p2, -, -, -⟩ := HP.out.c3
  obtain ⟨q0, q1, q2, -, -, -⟩ := HX.out.c3
  obtain ⟨r0, r1, r2, -, -, -⟩ := HY.out.c3
  go_wp2_with fail
  try rw [hw7]
  clear hw7
  generalize w5.heap.size = gx at *
  generalize w6.heap.size = gy at *
  go_region_held3 (fun W => W.cell? ⟨w.heap.size, 0, none⟩ = some (.int .i64 n) ∧ W.cell? ⟨w.heap.size, 1, none⟩ = some (.int .i64 l) ∧ W.cell? ⟨w.heap.size, 2, none⟩ = some (.int .i64 u) ∧ W.cell? ⟨gx, 0, none⟩ = some (.int .i64 x0) ∧ W.cell? ⟨gx, 1, none⟩ = some (.int .i64 x1) ∧ W.cell? ⟨gx, 2, none⟩ = some (.int .i64 x2) ∧ W.cell? ⟨gy, 0, none⟩ = some (.int .i64 x0) ∧ W.cell? ⟨gy, 1, none⟩ = some (.int .i64 x1) ∧ W.cell? ⟨gy, 2, none⟩ = some (.int .i64 x2)) (go_keep)
      (first | (go_at_call 11; refine (HC1.out _).mono ?_; rintro e w8 ⟨rfl, hb8⟩; have A8 : Below w7.heap.size w7 w8 := Below.trans (below_drewN (Below.refl _ _) _) hb8; have LP := HP.out.after A8; have LX := HX.out.after A8; have LY := HY.out.after A8; have c0 := LP.cell 0; have c1 := LP.cell 1; have c2 := LP.cell 2; have d0 := LX.cell 0; have d1 := LX.cell 1; have d2 := LX.cell 2; have e0 := LY.cell 0; have e1 := LY.cell 1; have e2 := LY.cell 2; clear LP LX LY) | (go_at_call 12; refine (HC2.out _).mono ?_; rintro e w9 ⟨rfl, hb9⟩; have A9 : Below w7.heap.size w7 w9 := Below.trans (by assumption) (hb9.mono (Below.size (B := w7.heap.size) (by assumption))); have LP := HP.out.after A9; have LX := HX.out.after A9; have LY := HY.out.after A9; have c0 := LP.cell 0; have c1 := LP.cell 1; have c2 := LP.cell 2; have d0 := LX.cell 0; have d1 := LX.cell 1; have d2 := LX.cell 2; have e0 := LY.cell 0; have e1 := LY.cell 1; have e2 := LY.cell 2; clear LP LX LY))
  all_goals
    go_wp2
    go_ret
    exact ⟨rfl, A7.trans (A9.mono z7)⟩
theorem rwrites_any (n l u b : Int) (s : ByteArray) (w : World) (he : Env w) : Calls Tryd.prog 3 #[.agg #[.int .i64 n, .int .i64 l, .int .i64 u], .int .u8 b, .string s] w (TruesW w) := by
  by_cases h : (200 : Int) < (s.size : Int)
  · exact rwrites_long n l u b s w h
  · exact rwrites_go n l u b s w he (by omega)
end Go.Proofs.YtjejjeomknkglaaDoor
