/- The law SizeRead: the walk. -/
import Derived.Test.YtldjkdomklgmaaaDoorF11
import Derived.Test.YtldjkdomklgmaaaDoorU3
namespace Go.Proofs.YtldjkdomklgmaaaDoor
set_option linter.unusedVariables false
set_option linter.unusedSimpArgs false
open Go.RowKit

set_option maxHeartbeats 8000000 in
set_option maxRecDepth 100000 in
theorem rread_long (n l u b : Int) (s : ByteArray) (w : World) (he : Env w) (x0 : 0 ≤ b) (x1 : b ≤ 255) (h : (200 : Int) < (s.size : Int)) :
    Calls Tryd.prog 8 #[.agg #[.int .i64 n, .int .i64 l, .int .i64 u], .int .u8 b, .string s] w (Trues w) := by
  have HE := Lib.hid (fun W (hW : Below w.heap.size w W) => he.after hW)
  clear he x0 x1
  go_enter Tryd.func8, Tryd.ntmps8
  go_wp2_with fail
  refine (alive_any _ (HE.out _ (by (repeat' (first | (with_reducible exact Below.refl _ _) | (with_reducible assumption) | (with_reducible refine Below.alloc ?_ ?_ _) | (with_reducible refine Below.setCell ?_ ?_ _) | (with_reducible refine below_row ?_ ?_ _) | (with_reducible refine Below.drew ?_) | (with_reducible refine below_drewN ?_ _) | (with_reducible refine Below.trans ?_ (Below.mono (by assumption) ?_)) | (first | exact Nat.le_refl _ | omega | (simp; done) | (simp; omega))))))).mono ?_
  rintro _ w1 ⟨rfl, hb1⟩
  have s1 := hb1.size; try simp only [World.size_alloc, World.size_setCell, World.size_drew, setRow_size] at s1
  have B1 : Below w.heap.size w w1 := by (repeat' (first | (with_reducible exact Below.refl _ _) | (with_reducible assumption) | (with_reducible refine Below.alloc ?_ ?_ _) | (with_reducible refine Below.setCell ?_ ?_ _) | (with_reducible refine below_row ?_ ?_ _) | (with_reducible refine Below.drew ?_) | (with_reducible refine below_drewN ?_ _) | (with_reducible refine Below.trans ?_ (Below.mono (by assumption) ?_)) | (first | exact Nat.le_refl _ | omega | (simp; done) | (simp; omega))))
  have HP_1 := Lib.hid (show Lies w1 _ 28 #[.int .i64 n, .int .i64 l, .int .i64 u] from (by first | exact (Lies.made w 28 #[.int .i64 n, .int .i64 l, .int .i64 u]).after hb1 | exact ((Lies.made w 28 #[.int .i64 n, .int .i64 l, .int .i64 u]).alloc _).after hb1 | exact (((Lies.made w 28 #[.int .i64 n, .int .i64 l, .int .i64 u]).alloc _).alloc _).after hb1))
  have A1 : Below w.heap.size w w1 := B1
  clear hb1 B1
  go_wp2
  go_ret
  exact ⟨rfl, by (repeat' (first | (with_reducible exact Below.refl _ _) | (with_reducible assumption) | (with_reducible refine Below.alloc ?_ ?_ _) | (with_reducible refine Below.setCell ?_ ?_ _) | (with_reducible refine below_row ?_ ?_ _) | (with_reducible refine Below.drew ?_) | (with_reducible refine below_drewN ?_ _) | (with_reducible refine Below.trans ?_ (Below.mono (by assumption) ?_)) | (first | exact Nat.le_refl _ | omega | (simp; done) | (simp; omega))))⟩
set_option maxHeartbeats 8000000 in
set_option maxRecDepth 100000 in
theorem rread_bad1 (n l u b : Int) (s : ByteArray) (w : World) (he : Env w) (x0 : 0 ≤ b) (x1 : b ≤ 255) (hs : (s.size : Int) ≤ 200) (hu : unitOf b = 1) (h : okD n l u = false) :
    Calls Tryd.prog 8 #[.agg #[.int .i64 n, .int .i64 l, .int .i64 u], .int .u8 b, .string s] w (Trues w) := by
  have HE := Lib.hid (fun W (hW : Below w.heap.size w W) => he.after hW)
  have HS := Lib.hid (fun W => step_1 b W x0 x1 hu)
  have hs' : ¬ (200 : Int) < (s.size : Int) := by omega
  obtain ⟨r, hr⟩ : ∃ r, readS s = r := ⟨_, rfl⟩
  have HR : Hid (∀ W, Below w.heap.size w W → Calls Tryd.prog 21 #[.string s] W (DidRead r W)) := Lib.hid (fun W hW => hr ▸ Read_any s W (HE.out W hW) (by omega))
  have hR : (r = none) ∨ ∃ n' l' u' un' t, r = some ((n', l', u'), un') ∧ okD n' l' u' = true ∧ writeS un' n' l' u' = (t, 0) ∧ bs t = s := by
    rcases r with _ | ⟨⟨n', l', u'⟩, un'⟩
    · exact .inl rfl
    · obtain ⟨-, h1, t, h2, h3⟩ := readS_some hr
      exact .inr ⟨n', l', u', un', t, rfl, h1, h2, h3⟩
  have HRR := Lib.hid hR
  clear hR hr
  have HW : Hid (∀ W, Below w.heap.size w W → Calls Tryd.prog 20 #[.agg #[.int .i64 n, .int .i64 l, .int .i64 u], .int .u8 1] W fun e w' => e = .returned (.tuple #[.string ⟨#[]⟩, .int .i64 10]) ∧ Below W.heap.size W w') := Lib.hid (fun W hW => Write_bad 1 n l u W h)
  have HX := Lib.hid (fun W => Exact_bad n l u W h)
  clear he x0 x1 hu h
  go_enter Tryd.func8, Tryd.ntmps8
  go_wp2_with fail
  refine (alive_any _ (HE.out _ (by (repeat' (first | (with_reducible exact Below.refl _ _) | (with_reducible assumption) | (with_reducible refine Below.alloc ?_ ?_ _) | (with_reducible refine Below.setCell ?_ ?_ _) | (with_reducible refine below_row ?_ ?_ _) | (with_reducible refine Below.drew ?_) | (with_reducible refine below_drewN ?_ _) | (with_reducible refine Below.trans ?_ (Below.mono (by assumption) ?_)) | (first | exact Nat.le_refl _ | omega | (simp; done) | (simp; omega))))))).mono ?_
  rintro _ w1 ⟨rfl, hb1⟩
  have s1 := hb1.size; try simp only [World.size_alloc, World.size_setCell, World.size_drew, setRow_size] at s1
  have B1 : Below w.heap.size w w1 := by (repeat' (first | (with_reducible exact Below.refl _ _) | (with_reducible assumption) | (with_reducible refine Below.alloc ?_ ?_ _) | (with_reducible refine Below.setCell ?_ ?_ _) | (with_reducible refine below_row ?_ ?_ _) | (with_reducible refine Below.drew ?_) | (with_reducible refine below_drewN ?_ _) | (with_reducible refine Below.trans ?_ (Below.mono (by assumption) ?_)) | (first | exact Nat.le_refl _ | omega | (simp; done) | (simp; omega))))
  have HP_1 := Lib.hid (show Lies w1 _ 28 #[.int .i64 n, .int .i64 l, .int .i64 u] from (by first | exact (Lies.made w 28 #[.int .i64 n, .int .i64 l, .int .i64 u]).after hb1 | exact ((Lies.made w 28 #[.int .i64 n, .int .i64 l, .int .i64 u]).alloc _).after hb1 | exact (((Lies.made w 28 #[.int .i64 n, .int .i64 l, .int .i64 u]).alloc _).alloc _).after hb1))
  have A1 : Below w.heap.size w w1 := B1
  clear hb1 B1
  have qP0 := HP_1.out.cell 0
  have qP1 := HP_1.out.cell 1
  have qP2 := HP_1.out.cell 2
  have zP := HP_1.out.lt
  go_wp2_with fail
  refine (HS.out _).mono ?_
  rintro _ w2 ⟨rfl, hb2⟩
  have s2 := hb2.size; try simp only [World.size_alloc, World.size_setCell, World.size_drew, setRow_size] at s2
  clear qP0 qP1 qP2 zP
  have B2 : Below w1.heap.size w1 w2 := by (repeat' (first | (with_reducible exact Below.refl _ _) | (with_reducible assumption) | (with_reducible refine Below.alloc ?_ ?_ _) | (with_reducible refine Below.setCell ?_ ?_ _) | (with_reducible refine below_row ?_ ?_ _) | (with_reducible refine Below.drew ?_) | (with_reducible refine below_drewN ?_ _) | (with_reducible refine Below.trans ?_ (Below.mono (by assumption) ?_)) | (first | exact Nat.le_refl _ | omega | (simp; done) | (simp; omega))))
  have HP_2 := Lib.hid (HP_1.out.after B2)
  clear HP_1
  have A2 : Below w.heap.size w w2 := A1.trans (B2.mono A1.size)
  clear A1 hb2 B2
  have qP0 := HP_2.out.cell 0
  have qP1 := HP_2.out.cell 1
  have qP2 := HP_2.out.cell 2
  have zP := HP_2.out.lt
  go_wp2_with fail
  refine (HW.out _ (A2.trans (Below.mono (by (repeat' (first | (with_reducible exact Below.refl _ _) | (with_reducible assumption) | (with_reducible refine Below.alloc ?_ ?_ _) | (with_reducible refine Below.setCell ?_ ?_ _) | (with_reducible refine below_row ?_ ?_ _) | (with_reducible refine Below.drew ?_) | (with_reducible refine below_drewN ?_ _) | (with_reducible refine Below.trans ?_ (Below.mono (by assumption) ?_)) | (first | exact Nat.le_refl _ | omega | (simp; done) | (simp; omega))))) A2.size))).mono ?_
  rintro _ w3 ⟨rfl, hb3⟩
  have s3 := hb3.size; try simp only [World.size_alloc, World.size_setCell, World.size_drew, setRow_size] at s3
  clear qP0 qP1 qP2 zP
  have B3 : Below w2.heap.size w2 w3 := by (repeat' (first | (with_reducible exact Below.refl _ _) | (with_reducible assumption) | (with_reducible refine Below.alloc ?_ ?_ _) | (with_reducible refine Below.setCell ?_ ?_ _) | (with_reducible refine below_row ?_ ?_ _) | (with_reducible refine Below.drew ?_) | (with_reducible refine below_drewN ?_ _) | (with_reducible refine Below.trans ?_ (Below.mono (by assumption) ?_)) | (first | exact Nat.le_refl _ | omega | (simp; done) | (simp; omega))))
  have HP_3 := Lib.hid (HP_2.out.after B3)
  clear HP_2
  have A3 : Below w.heap.size w w3 := A2.trans (B3.mono A2.size)
  clear A2 hb3 B3
  have qP0 := HP_3.out.cell 0
  have qP1 := HP_3.out.cell 1
  have qP2 := HP_3.out.cell 2
  have zP := HP_3.out.lt
  go_wp2_with fail
  refine (HX.out _).mono ?_
  rintro _ w4 ⟨rfl, hb4⟩
  have s4 := hb4.size; try simp only [World.size_alloc, World.size_setCell, World.size_drew, setRow_size] at s4
  clear qP0 qP1 qP2 zP
  have B4 : Below w3.heap.size w3 w4 := by (repeat' (first | (with_reducible exact Below.refl _ _) | (with_reducible assumption) | (with_reducible refine Below.alloc ?_ ?_ _) | (with_reducible refine Below.setCell ?_ ?_ _) | (with_reducible refine below_row ?_ ?_ _) | (with_reducible refine Below.drew ?_) | (with_reducible refine below_drewN ?_ _) | (with_reducible refine Below.trans ?_ (Below.mono (by assumption) ?_)) | (first | exact Nat.le_refl _ | omega | (simp; done) | (simp; omega))))
  have HP_4 := Lib.hid (HP_3.out.after B4)
  clear HP_3
  have A4 : Below w.heap.size w w4 := A3.trans (B4.mono A3.size)
  clear A3 hb4 B4
  have qP0 := HP_4.out.cell 0
  have qP1 := HP_4.out.cell 1
  have qP2 := HP_4.out.cell 2
  have zP := HP_4.out.lt
  rcases HRR.out with rfl | ⟨n', l', u', un', t3, rfl, ok3, hw3, hb3⟩
  · clear HRR
    replace HR : Hid (∀ W, Below w.heap.size w W → Calls Tryd.prog 21 #[.string s] W fun e w' => e = .returned (.tuple #[.agg #[.int .i64 0, .int .i64 0, .int .i64 0], .int .u8 0, .int .i64 13]) ∧ Below W.heap.size W w') := Lib.hid (fun W hW => HR.out W hW)
    go_wp2_with fail
    refine (HR.out _ (A4.trans (Below.mono (by (repeat' (first | (with_reducible exact Below.refl _ _) | (with_reducible assumption) | (with_reducible refine Below.alloc ?_ ?_ _) | (with_reducible refine Below.setCell ?_ ?_ _) | (with_reducible refine below_row ?_ ?_ _) | (with_reducible refine Below.drew ?_) | (with_reducible refine below_drewN ?_ _) | (with_reducible refine Below.trans ?_ (Below.mono (by assumption) ?_)) | (first | exact Nat.le_refl _ | omega | (simp; done) | (simp; omega))))) A4.size))).mono ?_
    rintro _ w5 ⟨rfl, hb5⟩
    have s5 := hb5.size; try simp only [World.size_alloc, World.size_setCell, World.size_drew, setRow_size] at s5
    have B5 : Below w4.heap.size w4 w5 := by (repeat' (first | (with_reducible exact Below.refl _ _) | (with_reducible assumption) | (with_reducible refine Below.alloc ?_ ?_ _) | (with_reducible refine Below.setCell ?_ ?_ _) | (with_reducible refine below_row ?_ ?_ _) | (with_reducible refine Below.drew ?_) | (with_reducible refine below_drewN ?_ _) | (with_reducible refine Below.trans ?_ (Below.mono (by assumption) ?_)) | (first | exact Nat.le_refl _ | omega | (simp; done) | (simp; omega))))
    have HP_5 := Lib.hid (HP_4.out.after B5)
    clear HP_4
    have A5 : Below w.heap.size w w5 := A4.trans (B5.mono A4.size)
    clear A4 hb5 B5
    go_wp2
    go_ret
    exact ⟨rfl, by (repeat' (first | (with_reducible exact Below.refl _ _) | (with_reducible assumption) | (with_reducible refine Below.alloc ?_ ?_ _) | (with_reducible refine Below.setCell ?_ ?_ _) | (with_reducible refine below_row ?_ ?_ _) | (with_reducible refine Below.drew ?_) | (with_reducible refine below_drewN ?_ _) | (with_reducible refine Below.trans ?_ (Below.mono (by assumption) ?_)) | (first | exact Nat.le_refl _ | omega | (simp; done) | (simp; omega))))⟩
  · clear HRR
    replace HR : Hid (∀ W, Below w.heap.size w W → Calls Tryd.prog 21 #[.string s] W fun e w' => e = .returned (.tuple #[.agg #[.int .i64 n', .int .i64 l', .int .i64 u'], .int .u8 un', .int .i64 0]) ∧ Below W.heap.size W w') := Lib.hid (fun W hW => HR.out W hW)
    have HW3 : Hid (∀ W, Below w.heap.size w W → Calls Tryd.prog 20 #[.agg #[.int .i64 n', .int .i64 l', .int .i64 u'], .int .u8 un'] W fun e w' => e = .returned (.tuple #[.string s, .int .i64 0]) ∧ Below W.heap.size W w') := Lib.hid (fun W hW => by
      have h := Write_any un' n' l' u' W (HE.out W hW)
      unfold Wrote at h
      rw [hw3, hb3] at h
      exact h)
    have HC3 := Lib.hid (fun W => Check_ok n' l' u' W ok3)
    clear ok3 hw3 hb3 HE
    go_wp2_with fail
    refine (HR.out _ (A4.trans (Below.mono (by (repeat' (first | (with_reducible exact Below.refl _ _) | (with_reducible assumption) | (with_reducible refine Below.alloc ?_ ?_ _) | (with_reducible refine Below.setCell ?_ ?_ _) | (with_reducible refine below_row ?_ ?_ _) | (with_reducible refine Below.drew ?_) | (with_reducible refine below_drewN ?_ _) | (with_reducible refine Below.trans ?_ (Below.mono (by assumption) ?_)) | (first | exact Nat.le_refl _ | omega | (simp; done) | (simp; omega))))) A4.size))).mono ?_
    rintro _ w5 ⟨rfl, hb5⟩
    have s5 := hb5.size; try simp only [World.size_alloc, World.size_setCell, World.size_drew, setRow_size] at s5
    have B5 : Below w4.heap.size w4 w5 := by (repeat' (first | (with_reducible exact Below.refl _ _) | (with_reducible assumption) | (with_reducible refine Below.alloc ?_ ?_ _) | (with_reducible refine Below.setCell ?_ ?_ _) | (with_reducible refine below_row ?_ ?_ _) | (with_reducible refine Below.drew ?_) | (with_reducible refine below_drewN ?_ _) | (with_reducible refine Below.trans ?_ (Below.mono (by assumption) ?_)) | (first | exact Nat.le_refl _ | omega | (simp; done) | (simp; omega))))
    have HP_5 := Lib.hid (HP_4.out.after B5)
    clear HP_4
    have A5 : Below w.heap.size w w5 := A4.trans (B5.mono A4.size)
    clear A4 hb5 B5
    go_wp2_with fail
    refine (HW3.out _ (A5.trans (Below.mono (by (repeat' (first | (with_reducible exact Below.refl _ _) | (with_reducible assumption) | (with_reducible refine Below.alloc ?_ ?_ _) | (with_reducible refine Below.setCell ?_ ?_ _) | (with_reducible refine below_row ?_ ?_ _) | (with_reducible refine Below.drew ?_) | (with_reducible refine below_drewN ?_ _) | (with_reducible refine Below.trans ?_ (Below.mono (by assumption) ?_)) | (first | exact Nat.le_refl _ | omega | (simp; done) | (simp; omega))))) A5.size))).mono ?_
    rintro _ w6 ⟨rfl, hb6⟩
    have s6 := hb6.size; try simp only [World.size_alloc, World.size_setCell, World.size_drew, setRow_size] at s6
    have B6 : Below w5.heap.size w5 w6 := by (repeat' (first | (with_reducible exact Below.refl _ _) | (with_reducible assumption) | (with_reducible refine Below.alloc ?_ ?_ _) | (with_reducible refine Below.setCell ?_ ?_ _) | (with_reducible refine below_row ?_ ?_ _) | (with_reducible refine Below.drew ?_) | (with_reducible refine below_drewN ?_ _) | (with_reducible refine Below.trans ?_ (Below.mono (by assumption) ?_)) | (first | exact Nat.le_refl _ | omega | (simp; done) | (simp; omega))))
    have HY_6 := Lib.hid (show Lies w6 _ 28 #[.int .i64 n', .int .i64 l', .int .i64 u'] from (by first | exact (Lies.made w5 28 #[.int .i64 n', .int .i64 l', .int .i64 u']).after hb6 | exact ((Lies.made w5 28 #[.int .i64 n', .int .i64 l', .int .i64 u']).alloc _).after hb6 | exact (((Lies.made w5 28 #[.int .i64 n', .int .i64 l', .int .i64 u']).alloc _).alloc _).after hb6))
    have A6 : Below w.heap.size w w6 := A5.trans (B6.mono A5.size)
    clear A5 hb6 B6
    have qY0 := HY_6.out.cell 0
    have qY1 := HY_6.out.cell 1
    have qY2 := HY_6.out.cell 2
    have zY := HY_6.out.lt
    go_wp2_with fail
    refine (HC3.out _).mono ?_
    rintro _ w7 ⟨rfl, hb7⟩
    have s7 := hb7.size; try simp only [World.size_alloc, World.size_setCell, World.size_drew, setRow_size] at s7
    clear qY0 qY1 qY2 zY
    have B7 : Below w6.heap.size w6 w7 := by (repeat' (first | (with_reducible exact Below.refl _ _) | (with_reducible assumption) | (with_reducible refine Below.alloc ?_ ?_ _) | (with_reducible refine Below.setCell ?_ ?_ _) | (with_reducible refine below_row ?_ ?_ _) | (with_reducible refine Below.drew ?_) | (with_reducible refine below_drewN ?_ _) | (with_reducible refine Below.trans ?_ (Below.mono (by assumption) ?_)) | (first | exact Nat.le_refl _ | omega | (simp; done) | (simp; omega))))
    have HY_7 := Lib.hid (HY_6.out.after B7)
    clear HY_6
    have A7 : Below w.heap.size w w7 := A6.trans (B7.mono A6.size)
    clear A6 hb7 B7
    go_wp2
    go_ret
    exact ⟨rfl, by (repeat' (first | (with_reducible exact Below.refl _ _) | (with_reducible assumption) | (with_reducible refine Below.alloc ?_ ?_ _) | (with_reducible refine Below.setCell ?_ ?_ _) | (with_reducible refine below_row ?_ ?_ _) | (with_reducible refine Below.drew ?_) | (with_reducible refine below_drewN ?_ _) | (with_reducible refine Below.trans ?_ (Below.mono (by assumption) ?_)) | (first | exact Nat.le_refl _ | omega | (simp; done) | (simp; omega))))⟩
set_option maxHeartbeats 8000000 in
set_option maxRecDepth 100000 in
theorem rread_odd1 (n l u b : Int) (s : ByteArray) (w : World) (he : Env w) (x0 : 0 ≤ b) (x1 : b ≤ 255) (hs : (s.size : Int) ≤ 200) (hu : unitOf b = 1) (h : okD n l u = true) (t : List UInt8) (hw : writeS 1 n l u = (t, 12)) (hE : exactU n l u = 0 ∨ exactU n l u = 2) :
    Calls Tryd.prog 8 #[.agg #[.int .i64 n, .int .i64 l, .int .i64 u], .int .u8 b, .string s] w (Trues w) := by
  have HE := Lib.hid (fun W (hW : Below w.heap.size w W) => he.after hW)
  have HS := Lib.hid (fun W => step_1 b W x0 x1 hu)
  have hs' : ¬ (200 : Int) < (s.size : Int) := by omega
  obtain ⟨r, hr⟩ : ∃ r, readS s = r := ⟨_, rfl⟩
  have HR : Hid (∀ W, Below w.heap.size w W → Calls Tryd.prog 21 #[.string s] W (DidRead r W)) := Lib.hid (fun W hW => hr ▸ Read_any s W (HE.out W hW) (by omega))
  have hR : (r = none) ∨ ∃ n' l' u' un' t, r = some ((n', l', u'), un') ∧ okD n' l' u' = true ∧ writeS un' n' l' u' = (t, 0) ∧ bs t = s := by
    rcases r with _ | ⟨⟨n', l', u'⟩, un'⟩
    · exact .inl rfl
    · obtain ⟨-, h1, t, h2, h3⟩ := readS_some hr
      exact .inr ⟨n', l', u', un', t, rfl, h1, h2, h3⟩
  have HRR := Lib.hid hR
  clear hR hr
  have HW : Hid (∀ W, Below w.heap.size w W → Calls Tryd.prog 20 #[.agg #[.int .i64 n, .int .i64 l, .int .i64 u], .int .u8 1] W fun e w' => e = .returned (.tuple #[.string (bs t), .int .i64 12]) ∧ Below W.heap.size W w') := Lib.hid (fun W hW => by
    have h := Write_any 1 n l u W (HE.out W hW)
    unfold Wrote at h
    rw [hw] at h
    exact h)
  have HX := Lib.hid (fun W => Exact_ok n l u W h)
  generalize exactU n l u = E at *
  generalize bs t = T at *
  clear he x0 x1 hu h hw
  go_enter Tryd.func8, Tryd.ntmps8
  go_wp2_with fail
  refine (alive_any _ (HE.out _ (by (repeat' (first | (with_reducible exact Below.refl _ _) | (with_reducible assumption) | (with_reducible refine Below.alloc ?_ ?_ _) | (with_reducible refine Below.setCell ?_ ?_ _) | (with_reducible refine below_row ?_ ?_ _) | (with_reducible refine Below.drew ?_) | (with_reducible refine below_drewN ?_ _) | (with_reducible refine Below.trans ?_ (Below.mono (by assumption) ?_)) | (first | exact Nat.le_refl _ | omega | (simp; done) | (simp; omega))))))).mono ?_
  rintro _ w1 ⟨rfl, hb1⟩
  have s1 := hb1.size; try simp only [World.size_alloc, World.size_setCell, World.size_drew, setRow_size] at s1
  have B1 : Below w.heap.size w w1 := by (repeat' (first | (with_reducible exact Below.refl _ _) | (with_reducible assumption) | (with_reducible refine Below.alloc ?_ ?_ _) | (with_reducible refine Below.setCell ?_ ?_ _) | (with_reducible refine below_row ?_ ?_ _) | (with_reducible refine Below.drew ?_) | (with_reducible refine below_drewN ?_ _) | (with_reducible refine Below.trans ?_ (Below.mono (by assumption) ?_)) | (first | exact Nat.le_refl _ | omega | (simp; done) | (simp; omega))))
  have HP_1 := Lib.hid (show Lies w1 _ 28 #[.int .i64 n, .int .i64 l, .int .i64 u] from (by first | exact (Lies.made w 28 #[.int .i64 n, .int .i64 l, .int .i64 u]).after hb1 | exact ((Lies.made w 28 #[.int .i64 n, .int .i64 l, .int .i64 u]).alloc _).after hb1 | exact (((Lies.made w 28 #[.int .i64 n, .int .i64 l, .int .i64 u]).alloc _).alloc _).after hb1))
  have A1 : Below w.heap.size w w1 := B1
  clear hb1 B1
  have qP0 := HP_1.out.cell 0
  have qP1 := HP_1.out.cell 1
  have qP2 := HP_1.out.cell 2
  have zP := HP_1.out.lt
  go_wp2_with fail
  refine (HS.out _).mono ?_
  rintro _ w2 ⟨rfl, hb2⟩
  have s2 := hb2.size; try simp only [World.size_alloc, World.size_setCell, World.size_drew, setRow_size] at s2
  clear qP0 qP1 qP2 zP
  have B2 : Below w1.heap.size w1 w2 := by (repeat' (first | (with_reducible exact Below.refl _ _) | (with_reducible assumption) | (with_reducible refine Below.alloc ?_ ?_ _) | (with_reducible refine Below.setCell ?_ ?_ _) | (with_reducible refine below_row ?_ ?_ _) | (with_reducible refine Below.drew ?_) | (with_reducible refine below_drewN ?_ _) | (with_reducible refine Below.trans ?_ (Below.mono (by assumption) ?_)) | (first | exact Nat.le_refl _ | omega | (simp; done) | (simp; omega))))
  have HP_2 := Lib.hid (HP_1.out.after B2)
  clear HP_1
  have A2 : Below w.heap.size w w2 := A1.trans (B2.mono A1.size)
  clear A1 hb2 B2
  have qP0 := HP_2.out.cell 0
  have qP1 := HP_2.out.cell 1
  have qP2 := HP_2.out.cell 2
  have zP := HP_2.out.lt
  go_wp2_with fail
  refine (HW.out _ (A2.trans (Below.mono (by (repeat' (first | (with_reducible exact Below.refl _ _) | (with_reducible assumption) | (with_reducible refine Below.alloc ?_ ?_ _) | (with_reducible refine Below.setCell ?_ ?_ _) | (with_reducible refine below_row ?_ ?_ _) | (with_reducible refine Below.drew ?_) | (with_reducible refine below_drewN ?_ _) | (with_reducible refine Below.trans ?_ (Below.mono (by assumption) ?_)) | (first | exact Nat.le_refl _ | omega | (simp; done) | (simp; omega))))) A2.size))).mono ?_
  rintro _ w3 ⟨rfl, hb3⟩
  have s3 := hb3.size; try simp only [World.size_alloc, World.size_setCell, World.size_drew, setRow_size] at s3
  clear qP0 qP1 qP2 zP
  have B3 : Below w2.heap.size w2 w3 := by (repeat' (first | (with_reducible exact Below.refl _ _) | (with_reducible assumption) | (with_reducible refine Below.alloc ?_ ?_ _) | (with_reducible refine Below.setCell ?_ ?_ _) | (with_reducible refine below_row ?_ ?_ _) | (with_reducible refine Below.drew ?_) | (with_reducible refine below_drewN ?_ _) | (with_reducible refine Below.trans ?_ (Below.mono (by assumption) ?_)) | (first | exact Nat.le_refl _ | omega | (simp; done) | (simp; omega))))
  have HP_3 := Lib.hid (HP_2.out.after B3)
  clear HP_2
  have A3 : Below w.heap.size w w3 := A2.trans (B3.mono A2.size)
  clear A2 hb3 B3
  have qP0 := HP_3.out.cell 0
  have qP1 := HP_3.out.cell 1
  have qP2 := HP_3.out.cell 2
  have zP := HP_3.out.lt
  go_wp2_with fail
  refine (HX.out _).mono ?_
  rintro _ w4 ⟨rfl, hb4⟩
  have s4 := hb4.size; try simp only [World.size_alloc, World.size_setCell, World.size_drew, setRow_size] at s4
  clear qP0 qP1 qP2 zP
  have B4 : Below w3.heap.size w3 w4 := by (repeat' (first | (with_reducible exact Below.refl _ _) | (with_reducible assumption) | (with_reducible refine Below.alloc ?_ ?_ _) | (with_reducible refine Below.setCell ?_ ?_ _) | (with_reducible refine below_row ?_ ?_ _) | (with_reducible refine Below.drew ?_) | (with_reducible refine below_drewN ?_ _) | (with_reducible refine Below.trans ?_ (Below.mono (by assumption) ?_)) | (first | exact Nat.le_refl _ | omega | (simp; done) | (simp; omega))))
  have HP_4 := Lib.hid (HP_3.out.after B4)
  clear HP_3
  have A4 : Below w.heap.size w w4 := A3.trans (B4.mono A3.size)
  clear A3 hb4 B4
  have qP0 := HP_4.out.cell 0
  have qP1 := HP_4.out.cell 1
  have qP2 := HP_4.out.cell 2
  have zP := HP_4.out.lt
  rcases hE with rfl | rfl
  all_goals
    rcases HRR.out with rfl | ⟨n', l', u', un', t3, rfl, ok3, hw3, hb3⟩
    · clear HRR
      replace HR : Hid (∀ W, Below w.heap.size w W → Calls Tryd.prog 21 #[.string s] W fun e w' => e = .returned (.tuple #[.agg #[.int .i64 0, .int .i64 0, .int .i64 0], .int .u8 0, .int .i64 13]) ∧ Below W.heap.size W w') := Lib.hid (fun W hW => HR.out W hW)
      go_wp2_with fail
      refine (HR.out _ (A4.trans (Below.mono (by (repeat' (first | (with_reducible exact Below.refl _ _) | (with_reducible assumption) | (with_reducible refine Below.alloc ?_ ?_ _) | (with_reducible refine Below.setCell ?_ ?_ _) | (with_reducible refine below_row ?_ ?_ _) | (with_reducible refine Below.drew ?_) | (with_reducible refine below_drewN ?_ _) | (with_reducible refine Below.trans ?_ (Below.mono (by assumption) ?_)) | (first | exact Nat.le_refl _ | omega | (simp; done) | (simp; omega))))) A4.size))).mono ?_
      rintro _ w5 ⟨rfl, hb5⟩
      have s5 := hb5.size; try simp only [World.size_alloc, World.size_setCell, World.size_drew, setRow_size] at s5
      have B5 : Below w4.heap.size w4 w5 := by (repeat' (first | (with_reducible exact Below.refl _ _) | (with_reducible assumption) | (with_reducible refine Below.alloc ?_ ?_ _) | (with_reducible refine Below.setCell ?_ ?_ _) | (with_reducible refine below_row ?_ ?_ _) | (with_reducible refine Below.drew ?_) | (with_reducible refine below_drewN ?_ _) | (with_reducible refine Below.trans ?_ (Below.mono (by assumption) ?_)) | (first | exact Nat.le_refl _ | omega | (simp; done) | (simp; omega))))
      have HP_5 := Lib.hid (HP_4.out.after B5)
      clear HP_4
      have A5 : Below w.heap.size w w5 := A4.trans (B5.mono A4.size)
      clear A4 hb5 B5
      go_wp2
      go_ret
      exact ⟨rfl, by (repeat' (first | (with_reducible exact Below.refl _ _) | (with_reducible assumption) | (with_reducible refine Below.alloc ?_ ?_ _) | (with_reducible refine Below.setCell ?_ ?_ _) | (with_reducible refine below_row ?_ ?_ _) | (with_reducible refine Below.drew ?_) | (with_reducible refine below_drewN ?_ _) | (with_reducible refine Below.trans ?_ (Below.mono (by assumption) ?_)) | (first | exact Nat.le_refl _ | omega | (simp; done) | (simp; omega))))⟩
    · clear HRR
      replace HR : Hid (∀ W, Below w.heap.size w W → Calls Tryd.prog 21 #[.string s] W fun e w' => e = .returned (.tuple #[.agg #[.int .i64 n', .int .i64 l', .int .i64 u'], .int .u8 un', .int .i64 0]) ∧ Below W.heap.size W w') := Lib.hid (fun W hW => HR.out W hW)
      have HW3 : Hid (∀ W, Below w.heap.size w W → Calls Tryd.prog 20 #[.agg #[.int .i64 n', .int .i64 l', .int .i64 u'], .int .u8 un'] W fun e w' => e = .returned (.tuple #[.string s, .int .i64 0]) ∧ Below W.heap.size W w') := Lib.hid (fun W hW => by
        have h := Write_any un' n' l' u' W (HE.out W hW)
        unfold Wrote at h
        rw [hw3, hb3] at h
        exact h)
      have HC3 := Lib.hid (fun W => Check_ok n' l' u' W ok3)
      clear ok3 hw3 hb3 HE
      go_wp2_with fail
      refine (HR.out _ (A4.trans (Below.mono (by (repeat' (first | (with_reducible exact Below.refl _ _) | (with_reducible assumption) | (with_reducible refine Below.alloc ?_ ?_ _) | (with_reducible refine Below.setCell ?_ ?_ _) | (with_reducible refine below_row ?_ ?_ _) | (with_reducible refine Below.drew ?_) | (with_reducible refine below_drewN ?_ _) | (with_reducible refine Below.trans ?_ (Below.mono (by assumption) ?_)) | (first | exact Nat.le_refl _ | omega | (simp; done) | (simp; omega))))) A4.size))).mono ?_
      rintro _ w5 ⟨rfl, hb5⟩
      have s5 := hb5.size; try simp only [World.size_alloc, World.size_setCell, World.size_drew, setRow_size] at s5
      have B5 : Below w4.heap.size w4 w5 := by (repeat' (first | (with_reducible exact Below.refl _ _) | (with_reducible assumption) | (with_reducible refine Below.alloc ?_ ?_ _) | (with_reducible refine Below.setCell ?_ ?_ _) | (with_reducible refine below_row ?_ ?_ _) | (with_reducible refine Below.drew ?_) | (with_reducible refine below_drewN ?_ _) | (with_reducible refine Below.trans ?_ (Below.mono (by assumption) ?_)) | (first | exact Nat.le_refl _ | omega | (simp; done) | (simp; omega))))
      have HP_5 := Lib.hid (HP_4.out.after B5)
      clear HP_4
      have A5 : Below w.heap.size w w5 := A4.trans (B5.mono A4.size)
      clear A4 hb5 B5
      go_wp2_with fail
      refine (HW3.out _ (A5.trans (Below.mono (by (repeat' (first | (with_reducible exact Below.refl _ _) | (with_reducible assumption) | (with_reducible refine Below.alloc ?_ ?_ _) | (with_reducible refine Below.setCell ?_ ?_ _) | (with_reducible refine below_row ?_ ?_ _) | (with_reducible refine Below.drew ?_) | (with_reducible refine below_drewN ?_ _) | (with_reducible refine Below.trans ?_ (Below.mono (by assumption) ?_)) | (first | exact Nat.le_refl _ | omega | (simp; done) | (simp; omega))))) A5.size))).mono ?_
      rintro _ w6 ⟨rfl, hb6⟩
      have s6 := hb6.size; try simp only [World.size_alloc, World.size_setCell, World.size_drew, setRow_size] at s6
      have B6 : Below w5.heap.size w5 w6 := by (repeat' (first | (with_reducible exact Below.refl _ _) | (with_reducible assumption) | (with_reducible refine Below.alloc ?_ ?_ _) | (with_reducible refine Below.setCell ?_ ?_ _) | (with_reducible refine below_row ?_ ?_ _) | (with_reducible refine Below.drew ?_) | (with_reducible refine below_drewN ?_ _) | (with_reducible refine Below.trans ?_ (Below.mono (by assumption) ?_)) | (first | exact Nat.le_refl _ | omega | (simp; done) | (simp; omega))))
      have HY_6 := Lib.hid (show Lies w6 _ 28 #[.int .i64 n', .int .i64 l', .int .i64 u'] from (by first | exact (Lies.made w5 28 #[.int .i64 n', .int .i64 l', .int .i64 u']).after hb6 | exact ((Lies.made w5 28 #[.int .i64 n', .int .i64 l', .int .i64 u']).alloc _).after hb6 | exact (((Lies.made w5 28 #[.int .i64 n', .int .i64 l', .int .i64 u']).alloc _).alloc _).after hb6))
      have A6 : Below w.heap.size w w6 := A5.trans (B6.mono A5.size)
      clear A5 hb6 B6
      have qY0 := HY_6.out.cell 0
      have qY1 := HY_6.out.cell 1
      have qY2 := HY_6.out.cell 2
      have zY := HY_6.out.lt
      go_wp2_with fail
      refine (HC3.out _).mono ?_
      rintro _ w7 ⟨rfl, hb7⟩
      have s7 := hb7.size; try simp only [World.size_alloc, World.size_setCell, World.size_drew, setRow_size] at s7
      clear qY0 qY1 qY2 zY
      have B7 : Below w6.heap.size w6 w7 := by (repeat' (first | (with_reducible exact Below.refl _ _) | (with_reducible assumption) | (with_reducible refine Below.alloc ?_ ?_ _) | (with_reducible refine Below.setCell ?_ ?_ _) | (with_reducible refine below_row ?_ ?_ _) | (with_reducible refine Below.drew ?_) | (with_reducible refine below_drewN ?_ _) | (with_reducible refine Below.trans ?_ (Below.mono (by assumption) ?_)) | (first | exact Nat.le_refl _ | omega | (simp; done) | (simp; omega))))
      have HY_7 := Lib.hid (HY_6.out.after B7)
      clear HY_6
      have A7 : Below w.heap.size w w7 := A6.trans (B7.mono A6.size)
      clear A6 hb7 B7
      go_wp2
      go_ret
      exact ⟨rfl, by (repeat' (first | (with_reducible exact Below.refl _ _) | (with_reducible assumption) | (with_reducible refine Below.alloc ?_ ?_ _) | (with_reducible refine Below.setCell ?_ ?_ _) | (with_reducible refine below_row ?_ ?_ _) | (with_reducible refine Below.drew ?_) | (with_reducible refine below_drewN ?_ _) | (with_reducible refine Below.trans ?_ (Below.mono (by assumption) ?_)) | (first | exact Nat.le_refl _ | omega | (simp; done) | (simp; omega))))⟩
set_option maxHeartbeats 8000000 in
set_option maxRecDepth 100000 in
theorem rread_good1 (n l u b : Int) (s : ByteArray) (w : World) (he : Env w) (x0 : 0 ≤ b) (x1 : b ≤ 255) (hs : (s.size : Int) ≤ 200) (hu : unitOf b = 1) (h : okD n l u = true) (t : List UInt8) (hw : writeS 1 n l u = (t, 0)) (hrt : readS (bs t) = some ((n, l, u), 1)) (hz : (bs t).size ≤ 1000000) (hE : exactU n l u = 1 ∨ exactU n l u = 3) :
    Calls Tryd.prog 8 #[.agg #[.int .i64 n, .int .i64 l, .int .i64 u], .int .u8 b, .string s] w (Trues w) := by
  have HE := Lib.hid (fun W (hW : Below w.heap.size w W) => he.after hW)
  have HS := Lib.hid (fun W => step_1 b W x0 x1 hu)
  have hs' : ¬ (200 : Int) < (s.size : Int) := by omega
  obtain ⟨r, hr⟩ : ∃ r, readS s = r := ⟨_, rfl⟩
  have HR : Hid (∀ W, Below w.heap.size w W → Calls Tryd.prog 21 #[.string s] W (DidRead r W)) := Lib.hid (fun W hW => hr ▸ Read_any s W (HE.out W hW) (by omega))
  have hR : (r = none) ∨ ∃ n' l' u' un' t, r = some ((n', l', u'), un') ∧ okD n' l' u' = true ∧ writeS un' n' l' u' = (t, 0) ∧ bs t = s := by
    rcases r with _ | ⟨⟨n', l', u'⟩, un'⟩
    · exact .inl rfl
    · obtain ⟨-, h1, t, h2, h3⟩ := readS_some hr
      exact .inr ⟨n', l', u', un', t, rfl, h1, h2, h3⟩
  have HRR := Lib.hid hR
  clear hR hr
  have HW : Hid (∀ W, Below w.heap.size w W → Calls Tryd.prog 20 #[.agg #[.int .i64 n, .int .i64 l, .int .i64 u], .int .u8 1] W fun e w' => e = .returned (.tuple #[.string (bs t), .int .i64 0]) ∧ Below W.heap.size W w') := Lib.hid (fun W hW => by
    have h := Write_any 1 n l u W (HE.out W hW)
    unfold Wrote at h
    rw [hw] at h
    exact h)
  have HT : Hid (∀ W, Below w.heap.size w W → Calls Tryd.prog 21 #[.string (bs t)] W fun e w' => e = .returned (.tuple #[.agg #[.int .i64 n, .int .i64 l, .int .i64 u], .int .u8 1, .int .i64 0]) ∧ Below W.heap.size W w') := Lib.hid (fun W hW => by
    have h := Read_any (bs t) W (HE.out W hW) hz
    rw [hrt] at h
    exact h)
  have HX := Lib.hid (fun W => Exact_ok n l u W h)
  generalize exactU n l u = E at *
  generalize bs t = T at *
  clear he x0 x1 hu h hw hrt hz
  go_enter Tryd.func8, Tryd.ntmps8
  go_wp2_with fail
  refine (alive_any _ (HE.out _ (by (repeat' (first | (with_reducible exact Below.refl _ _) | (with_reducible assumption) | (with_reducible refine Below.alloc ?_ ?_ _) | (with_reducible refine Below.setCell ?_ ?_ _) | (with_reducible refine below_row ?_ ?_ _) | (with_reducible refine Below.drew ?_) | (with_reducible refine below_drewN ?_ _) | (with_reducible refine Below.trans ?_ (Below.mono (by assumption) ?_)) | (first | exact Nat.le_refl _ | omega | (simp; done) | (simp; omega))))))).mono ?_
  rintro _ w1 ⟨rfl, hb1⟩
  have s1 := hb1.size; try simp only [World.size_alloc, World.size_setCell, World.size_drew, setRow_size] at s1
  have B1 : Below w.heap.size w w1 := by (repeat' (first | (with_reducible exact Below.refl _ _) | (with_reducible assumption) | (with_reducible refine Below.alloc ?_ ?_ _) | (with_reducible refine Below.setCell ?_ ?_ _) | (with_reducible refine below_row ?_ ?_ _) | (with_reducible refine Below.drew ?_) | (with_reducible refine below_drewN ?_ _) | (with_reducible refine Below.trans ?_ (Below.mono (by assumption) ?_)) | (first | exact Nat.le_refl _ | omega | (simp; done) | (simp; omega))))
  have HP_1 := Lib.hid (show Lies w1 _ 28 #[.int .i64 n, .int .i64 l, .int .i64 u] from (by first | exact (Lies.made w 28 #[.int .i64 n, .int .i64 l, .int .i64 u]).after hb1 | exact ((Lies.made w 28 #[.int .i64 n, .int .i64 l, .int .i64 u]).alloc _).after hb1 | exact (((Lies.made w 28 #[.int .i64 n, .int .i64 l, .int .i64 u]).alloc _).alloc _).after hb1))
  have A1 : Below w.heap.size w w1 := B1
  clear hb1 B1
  have qP0 := HP_1.out.cell 0
  have qP1 := HP_1.out.cell 1
  have qP2 := HP_1.out.cell 2
  have zP := HP_1.out.lt
  go_wp2_with fail
  refine (HS.out _).mono ?_
  rintro _ w2 ⟨rfl, hb2⟩
  have s2 := hb2.size; try simp only [World.size_alloc, World.size_setCell, World.size_drew, setRow_size] at s2
  clear qP0 qP1 qP2 zP
  have B2 : Below w1.heap.size w1 w2 := by (repeat' (first | (with_reducible exact Below.refl _ _) | (with_reducible assumption) | (with_reducible refine Below.alloc ?_ ?_ _) | (with_reducible refine Below.setCell ?_ ?_ _) | (with_reducible refine below_row ?_ ?_ _) | (with_reducible refine Below.drew ?_) | (with_reducible refine below_drewN ?_ _) | (with_reducible refine Below.trans ?_ (Below.mono (by assumption) ?_)) | (first | exact Nat.le_refl _ | omega | (simp; done) | (simp; omega))))
  have HP_2 := Lib.hid (HP_1.out.after B2)
  clear HP_1
  have A2 : Below w.heap.size w w2 := A1.trans (B2.mono A1.size)
  clear A1 hb2 B2
  have qP0 := HP_2.out.cell 0
  have qP1 := HP_2.out.cell 1
  have qP2 := HP_2.out.cell 2
  have zP := HP_2.out.lt
  go_wp2_with fail
  refine (HW.out _ (A2.trans (Below.mono (by (repeat' (first | (with_reducible exact Below.refl _ _) | (with_reducible assumption) | (with_reducible refine Below.alloc ?_ ?_ _) | (with_reducible refine Below.setCell ?_ ?_ _) | (with_reducible refine below_row ?_ ?_ _) | (with_reducible refine Below.drew ?_) | (with_reducible refine below_drewN ?_ _) | (with_reducible refine Below.trans ?_ (Below.mono (by assumption) ?_)) | (first | exact Nat.le_refl _ | omega | (simp; done) | (simp; omega))))) A2.size))).mono ?_
  rintro _ w3 ⟨rfl, hb3⟩
  have s3 := hb3.size; try simp only [World.size_alloc, World.size_setCell, World.size_drew, setRow_size] at s3
  clear qP0 qP1 qP2 zP
  have B3 : Below w2.heap.size w2 w3 := by (repeat' (first | (with_reducible exact Below.refl _ _) | (with_reducible assumption) | (with_reducible refine Below.alloc ?_ ?_ _) | (with_reducible refine Below.setCell ?_ ?_ _) | (with_reducible refine below_row ?_ ?_ _) | (with_reducible refine Below.drew ?_) | (with_reducible refine below_drewN ?_ _) | (with_reducible refine Below.trans ?_ (Below.mono (by assumption) ?_)) | (first | exact Nat.le_refl _ | omega | (simp; done) | (simp; omega))))
  have HP_3 := Lib.hid (HP_2.out.after B3)
  clear HP_2
  have A3 : Below w.heap.size w w3 := A2.trans (B3.mono A2.size)
  clear A2 hb3 B3
  have qP0 := HP_3.out.cell 0
  have qP1 := HP_3.out.cell 1
  have qP2 := HP_3.out.cell 2
  have zP := HP_3.out.lt
  go_wp2_with fail
  refine (HX.out _).mono ?_
  rintro _ w4 ⟨rfl, hb4⟩
  have s4 := hb4.size; try simp only [World.size_alloc, World.size_setCell, World.size_drew, setRow_size] at s4
  clear qP0 qP1 qP2 zP
  have B4 : Below w3.heap.size w3 w4 := by (repeat' (first | (with_reducible exact Below.refl _ _) | (with_reducible assumption) | (with_reducible refine Below.alloc ?_ ?_ _) | (with_reducible refine Below.setCell ?_ ?_ _) | (with_reducible refine below_row ?_ ?_ _) | (with_reducible refine Below.drew ?_) | (with_reducible refine below_drewN ?_ _) | (with_reducible refine Below.trans ?_ (Below.mono (by assumption) ?_)) | (first | exact Nat.le_refl _ | omega | (simp; done) | (simp; omega))))
  have HP_4 := Lib.hid (HP_3.out.after B4)
  clear HP_3
  have A4 : Below w.heap.size w w4 := A3.trans (B4.mono A3.size)
  clear A3 hb4 B4
  rcases hE with rfl | rfl
  all_goals
    have qP0 := HP_4.out.cell 0
    have qP1 := HP_4.out.cell 1
    have qP2 := HP_4.out.cell 2
    have zP := HP_4.out.lt
    go_wp2_with fail
    refine (HT.out _ (A4.trans (Below.mono (by (repeat' (first | (with_reducible exact Below.refl _ _) | (with_reducible assumption) | (with_reducible refine Below.alloc ?_ ?_ _) | (with_reducible refine Below.setCell ?_ ?_ _) | (with_reducible refine below_row ?_ ?_ _) | (with_reducible refine Below.drew ?_) | (with_reducible refine below_drewN ?_ _) | (with_reducible refine Below.trans ?_ (Below.mono (by assumption) ?_)) | (first | exact Nat.le_refl _ | omega | (simp; done) | (simp; omega))))) A4.size))).mono ?_
    rintro _ w5 ⟨rfl, hb5⟩
    have s5 := hb5.size; try simp only [World.size_alloc, World.size_setCell, World.size_drew, setRow_size] at s5
    clear qP0 qP1 qP2 zP
    have B5 : Below w4.heap.size w4 w5 := by (repeat' (first | (with_reducible exact Below.refl _ _) | (with_reducible assumption) | (with_reducible refine Below.alloc ?_ ?_ _) | (with_reducible refine Below.setCell ?_ ?_ _) | (with_reducible refine below_row ?_ ?_ _) | (with_reducible refine Below.drew ?_) | (with_reducible refine below_drewN ?_ _) | (with_reducible refine Below.trans ?_ (Below.mono (by assumption) ?_)) | (first | exact Nat.le_refl _ | omega | (simp; done) | (simp; omega))))
    have HP_5 := Lib.hid (HP_4.out.after B5)
    clear HP_4
    have A5 : Below w.heap.size w w5 := A4.trans (B5.mono A4.size)
    clear A4 hb5 B5
    have qP0 := HP_5.out.cell 0
    have qP1 := HP_5.out.cell 1
    have qP2 := HP_5.out.cell 2
    have zP := HP_5.out.lt
    rcases HRR.out with rfl | ⟨n', l', u', un', t3, rfl, ok3, hw3, hb3⟩
    · clear HRR
      replace HR : Hid (∀ W, Below w.heap.size w W → Calls Tryd.prog 21 #[.string s] W fun e w' => e = .returned (.tuple #[.agg #[.int .i64 0, .int .i64 0, .int .i64 0], .int .u8 0, .int .i64 13]) ∧ Below W.heap.size W w') := Lib.hid (fun W hW => HR.out W hW)
      go_wp2_with fail
      refine (HR.out _ (A5.trans (Below.mono (by (repeat' (first | (with_reducible exact Below.refl _ _) | (with_reducible assumption) | (with_reducible refine Below.alloc ?_ ?_ _) | (with_reducible refine Below.setCell ?_ ?_ _) | (with_reducible refine below_row ?_ ?_ _) | (with_reducible refine Below.drew ?_) | (with_reducible refine below_drewN ?_ _) | (with_reducible refine Below.trans ?_ (Below.mono (by assumption) ?_)) | (first | exact Nat.le_refl _ | omega | (simp; done) | (simp; omega))))) A5.size))).mono ?_
      rintro _ w6 ⟨rfl, hb6⟩
      have s6 := hb6.size; try simp only [World.size_alloc, World.size_setCell, World.size_drew, setRow_size] at s6
      have B6 : Below w5.heap.size w5 w6 := by (repeat' (first | (with_reducible exact Below.refl _ _) | (with_reducible assumption) | (with_reducible refine Below.alloc ?_ ?_ _) | (with_reducible refine Below.setCell ?_ ?_ _) | (with_reducible refine below_row ?_ ?_ _) | (with_reducible refine Below.drew ?_) | (with_reducible refine below_drewN ?_ _) | (with_reducible refine Below.trans ?_ (Below.mono (by assumption) ?_)) | (first | exact Nat.le_refl _ | omega | (simp; done) | (simp; omega))))
      have HP_6 := Lib.hid (HP_5.out.after B6)
      clear HP_5
      have A6 : Below w.heap.size w w6 := A5.trans (B6.mono A5.size)
      clear A5 hb6 B6
      go_wp2
      go_ret
      exact ⟨rfl, by (repeat' (first | (with_reducible exact Below.refl _ _) | (with_reducible assumption) | (with_reducible refine Below.alloc ?_ ?_ _) | (with_reducible refine Below.setCell ?_ ?_ _) | (with_reducible refine below_row ?_ ?_ _) | (with_reducible refine Below.drew ?_) | (with_reducible refine below_drewN ?_ _) | (with_reducible refine Below.trans ?_ (Below.mono (by assumption) ?_)) | (first | exact Nat.le_refl _ | omega | (simp; done) | (simp; omega))))⟩
    · clear HRR
      replace HR : Hid (∀ W, Below w.heap.size w W → Calls Tryd.prog 21 #[.string s] W fun e w' => e = .returned (.tuple #[.agg #[.int .i64 n', .int .i64 l', .int .i64 u'], .int .u8 un', .int .i64 0]) ∧ Below W.heap.size W w') := Lib.hid (fun W hW => HR.out W hW)
      have HW3 : Hid (∀ W, Below w.heap.size w W → Calls Tryd.prog 20 #[.agg #[.int .i64 n', .int .i64 l', .int .i64 u'], .int .u8 un'] W fun e w' => e = .returned (.tuple #[.string s, .int .i64 0]) ∧ Below W.heap.size W w') := Lib.hid (fun W hW => by
        have h := Write_any un' n' l' u' W (HE.out W hW)
        unfold Wrote at h
        rw [hw3, hb3] at h
        exact h)
      have HC3 := Lib.hid (fun W => Check_ok n' l' u' W ok3)
      clear ok3 hw3 hb3 HE
      go_wp2_with fail
      refine (HR.out _ (A5.trans (Below.mono (by (repeat' (first | (with_reducible exact Below.refl _ _) | (with_reducible assumption) | (with_reducible refine Below.alloc ?_ ?_ _) | (with_reducible refine Below.setCell ?_ ?_ _) | (with_reducible refine below_row ?_ ?_ _) | (with_reducible refine Below.drew ?_) | (with_reducible refine below_drewN ?_ _) | (with_reducible refine Below.trans ?_ (Below.mono (by assumption) ?_)) | (first | exact Nat.le_refl _ | omega | (simp; done) | (simp; omega))))) A5.size))).mono ?_
      rintro _ w6 ⟨rfl, hb6⟩
      have s6 := hb6.size; try simp only [World.size_alloc, World.size_setCell, World.size_drew, setRow_size] at s6
      have B6 : Below w5.heap.size w5 w6 := by (repeat' (first | (with_reducible exact Below.refl _ _) | (with_reducible assumption) | (with_reducible refine Below.alloc ?_ ?_ _) | (with_reducible refine Below.setCell ?_ ?_ _) | (with_reducible refine below_row ?_ ?_ _) | (with_reducible refine Below.drew ?_) | (with_reducible refine below_drewN ?_ _) | (with_reducible refine Below.trans ?_ (Below.mono (by assumption) ?_)) | (first | exact Nat.le_refl _ | omega | (simp; done) | (simp; omega))))
      have HP_6 := Lib.hid (HP_5.out.after B6)
      clear HP_5
      have A6 : Below w.heap.size w w6 := A5.trans (B6.mono A5.size)
      clear A5 hb6 B6
      go_wp2_with fail
      refine (HW3.out _ (A6.trans (Below.mono (by (repeat' (first | (with_reducible exact Below.refl _ _) | (with_reducible assumption) | (with_reducible refine Below.alloc ?_ ?_ _) | (with_reducible refine Below.setCell ?_ ?_ _) | (with_reducible refine below_row ?_ ?_ _) | (with_reducible refine Below.drew ?_) | (with_reducible refine below_drewN ?_ _) | (with_reducible refine Below.trans ?_ (Below.mono (by assumption) ?_)) | (first | exact Nat.le_refl _ | omega | (simp; done) | (simp; omega))))) A6.size))).mono ?_
      rintro _ w7 ⟨rfl, hb7⟩
      have s7 := hb7.size; try simp only [World.size_alloc, World.size_setCell, World.size_drew, setRow_size] at s7
      have B7 : Below w6.heap.size w6 w7 := by (repeat' (first | (with_reducible exact Below.refl _ _) | (with_reducible assumption) | (with_reducible refine Below.alloc ?_ ?_ _) | (with_reducible refine Below.setCell ?_ ?_ _) | (with_reducible refine below_row ?_ ?_ _) | (with_reducible refine Below.drew ?_) | (with_reducible refine below_drewN ?_ _) | (with_reducible refine Below.trans ?_ (Below.mono (by assumption) ?_)) | (first | exact Nat.le_refl _ | omega | (simp; done) | (simp; omega))))
      have HY_7 := Lib.hid (show Lies w7 _ 28 #[.int .i64 n', .int .i64 l', .int .i64 u'] from (by first | exact (Lies.made w6 28 #[.int .i64 n', .int .i64 l', .int .i64 u']).after hb7 | exact ((Lies.made w6 28 #[.int .i64 n', .int .i64 l', .int .i64 u']).alloc _).after hb7 | exact (((Lies.made w6 28 #[.int .i64 n', .int .i64 l', .int .i64 u']).alloc _).alloc _).after hb7))
      have A7 : Below w.heap.size w w7 := A6.trans (B7.mono A6.size)
      clear A6 hb7 B7
      have qY0 := HY_7.out.cell 0
      have qY1 := HY_7.out.cell 1
      have qY2 := HY_7.out.cell 2
      have zY := HY_7.out.lt
      go_wp2_with fail
      refine (HC3.out _).mono ?_
      rintro _ w8 ⟨rfl, hb8⟩
      have s8 := hb8.size; try simp only [World.size_alloc, World.size_setCell, World.size_drew, setRow_size] at s8
      clear qY0 qY1 qY2 zY
      have B8 : Below w7.heap.size w7 w8 := by (repeat' (first | (with_reducible exact Below.refl _ _) | (with_reducible assumption) | (with_reducible refine Below.alloc ?_ ?_ _) | (with_reducible refine Below.setCell ?_ ?_ _) | (with_reducible refine below_row ?_ ?_ _) | (with_reducible refine Below.drew ?_) | (with_reducible refine below_drewN ?_ _) | (with_reducible refine Below.trans ?_ (Below.mono (by assumption) ?_)) | (first | exact Nat.le_refl _ | omega | (simp; done) | (simp; omega))))
      have HY_8 := Lib.hid (HY_7.out.after B8)
      clear HY_7
      have A8 : Below w.heap.size w w8 := A7.trans (B8.mono A7.size)
      clear A7 hb8 B8
      go_wp2
      go_ret
      exact ⟨rfl, by (repeat' (first | (with_reducible exact Below.refl _ _) | (with_reducible assumption) | (with_reducible refine Below.alloc ?_ ?_ _) | (with_reducible refine Below.setCell ?_ ?_ _) | (with_reducible refine below_row ?_ ?_ _) | (with_reducible refine Below.drew ?_) | (with_reducible refine below_drewN ?_ _) | (with_reducible refine Below.trans ?_ (Below.mono (by assumption) ?_)) | (first | exact Nat.le_refl _ | omega | (simp; done) | (simp; omega))))⟩
set_option maxHeartbeats 8000000 in
set_option maxRecDepth 100000 in
theorem rread_bad2 (n l u b : Int) (s : ByteArray) (w : World) (he : Env w) (x0 : 0 ≤ b) (x1 : b ≤ 255) (hs : (s.size : Int) ≤ 200) (hu : unitOf b = 2) (h : okD n l u = false) :
    Calls Tryd.prog 8 #[.agg #[.int .i64 n, .int .i64 l, .int .i64 u], .int .u8 b, .string s] w (Trues w) := by
  have HE := Lib.hid (fun W (hW : Below w.heap.size w W) => he.after hW)
  have HS := Lib.hid (fun W => step_2 b W x0 x1 hu)
  have hs' : ¬ (200 : Int) < (s.size : Int) := by omega
  obtain ⟨r, hr⟩ : ∃ r, readS s = r := ⟨_, rfl⟩
  have HR : Hid (∀ W, Below w.heap.size w W → Calls Tryd.prog 21 #[.string s] W (DidRead r W)) := Lib.hid (fun W hW => hr ▸ Read_any s W (HE.out W hW) (by omega))
  have hR : (r = none) ∨ ∃ n' l' u' un' t, r = some ((n', l', u'), un') ∧ okD n' l' u' = true ∧ writeS un' n' l' u' = (t, 0) ∧ bs t = s := by
    rcases r with _ | ⟨⟨n', l', u'⟩, un'⟩
    · exact .inl rfl
    · obtain ⟨-, h1, t, h2, h3⟩ := readS_some hr
      exact .inr ⟨n', l', u', un', t, rfl, h1, h2, h3⟩
  have HRR := Lib.hid hR
  clear hR hr
  have HW : Hid (∀ W, Below w.heap.size w W → Calls Tryd.prog 20 #[.agg #[.int .i64 n, .int .i64 l, .int .i64 u], .int .u8 2] W fun e w' => e = .returned (.tuple #[.string ⟨#[]⟩, .int .i64 10]) ∧ Below W.heap.size W w') := Lib.hid (fun W hW => Write_bad 2 n l u W h)
  have HX := Lib.hid (fun W => Exact_bad n l u W h)
  clear he x0 x1 hu h
  go_enter Tryd.func8, Tryd.ntmps8
  go_wp2_with fail
  refine (alive_any _ (HE.out _ (by (repeat' (first | (with_reducible exact Below.refl _ _) | (with_reducible assumption) | (with_reducible refine Below.alloc ?_ ?_ _) | (with_reducible refine Below.setCell ?_ ?_ _) | (with_reducible refine below_row ?_ ?_ _) | (with_reducible refine Below.drew ?_) | (with_reducible refine below_drewN ?_ _) | (with_reducible refine Below.trans ?_ (Below.mono (by assumption) ?_)) | (first | exact Nat.le_refl _ | omega | (simp; done) | (simp; omega))))))).mono ?_
  rintro _ w1 ⟨rfl, hb1⟩
  have s1 := hb1.size; try simp only [World.size_alloc, World.size_setCell, World.size_drew, setRow_size] at s1
  have B1 : Below w.heap.size w w1 := by (repeat' (first | (with_reducible exact Below.refl _ _) | (with_reducible assumption) | (with_reducible refine Below.alloc ?_ ?_ _) | (with_reducible refine Below.setCell ?_ ?_ _) | (with_reducible refine below_row ?_ ?_ _) | (with_reducible refine Below.drew ?_) | (with_reducible refine below_drewN ?_ _) | (with_reducible refine Below.trans ?_ (Below.mono (by assumption) ?_)) | (first | exact Nat.le_refl _ | omega | (simp; done) | (simp; omega))))
  have HP_1 := Lib.hid (show Lies w1 _ 28 #[.int .i64 n, .int .i64 l, .int .i64 u] from (by first | exact (Lies.made w 28 #[.int .i64 n, .int .i64 l, .int .i64 u]).after hb1 | exact ((Lies.made w 28 #[.int .i64 n, .int .i64 l, .int .i64 u]).alloc _).after hb1 | exact (((Lies.made w 28 #[.int .i64 n, .int .i64 l, .int .i64 u]).alloc _).alloc _).after hb1))
  have A1 : Below w.heap.size w w1 := B1
  clear hb1 B1
  have qP0 := HP_1.out.cell 0
  have qP1 := HP_1.out.cell 1
  have qP2 := HP_1.out.cell 2
  have zP := HP_1.out.lt
  go_wp2_with fail
  refine (HS.out _).mono ?_
  rintro _ w2 ⟨rfl, hb2⟩
  have s2 := hb2.size; try simp only [World.size_alloc, World.size_setCell, World.size_drew, setRow_size] at s2
  clear qP0 qP1 qP2 zP
  have B2 : Below w1.heap.size w1 w2 := by (repeat' (first | (with_reducible exact Below.refl _ _) | (with_reducible assumption) | (with_reducible refine Below.alloc ?_ ?_ _) | (with_reducible refine Below.setCell ?_ ?_ _) | (with_reducible refine below_row ?_ ?_ _) | (with_reducible refine Below.drew ?_) | (with_reducible refine below_drewN ?_ _) | (with_reducible refine Below.trans ?_ (Below.mono (by assumption) ?_)) | (first | exact Nat.le_refl _ | omega | (simp; done) | (simp; omega))))
  have HP_2 := Lib.hid (HP_1.out.after B2)
  clear HP_1
  have A2 : Below w.heap.size w w2 := A1.trans (B2.mono A1.size)
  clear A1 hb2 B2
  have qP0 := HP_2.out.cell 0
  have qP1 := HP_2.out.cell 1
  have qP2 := HP_2.out.cell 2
  have zP := HP_2.out.lt
  go_wp2_with fail
  refine (HW.out _ (A2.trans (Below.mono (by (repeat' (first | (with_reducible exact Below.refl _ _) | (with_reducible assumption) | (with_reducible refine Below.alloc ?_ ?_ _) | (with_reducible refine Below.setCell ?_ ?_ _) | (with_reducible refine below_row ?_ ?_ _) | (with_reducible refine Below.drew ?_) | (with_reducible refine below_drewN ?_ _) | (with_reducible refine Below.trans ?_ (Below.mono (by assumption) ?_)) | (first | exact Nat.le_refl _ | omega | (simp; done) | (simp; omega))))) A2.size))).mono ?_
  rintro _ w3 ⟨rfl, hb3⟩
  have s3 := hb3.size; try simp only [World.size_alloc, World.size_setCell, World.size_drew, setRow_size] at s3
  clear qP0 qP1 qP2 zP
  have B3 : Below w2.heap.size w2 w3 := by (repeat' (first | (with_reducible exact Below.refl _ _) | (with_reducible assumption) | (with_reducible refine Below.alloc ?_ ?_ _) | (with_reducible refine Below.setCell ?_ ?_ _) | (with_reducible refine below_row ?_ ?_ _) | (with_reducible refine Below.drew ?_) | (with_reducible refine below_drewN ?_ _) | (with_reducible refine Below.trans ?_ (Below.mono (by assumption) ?_)) | (first | exact Nat.le_refl _ | omega | (simp; done) | (simp; omega))))
  have HP_3 := Lib.hid (HP_2.out.after B3)
  clear HP_2
  have A3 : Below w.heap.size w w3 := A2.trans (B3.mono A2.size)
  clear A2 hb3 B3
  have qP0 := HP_3.out.cell 0
  have qP1 := HP_3.out.cell 1
  have qP2 := HP_3.out.cell 2
  have zP := HP_3.out.lt
  go_wp2_with fail
  refine (HX.out _).mono ?_
  rintro _ w4 ⟨rfl, hb4⟩
  have s4 := hb4.size; try simp only [World.size_alloc, World.size_setCell, World.size_drew, setRow_size] at s4
  clear qP0 qP1 qP2 zP
  have B4 : Below w3.heap.size w3 w4 := by (repeat' (first | (with_reducible exact Below.refl _ _) | (with_reducible assumption) | (with_reducible refine Below.alloc ?_ ?_ _) | (with_reducible refine Below.setCell ?_ ?_ _) | (with_reducible refine below_row ?_ ?_ _) | (with_reducible refine Below.drew ?_) | (with_reducible refine below_drewN ?_ _) | (with_reducible refine Below.trans ?_ (Below.mono (by assumption) ?_)) | (first | exact Nat.le_refl _ | omega | (simp; done) | (simp; omega))))
  have HP_4 := Lib.hid (HP_3.out.after B4)
  clear HP_3
  have A4 : Below w.heap.size w w4 := A3.trans (B4.mono A3.size)
  clear A3 hb4 B4
  have qP0 := HP_4.out.cell 0
  have qP1 := HP_4.out.cell 1
  have qP2 := HP_4.out.cell 2
  have zP := HP_4.out.lt
  rcases HRR.out with rfl | ⟨n', l', u', un', t3, rfl, ok3, hw3, hb3⟩
  · clear HRR
    replace HR : Hid (∀ W, Below w.heap.size w W → Calls Tryd.prog 21 #[.string s] W fun e w' => e = .returned (.tuple #[.agg #[.int .i64 0, .int .i64 0, .int .i64 0], .int .u8 0, .int .i64 13]) ∧ Below W.heap.size W w') := Lib.hid (fun W hW => HR.out W hW)
    go_wp2_with fail
    refine (HR.out _ (A4.trans (Below.mono (by (repeat' (first | (with_reducible exact Below.refl _ _) | (with_reducible assumption) | (with_reducible refine Below.alloc ?_ ?_ _) | (with_reducible refine Below.setCell ?_ ?_ _) | (with_reducible refine below_row ?_ ?_ _) | (with_reducible refine Below.drew ?_) | (with_reducible refine below_drewN ?_ _) | (with_reducible refine Below.trans ?_ (Below.mono (by assumption) ?_)) | (first | exact Nat.le_refl _ | omega | (simp; done) | (simp; omega))))) A4.size))).mono ?_
    rintro _ w5 ⟨rfl, hb5⟩
    have s5 := hb5.size; try simp only [World.size_alloc, World.size_setCell, World.size_drew, setRow_size] at s5
    have B5 : Below w4.heap.size w4 w5 := by (repeat' (first | (with_reducible exact Below.refl _ _) | (with_reducible assumption) | (with_reducible refine Below.alloc ?_ ?_ _) | (with_reducible refine Below.setCell ?_ ?_ _) | (with_reducible refine below_row ?_ ?_ _) | (with_reducible refine Below.drew ?_) | (with_reducible refine below_drewN ?_ _) | (with_reducible refine Below.trans ?_ (Below.mono (by assumption) ?_)) | (first | exact Nat.le_refl _ | omega | (simp; done) | (simp; omega))))
    have HP_5 := Lib.hid (HP_4.out.after B5)
    clear HP_4
    have A5 : Below w.heap.size w w5 := A4.trans (B5.mono A4.size)
    clear A4 hb5 B5
    go_wp2
    go_ret
    exact ⟨rfl, by (repeat' (first | (with_reducible exact Below.refl _ _) | (with_reducible assumption) | (with_reducible refine Below.alloc ?_ ?_ _) | (with_reducible refine Below.setCell ?_ ?_ _) | (with_reducible refine below_row ?_ ?_ _) | (with_reducible refine Below.drew ?_) | (with_reducible refine below_drewN ?_ _) | (with_reducible refine Below.trans ?_ (Below.mono (by assumption) ?_)) | (first | exact Nat.le_refl _ | omega | (simp; done) | (simp; omega))))⟩
  · clear HRR
    replace HR : Hid (∀ W, Below w.heap.size w W → Calls Tryd.prog 21 #[.string s] W fun e w' => e = .returned (.tuple #[.agg #[.int .i64 n', .int .i64 l', .int .i64 u'], .int .u8 un', .int .i64 0]) ∧ Below W.heap.size W w') := Lib.hid (fun W hW => HR.out W hW)
    have HW3 : Hid (∀ W, Below w.heap.size w W → Calls Tryd.prog 20 #[.agg #[.int .i64 n', .int .i64 l', .int .i64 u'], .int .u8 un'] W fun e w' => e = .returned (.tuple #[.string s, .int .i64 0]) ∧ Below W.heap.size W w') := Lib.hid (fun W hW => by
      have h := Write_any un' n' l' u' W (HE.out W hW)
      unfold Wrote at h
      rw [hw3, hb3] at h
      exact h)
    have HC3 := Lib.hid (fun W => Check_ok n' l' u' W ok3)
    clear ok3 hw3 hb3 HE
    go_wp2_with fail
    refine (HR.out _ (A4.trans (Below.mono (by (repeat' (first | (with_reducible exact Below.refl _ _) | (with_reducible assumption) | (with_reducible refine Below.alloc ?_ ?_ _) | (with_reducible refine Below.setCell ?_ ?_ _) | (with_reducible refine below_row ?_ ?_ _) | (with_reducible refine Below.drew ?_) | (with_reducible refine below_drewN ?_ _) | (with_reducible refine Below.trans ?_ (Below.mono (by assumption) ?_)) | (first | exact Nat.le_refl _ | omega | (simp; done) | (simp; omega))))) A4.size))).mono ?_
    rintro _ w5 ⟨rfl, hb5⟩
    have s5 := hb5.size; try simp only [World.size_alloc, World.size_setCell, World.size_drew, setRow_size] at s5
    have B5 : Below w4.heap.size w4 w5 := by (repeat' (first | (with_reducible exact Below.refl _ _) | (with_reducible assumption) | (with_reducible refine Below.alloc ?_ ?_ _) | (with_reducible refine Below.setCell ?_ ?_ _) | (with_reducible refine below_row ?_ ?_ _) | (with_reducible refine Below.drew ?_) | (with_reducible refine below_drewN ?_ _) | (with_reducible refine Below.trans ?_ (Below.mono (by assumption) ?_)) | (first | exact Nat.le_refl _ | omega | (simp; done) | (simp; omega))))
    have HP_5 := Lib.hid (HP_4.out.after B5)
    clear HP_4
    have A5 : Below w.heap.size w w5 := A4.trans (B5.mono A4.size)
    clear A4 hb5 B5
    go_wp2_with fail
    refine (HW3.out _ (A5.trans (Below.mono (by (repeat' (first | (with_reducible exact Below.refl _ _) | (with_reducible assumption) | (with_reducible refine Below.alloc ?_ ?_ _) | (with_reducible refine Below.setCell ?_ ?_ _) | (with_reducible refine below_row ?_ ?_ _) | (with_reducible refine Below.drew ?_) | (with_reducible refine below_drewN ?_ _) | (with_reducible refine Below.trans ?_ (Below.mono (by assumption) ?_)) | (first | exact Nat.le_refl _ | omega | (simp; done) | (simp; omega))))) A5.size))).mono ?_
    rintro _ w6 ⟨rfl, hb6⟩
    have s6 := hb6.size; try simp only [World.size_alloc, World.size_setCell, World.size_drew, setRow_size] at s6
    have B6 : Below w5.heap.size w5 w6 := by (repeat' (first | (with_reducible exact Below.refl _ _) | (with_reducible assumption) | (with_reducible refine Below.alloc ?_ ?_ _) | (with_reducible refine Below.setCell ?_ ?_ _) | (with_reducible refine below_row ?_ ?_ _) | (with_reducible refine Below.drew ?_) | (with_reducible refine below_drewN ?_ _) | (with_reducible refine Below.trans ?_ (Below.mono (by assumption) ?_)) | (first | exact Nat.le_refl _ | omega | (simp; done) | (simp; omega))))
    have HY_6 := Lib.hid (show Lies w6 _ 28 #[.int .i64 n', .int .i64 l', .int .i64 u'] from (by first | exact (Lies.made w5 28 #[.int .i64 n', .int .i64 l', .int .i64 u']).after hb6 | exact ((Lies.made w5 28 #[.int .i64 n', .int .i64 l', .int .i64 u']).alloc _).after hb6 | exact (((Lies.made w5 28 #[.int .i64 n', .int .i64 l', .int .i64 u']).alloc _).alloc _).after hb6))
    have A6 : Below w.heap.size w w6 := A5.trans (B6.mono A5.size)
    clear A5 hb6 B6
    have qY0 := HY_6.out.cell 0
    have qY1 := HY_6.out.cell 1
    have qY2 := HY_6.out.cell 2
    have zY := HY_6.out.lt
    go_wp2_with fail
    refine (HC3.out _).mono ?_
    rintro _ w7 ⟨rfl, hb7⟩
    have s7 := hb7.size; try simp only [World.size_alloc, World.size_setCell, World.size_drew, setRow_size] at s7
    clear qY0 qY1 qY2 zY
    have B7 : Below w6.heap.size w6 w7 := by (repeat' (first | (with_reducible exact Below.refl _ _) | (with_reducible assumption) | (with_reducible refine Below.alloc ?_ ?_ _) | (with_reducible refine Below.setCell ?_ ?_ _) | (with_reducible refine below_row ?_ ?_ _) | (with_reducible refine Below.drew ?_) | (with_reducible refine below_drewN ?_ _) | (with_reducible refine Below.trans ?_ (Below.mono (by assumption) ?_)) | (first | exact Nat.le_refl _ | omega | (simp; done) | (simp; omega))))
    have HY_7 := Lib.hid (HY_6.out.after B7)
    clear HY_6
    have A7 : Below w.heap.size w w7 := A6.trans (B7.mono A6.size)
    clear A6 hb7 B7
    go_wp2
    go_ret
    exact ⟨rfl, by (repeat' (first | (with_reducible exact Below.refl _ _) | (with_reducible assumption) | (with_reducible refine Below.alloc ?_ ?_ _) | (with_reducible refine Below.setCell ?_ ?_ _) | (with_reducible refine below_row ?_ ?_ _) | (with_reducible refine Below.drew ?_) | (with_reducible refine below_drewN ?_ _) | (with_reducible refine Below.trans ?_ (Below.mono (by assumption) ?_)) | (first | exact Nat.le_refl _ | omega | (simp; done) | (simp; omega))))⟩
set_option maxHeartbeats 8000000 in
set_option maxRecDepth 100000 in
theorem rread_odd2 (n l u b : Int) (s : ByteArray) (w : World) (he : Env w) (x0 : 0 ≤ b) (x1 : b ≤ 255) (hs : (s.size : Int) ≤ 200) (hu : unitOf b = 2) (h : okD n l u = true) (t : List UInt8) (hw : writeS 2 n l u = (t, 12)) (hE : exactU n l u = 0 ∨ exactU n l u = 1) :
    Calls Tryd.prog 8 #[.agg #[.int .i64 n, .int .i64 l, .int .i64 u], .int .u8 b, .string s] w (Trues w) := by
  have HE := Lib.hid (fun W (hW : Below w.heap.size w W) => he.after hW)
  have HS := Lib.hid (fun W => step_2 b W x0 x1 hu)
  have hs' : ¬ (200 : Int) < (s.size : Int) := by omega
  obtain ⟨r, hr⟩ : ∃ r, readS s = r := ⟨_, rfl⟩
  have HR : Hid (∀ W, Below w.heap.size w W → Calls Tryd.prog 21 #[.string s] W (DidRead r W)) := Lib.hid (fun W hW => hr ▸ Read_any s W (HE.out W hW) (by omega))
  have hR : (r = none) ∨ ∃ n' l' u' un' t, r = some ((n', l', u'), un') ∧ okD n' l' u' = true ∧ writeS un' n' l' u' = (t, 0) ∧ bs t = s := by
    rcases r with _ | ⟨⟨n', l', u'⟩, un'⟩
    · exact .inl rfl
    · obtain ⟨-, h1, t, h2, h3⟩ := readS_some hr
      exact .inr ⟨n', l', u', un', t, rfl, h1, h2, h3⟩
  have HRR := Lib.hid hR
  clear hR hr
  have HW : Hid (∀ W, Below w.heap.size w W → Calls Tryd.prog 20 #[.agg #[.int .i64 n, .int .i64 l, .int .i64 u], .int .u8 2] W fun e w' => e = .returned (.tuple #[.string (bs t), .int .i64 12]) ∧ Below W.heap.size W w') := Lib.hid (fun W hW => by
    have h := Write_any 2 n l u W (HE.out W hW)
    unfold Wrote at h
    rw [hw] at h
    exact h)
  have HX := Lib.hid (fun W => Exact_ok n l u W h)
  generalize exactU n l u = E at *
  generalize bs t = T at *
  clear he x0 x1 hu h hw
  go_enter Tryd.func8, Tryd.ntmps8
  go_wp2_with fail
  refine (alive_any _ (HE.out _ (by (repeat' (first | (with_reducible exact Below.refl _ _) | (with_reducible assumption) | (with_reducible refine Below.alloc ?_ ?_ _) | (with_reducible refine Below.setCell ?_ ?_ _) | (with_reducible refine below_row ?_ ?_ _) | (with_reducible refine Below.drew ?_) | (with_reducible refine below_drewN ?_ _) | (with_reducible refine Below.trans ?_ (Below.mono (by assumption) ?_)) | (first | exact Nat.le_refl _ | omega | (simp; done) | (simp; omega))))))).mono ?_
  rintro _ w1 ⟨rfl, hb1⟩
  have s1 := hb1.size; try simp only [World.size_alloc, World.size_setCell, World.size_drew, setRow_size] at s1
  have B1 : Below w.heap.size w w1 := by (repeat' (first | (with_reducible exact Below.refl _ _) | (with_reducible assumption) | (with_reducible refine Below.alloc ?_ ?_ _) | (with_reducible refine Below.setCell ?_ ?_ _) | (with_reducible refine below_row ?_ ?_ _) | (with_reducible refine Below.drew ?_) | (with_reducible refine below_drewN ?_ _) | (with_reducible refine Below.trans ?_ (Below.mono (by assumption) ?_)) | (first | exact Nat.le_refl _ | omega | (simp; done) | (simp; omega))))
  have HP_1 := Lib.hid (show Lies w1 _ 28 #[.int .i64 n, .int .i64 l, .int .i64 u] from (by first | exact (Lies.made w 28 #[.int .i64 n, .int .i64 l, .int .i64 u]).after hb1 | exact ((Lies.made w 28 #[.int .i64 n, .int .i64 l, .int .i64 u]).alloc _).after hb1 | exact (((Lies.made w 28 #[.int .i64 n, .int .i64 l, .int .i64 u]).alloc _).alloc _).after hb1))
  have A1 : Below w.heap.size w w1 := B1
  clear hb1 B1
  have qP0 := HP_1.out.cell 0
  have qP1 := HP_1.out.cell 1
  have qP2 := HP_1.out.cell 2
  have zP := HP_1.out.lt
  go_wp2_with fail
  refine (HS.out _).mono ?_
  rintro _ w2 ⟨rfl, hb2⟩
  have s2 := hb2.size; try simp only [World.size_alloc, World.size_setCell, World.size_drew, setRow_size] at s2
  clear qP0 qP1 qP2 zP
  have B2 : Below w1.heap.size w1 w2 := by (repeat' (first | (with_reducible exact Below.refl _ _) | (with_reducible assumption) | (with_reducible refine Below.alloc ?_ ?_ _) | (with_reducible refine Below.setCell ?_ ?_ _) | (with_reducible refine below_row ?_ ?_ _) | (with_reducible refine Below.drew ?_) | (with_reducible refine below_drewN ?_ _) | (with_reducible refine Below.trans ?_ (Below.mono (by assumption) ?_)) | (first | exact Nat.le_refl _ | omega | (simp; done) | (simp; omega))))
  have HP_2 := Lib.hid (HP_1.out.after B2)
  clear HP_1
  have A2 : Below w.heap.size w w2 := A1.trans (B2.mono A1.size)
  clear A1 hb2 B2
  have qP0 := HP_2.out.cell 0
  have qP1 := HP_2.out.cell 1
  have qP2 := HP_2.out.cell 2
  have zP := HP_2.out.lt
  go_wp2_with fail
  refine (HW.out _ (A2.trans (Below.mono (by (repeat' (first | (with_reducible exact Below.refl _ _) | (with_reducible assumption) | (with_reducible refine Below.alloc ?_ ?_ _) | (with_reducible refine Below.setCell ?_ ?_ _) | (with_reducible refine below_row ?_ ?_ _) | (with_reducible refine Below.drew ?_) | (with_reducible refine below_drewN ?_ _) | (with_reducible refine Below.trans ?_ (Below.mono (by assumption) ?_)) | (first | exact Nat.le_refl _ | omega | (simp; done) | (simp; omega))))) A2.size))).mono ?_
  rintro _ w3 ⟨rfl, hb3⟩
  have s3 := hb3.size; try simp only [World.size_alloc, World.size_setCell, World.size_drew, setRow_size] at s3
  clear qP0 qP1 qP2 zP
  have B3 : Below w2.heap.size w2 w3 := by (repeat' (first | (with_reducible exact Below.refl _ _) | (with_reducible assumption) | (with_reducible refine Below.alloc ?_ ?_ _) | (with_reducible refine Below.setCell ?_ ?_ _) | (with_reducible refine below_row ?_ ?_ _) | (with_reducible refine Below.drew ?_) | (with_reducible refine below_drewN ?_ _) | (with_reducible refine Below.trans ?_ (Below.mono (by assumption) ?_)) | (first | exact Nat.le_refl _ | omega | (simp; done) | (simp; omega))))
  have HP_3 := Lib.hid (HP_2.out.after B3)
  clear HP_2
  have A3 : Below w.heap.size w w3 := A2.trans (B3.mono A2.size)
  clear A2 hb3 B3
  have qP0 := HP_3.out.cell 0
  have qP1 := HP_3.out.cell 1
  have qP2 := HP_3.out.cell 2
  have zP := HP_3.out.lt
  go_wp2_with fail
  refine (HX.out _).mono ?_
  rintro _ w4 ⟨rfl, hb4⟩
  have s4 := hb4.size; try simp only [World.size_alloc, World.size_setCell, World.size_drew, setRow_size] at s4
  clear qP0 qP1 qP2 zP
  have B4 : Below w3.heap.size w3 w4 := by (repeat' (first | (with_reducible exact Below.refl _ _) | (with_reducible assumption) | (with_reducible refine Below.alloc ?_ ?_ _) | (with_reducible refine Below.setCell ?_ ?_ _) | (with_reducible refine below_row ?_ ?_ _) | (with_reducible refine Below.drew ?_) | (with_reducible refine below_drewN ?_ _) | (with_reducible refine Below.trans ?_ (Below.mono (by assumption) ?_)) | (first | exact Nat.le_refl _ | omega | (simp; done) | (simp; omega))))
  have HP_4 := Lib.hid (HP_3.out.after B4)
  clear HP_3
  have A4 : Below w.heap.size w w4 := A3.trans (B4.mono A3.size)
  clear A3 hb4 B4
  have qP0 := HP_4.out.cell 0
  have qP1 := HP_4.out.cell 1
  have qP2 := HP_4.out.cell 2
  have zP := HP_4.out.lt
  rcases hE with rfl | rfl
  all_goals
    rcases HRR.out with rfl | ⟨n', l', u', un', t3, rfl, ok3, hw3, hb3⟩
    · clear HRR
      replace HR : Hid (∀ W, Below w.heap.size w W → Calls Tryd.prog 21 #[.string s] W fun e w' => e = .returned (.tuple #[.agg #[.int .i64 0, .int .i64 0, .int .i64 0], .int .u8 0, .int .i64 13]) ∧ Below W.heap.size W w') := Lib.hid (fun W hW => HR.out W hW)
      go_wp2_with fail
      refine (HR.out _ (A4.trans (Below.mono (by (repeat' (first | (with_reducible exact Below.refl _ _) | (with_reducible assumption) | (with_reducible refine Below.alloc ?_ ?_ _) | (with_reducible refine Below.setCell ?_ ?_ _) | (with_reducible refine below_row ?_ ?_ _) | (with_reducible refine Below.drew ?_) | (with_reducible refine below_drewN ?_ _) | (with_reducible refine Below.trans ?_ (Below.mono (by assumption) ?_)) | (first | exact Nat.le_refl _ | omega | (simp; done) | (simp; omega))))) A4.size))).mono ?_
      rintro _ w5 ⟨rfl, hb5⟩
      have s5 := hb5.size; try simp only [World.size_alloc, World.size_setCell, World.size_drew, setRow_size] at s5
      have B5 : Below w4.heap.size w4 w5 := by (repeat' (first | (with_reducible exact Below.refl _ _) | (with_reducible assumption) | (with_reducible refine Below.alloc ?_ ?_ _) | (with_reducible refine Below.setCell ?_ ?_ _) | (with_reducible refine below_row ?_ ?_ _) | (with_reducible refine Below.drew ?_) | (with_reducible refine below_drewN ?_ _) | (with_reducible refine Below.trans ?_ (Below.mono (by assumption) ?_)) | (first | exact Nat.le_refl _ | omega | (simp; done) | (simp; omega))))
      have HP_5 := Lib.hid (HP_4.out.after B5)
      clear HP_4
      have A5 : Below w.heap.size w w5 := A4.trans (B5.mono A4.size)
      clear A4 hb5 B5
      go_wp2
      go_ret
      exact ⟨rfl, by (repeat' (first | (with_reducible exact Below.refl _ _) | (with_reducible assumption) | (with_reducible refine Below.alloc ?_ ?_ _) | (with_reducible refine Below.setCell ?_ ?_ _) | (with_reducible refine below_row ?_ ?_ _) | (with_reducible refine Below.drew ?_) | (with_reducible refine below_drewN ?_ _) | (with_reducible refine Below.trans ?_ (Below.mono (by assumption) ?_)) | (first | exact Nat.le_refl _ | omega | (simp; done) | (simp; omega))))⟩
    · clear HRR
      replace HR : Hid (∀ W, Below w.heap.size w W → Calls Tryd.prog 21 #[.string s] W fun e w' => e = .returned (.tuple #[.agg #[.int .i64 n', .int .i64 l', .int .i64 u'], .int .u8 un', .int .i64 0]) ∧ Below W.heap.size W w') := Lib.hid (fun W hW => HR.out W hW)
      have HW3 : Hid (∀ W, Below w.heap.size w W → Calls Tryd.prog 20 #[.agg #[.int .i64 n', .int .i64 l', .int .i64 u'], .int .u8 un'] W fun e w' => e = .returned (.tuple #[.string s, .int .i64 0]) ∧ Below W.heap.size W w') := Lib.hid (fun W hW => by
        have h := Write_any un' n' l' u' W (HE.out W hW)
        unfold Wrote at h
        rw [hw3, hb3] at h
        exact h)
      have HC3 := Lib.hid (fun W => Check_ok n' l' u' W ok3)
      clear ok3 hw3 hb3 HE
      go_wp2_with fail
      refine (HR.out _ (A4.trans (Below.mono (by (repeat' (first | (with_reducible exact Below.refl _ _) | (with_reducible assumption) | (with_reducible refine Below.alloc ?_ ?_ _) | (with_reducible refine Below.setCell ?_ ?_ _) | (with_reducible refine below_row ?_ ?_ _) | (with_reducible refine Below.drew ?_) | (with_reducible refine below_drewN ?_ _) | (with_reducible refine Below.trans ?_ (Below.mono (by assumption) ?_)) | (first | exact Nat.le_refl _ | omega | (simp; done) | (simp; omega))))) A4.size))).mono ?_
      rintro _ w5 ⟨rfl, hb5⟩
      have s5 := hb5.size; try simp only [World.size_alloc, World.size_setCell, World.size_drew, setRow_size] at s5
      have B5 : Below w4.heap.size w4 w5 := by (repeat' (first | (with_reducible exact Below.refl _ _) | (with_reducible assumption) | (with_reducible refine Below.alloc ?_ ?_ _) | (with_reducible refine Below.setCell ?_ ?_ _) | (with_reducible refine below_row ?_ ?_ _) | (with_reducible refine Below.drew ?_) | (with_reducible refine below_drewN ?_ _) | (with_reducible refine Below.trans ?_ (Below.mono (by assumption) ?_)) | (first | exact Nat.le_refl _ | omega | (simp; done) | (simp; omega))))
      have HP_5 := Lib.hid (HP_4.out.after B5)
      clear HP_4
      have A5 : Below w.heap.size w w5 := A4.trans (B5.mono A4.size)
      clear A4 hb5 B5
      go_wp2_with fail
      refine (HW3.out _ (A5.trans (Below.mono (by (repeat' (first | (with_reducible exact Below.refl _ _) | (with_reducible assumption) | (with_reducible refine Below.alloc ?_ ?_ _) | (with_reducible refine Below.setCell ?_ ?_ _) | (with_reducible refine below_row ?_ ?_ _) | (with_reducible refine Below.drew ?_) | (with_reducible refine below_drewN ?_ _) | (with_reducible refine Below.trans ?_ (Below.mono (by assumption) ?_)) | (first | exact Nat.le_refl _ | omega | (simp; done) | (simp; omega))))) A5.size))).mono ?_
      rintro _ w6 ⟨rfl, hb6⟩
      have s6 := hb6.size; try simp only [World.size_alloc, World.size_setCell, World.size_drew, setRow_size] at s6
      have B6 : Below w5.heap.size w5 w6 := by (repeat' (first | (with_reducible exact Below.refl _ _) | (with_reducible assumption) | (with_reducible refine Below.alloc ?_ ?_ _) | (with_reducible refine Below.setCell ?_ ?_ _) | (with_reducible refine below_row ?_ ?_ _) | (with_reducible refine Below.drew ?_) | (with_reducible refine below_drewN ?_ _) | (with_reducible refine Below.trans ?_ (Below.mono (by assumption) ?_)) | (first | exact Nat.le_refl _ | omega | (simp; done) | (simp; omega))))
      have HY_6 := Lib.hid (show Lies w6 _ 28 #[.int .i64 n', .int .i64 l', .int .i64 u'] from (by first | exact (Lies.made w5 28 #[.int .i64 n', .int .i64 l', .int .i64 u']).after hb6 | exact ((Lies.made w5 28 #[.int .i64 n', .int .i64 l', .int .i64 u']).alloc _).after hb6 | exact (((Lies.made w5 28 #[.int .i64 n', .int .i64 l', .int .i64 u']).alloc _).alloc _).after hb6))
      have A6 : Below w.heap.size w w6 := A5.trans (B6.mono A5.size)
      clear A5 hb6 B6
      have qY0 := HY_6.out.cell 0
      have qY1 := HY_6.out.cell 1
      have qY2 := HY_6.out.cell 2
      have zY := HY_6.out.lt
      go_wp2_with fail
      refine (HC3.out _).mono ?_
      rintro _ w7 ⟨rfl, hb7⟩
      have s7 := hb7.size; try simp only [World.size_alloc, World.size_setCell, World.size_drew, setRow_size] at s7
      clear qY0 qY1 qY2 zY
      have B7 : Below w6.heap.size w6 w7 := by (repeat' (first | (with_reducible exact Below.refl _ _) | (with_reducible assumption) | (with_reducible refine Below.alloc ?_ ?_ _) | (with_reducible refine Below.setCell ?_ ?_ _) | (with_reducible refine below_row ?_ ?_ _) | (with_reducible refine Below.drew ?_) | (with_reducible refine below_drewN ?_ _) | (with_reducible refine Below.trans ?_ (Below.mono (by assumption) ?_)) | (first | exact Nat.le_refl _ | omega | (simp; done) | (simp; omega))))
      have HY_7 := Lib.hid (HY_6.out.after B7)
      clear HY_6
      have A7 : Below w.heap.size w w7 := A6.trans (B7.mono A6.size)
      clear A6 hb7 B7
      go_wp2
      go_ret
      exact ⟨rfl, by (repeat' (first | (with_reducible exact Below.refl _ _) | (with_reducible assumption) | (with_reducible refine Below.alloc ?_ ?_ _) | (with_reducible refine Below.setCell ?_ ?_ _) | (with_reducible refine below_row ?_ ?_ _) | (with_reducible refine Below.drew ?_) | (with_reducible refine below_drewN ?_ _) | (with_reducible refine Below.trans ?_ (Below.mono (by assumption) ?_)) | (first | exact Nat.le_refl _ | omega | (simp; done) | (simp; omega))))⟩
set_option maxHeartbeats 8000000 in
set_option maxRecDepth 100000 in
theorem rread_good2 (n l u b : Int) (s : ByteArray) (w : World) (he : Env w) (x0 : 0 ≤ b) (x1 : b ≤ 255) (hs : (s.size : Int) ≤ 200) (hu : unitOf b = 2) (h : okD n l u = true) (t : List UInt8) (hw : writeS 2 n l u = (t, 0)) (hrt : readS (bs t) = some ((n, l, u), 2)) (hz : (bs t).size ≤ 1000000) (hE : exactU n l u = 2 ∨ exactU n l u = 3) :
    Calls Tryd.prog 8 #[.agg #[.int .i64 n, .int .i64 l, .int .i64 u], .int .u8 b, .string s] w (Trues w) := by
  have HE := Lib.hid (fun W (hW : Below w.heap.size w W) => he.after hW)
  have HS := Lib.hid (fun W => step_2 b W x0 x1 hu)
  have hs' : ¬ (200 : Int) < (s.size : Int) := by omega
  obtain ⟨r, hr⟩ : ∃ r, readS s = r := ⟨_, rfl⟩
  have HR : Hid (∀ W, Below w.heap.size w W → Calls Tryd.prog 21 #[.string s] W (DidRead r W)) := Lib.hid (fun W hW => hr ▸ Read_any s W (HE.out W hW) (by omega))
  have hR : (r = none) ∨ ∃ n' l' u' un' t, r = some ((n', l', u'), un') ∧ okD n' l' u' = true ∧ writeS un' n' l' u' = (t, 0) ∧ bs t = s := by
    rcases r with _ | ⟨⟨n', l', u'⟩, un'⟩
    · exact .inl rfl
    · obtain ⟨-, h1, t, h2, h3⟩ := readS_some hr
      exact .inr ⟨n', l', u', un', t, rfl, h1, h2, h3⟩
  have HRR := Lib.hid hR
  clear hR hr
  have HW : Hid (∀ W, Below w.heap.size w W → Calls Tryd.prog 20 #[.agg #[.int .i64 n, .int .i64 l, .int .i64 u], .int .u8 2] W fun e w' => e = .returned (.tuple #[.string (bs t), .int .i64 0]) ∧ Below W.heap.size W w') := Lib.hid (fun W hW => by
    have h := Write_any 2 n l u W (HE.out W hW)
    unfold Wrote at h
    rw [hw] at h
    exact h)
  have HT : Hid (∀ W, Below w.heap.size w W → Calls Tryd.prog 21 #[.string (bs t)] W fun e w' => e = .returned (.tuple #[.agg #[.int .i64 n, .int .i64 l, .int .i64 u], .int .u8 2, .int .i64 0]) ∧ Below W.heap.size W w') := Lib.hid (fun W hW => by
    have h := Read_any (bs t) W (HE.out W hW) hz
    rw [hrt] at h
    exact h)
  have HX := Lib.hid (fun W => Exact_ok n l u W h)
  generalize exactU n l u = E at *
  generalize bs t = T at *
  clear he x0 x1 hu h hw hrt hz
  go_enter Tryd.func8, Tryd.ntmps8
  go_wp2_with fail
  refine (alive_any _ (HE.out _ (by (repeat' (first | (with_reducible exact Below.refl _ _) | (with_reducible assumption) | (with_reducible refine Below.alloc ?_ ?_ _) | (with_reducible refine Below.setCell ?_ ?_ _) | (with_reducible refine below_row ?_ ?_ _) | (with_reducible refine Below.drew ?_) | (with_reducible refine below_drewN ?_ _) | (with_reducible refine Below.trans ?_ (Below.mono (by assumption) ?_)) | (first | exact Nat.le_refl _ | omega | (simp; done) | (simp; omega))))))).mono ?_
  rintro _ w1 ⟨rfl, hb1⟩
  have s1 := hb1.size; try simp only [World.size_alloc, World.size_setCell, World.size_drew, setRow_size] at s1
  have B1 : Below w.heap.size w w1 := by (repeat' (first | (with_reducible exact Below.refl _ _) | (with_reducible assumption) | (with_reducible refine Below.alloc ?_ ?_ _) | (with_reducible refine Below.setCell ?_ ?_ _) | (with_reducible refine below_row ?_ ?_ _) | (with_reducible refine Below.drew ?_) | (with_reducible refine below_drewN ?_ _) | (with_reducible refine Below.trans ?_ (Below.mono (by assumption) ?_)) | (first | exact Nat.le_refl _ | omega | (simp; done) | (simp; omega))))
  have HP_1 := Lib.hid (show Lies w1 _ 28 #[.int .i64 n, .int .i64 l, .int .i64 u] from (by first | exact (Lies.made w 28 #[.int .i64 n, .int .i64 l, .int .i64 u]).after hb1 | exact ((Lies.made w 28 #[.int .i64 n, .int .i64 l, .int .i64 u]).alloc _).after hb1 | exact (((Lies.made w 28 #[.int .i64 n, .int .i64 l, .int .i64 u]).alloc _).alloc _).after hb1))
  have A1 : Below w.heap.size w w1 := B1
  clear hb1 B1
  have qP0 := HP_1.out.cell 0
  have qP1 := HP_1.out.cell 1
  have qP2 := HP_1.out.cell 2
  have zP := HP_1.out.lt
  go_wp2_with fail
  refine (HS.out _).mono ?_
  rintro _ w2 ⟨rfl, hb2⟩
  have s2 := hb2.size; try simp only [World.size_alloc, World.size_setCell, World.size_drew, setRow_size] at s2
  clear qP0 qP1 qP2 zP
  have B2 : Below w1.heap.size w1 w2 := by (repeat' (first | (with_reducible exact Below.refl _ _) | (with_reducible assumption) | (with_reducible refine Below.alloc ?_ ?_ _) | (with_reducible refine Below.setCell ?_ ?_ _) | (with_reducible refine below_row ?_ ?_ _) | (with_reducible refine Below.drew ?_) | (with_reducible refine below_drewN ?_ _) | (with_reducible refine Below.trans ?_ (Below.mono (by assumption) ?_)) | (first | exact Nat.le_refl _ | omega | (simp; done) | (simp; omega))))
  have HP_2 := Lib.hid (HP_1.out.after B2)
  clear HP_1
  have A2 : Below w.heap.size w w2 := A1.trans (B2.mono A1.size)
  clear A1 hb2 B2
  have qP0 := HP_2.out.cell 0
  have qP1 := HP_2.out.cell 1
  have qP2 := HP_2.out.cell 2
  have zP := HP_2.out.lt
  go_wp2_with fail
  refine (HW.out _ (A2.trans (Below.mono (by (repeat' (first | (with_reducible exact Below.refl _ _) | (with_reducible assumption) | (with_reducible refine Below.alloc ?_ ?_ _) | (with_reducible refine Below.setCell ?_ ?_ _) | (with_reducible refine below_row ?_ ?_ _) | (with_reducible refine Below.drew ?_) | (with_reducible refine below_drewN ?_ _) | (with_reducible refine Below.trans ?_ (Below.mono (by assumption) ?_)) | (first | exact Nat.le_refl _ | omega | (simp; done) | (simp; omega))))) A2.size))).mono ?_
  rintro _ w3 ⟨rfl, hb3⟩
  have s3 := hb3.size; try simp only [World.size_alloc, World.size_setCell, World.size_drew, setRow_size] at s3
  clear qP0 qP1 qP2 zP
  have B3 : Below w2.heap.size w2 w3 := by (repeat' (first | (with_reducible exact Below.refl _ _) | (with_reducible assumption) | (with_reducible refine Below.alloc ?_ ?_ _) | (with_reducible refine Below.setCell ?_ ?_ _) | (with_reducible refine below_row ?_ ?_ _) | (with_reducible refine Below.drew ?_) | (with_reducible refine below_drewN ?_ _) | (with_reducible refine Below.trans ?_ (Below.mono (by assumption) ?_)) | (first | exact Nat.le_refl _ | omega | (simp; done) | (simp; omega))))
  have HP_3 := Lib.hid (HP_2.out.after B3)
  clear HP_2
  have A3 : Below w.heap.size w w3 := A2.trans (B3.mono A2.size)
  clear A2 hb3 B3
  have qP0 := HP_3.out.cell 0
  have qP1 := HP_3.out.cell 1
  have qP2 := HP_3.out.cell 2
  have zP := HP_3.out.lt
  go_wp2_with fail
  refine (HX.out _).mono ?_
  rintro _ w4 ⟨rfl, hb4⟩
  have s4 := hb4.size; try simp only [World.size_alloc, World.size_setCell, World.size_drew, setRow_size] at s4
  clear qP0 qP1 qP2 zP
  have B4 : Below w3.heap.size w3 w4 := by (repeat' (first | (with_reducible exact Below.refl _ _) | (with_reducible assumption) | (with_reducible refine Below.alloc ?_ ?_ _) | (with_reducible refine Below.setCell ?_ ?_ _) | (with_reducible refine below_row ?_ ?_ _) | (with_reducible refine Below.drew ?_) | (with_reducible refine below_drewN ?_ _) | (with_reducible refine Below.trans ?_ (Below.mono (by assumption) ?_)) | (first | exact Nat.le_refl _ | omega | (simp; done) | (simp; omega))))
  have HP_4 := Lib.hid (HP_3.out.after B4)
  clear HP_3
  have A4 : Below w.heap.size w w4 := A3.trans (B4.mono A3.size)
  clear A3 hb4 B4
  rcases hE with rfl | rfl
  all_goals
    have qP0 := HP_4.out.cell 0
    have qP1 := HP_4.out.cell 1
    have qP2 := HP_4.out.cell 2
    have zP := HP_4.out.lt
    go_wp2_with fail
    refine (HT.out _ (A4.trans (Below.mono (by (repeat' (first | (with_reducible exact Below.refl _ _) | (with_reducible assumption) | (with_reducible refine Below.alloc ?_ ?_ _) | (with_reducible refine Below.setCell ?_ ?_ _) | (with_reducible refine below_row ?_ ?_ _) | (with_reducible refine Below.drew ?_) | (with_reducible refine below_drewN ?_ _) | (with_reducible refine Below.trans ?_ (Below.mono (by assumption) ?_)) | (first | exact Nat.le_refl _ | omega | (simp; done) | (simp; omega))))) A4.size))).mono ?_
    rintro _ w5 ⟨rfl, hb5⟩
    have s5 := hb5.size; try simp only [World.size_alloc, World.size_setCell, World.size_drew, setRow_size] at s5
    clear qP0 qP1 qP2 zP
    have B5 : Below w4.heap.size w4 w5 := by (repeat' (first | (with_reducible exact Below.refl _ _) | (with_reducible assumption) | (with_reducible refine Below.alloc ?_ ?_ _) | (with_reducible refine Below.setCell ?_ ?_ _) | (with_reducible refine below_row ?_ ?_ _) | (with_reducible refine Below.drew ?_) | (with_reducible refine below_drewN ?_ _) | (with_reducible refine Below.trans ?_ (Below.mono (by assumption) ?_)) | (first | exact Nat.le_refl _ | omega | (simp; done) | (simp; omega))))
    have HP_5 := Lib.hid (HP_4.out.after B5)
    clear HP_4
    have A5 : Below w.heap.size w w5 := A4.trans (B5.mono A4.size)
    clear A4 hb5 B5
    have qP0 := HP_5.out.cell 0
    have qP1 := HP_5.out.cell 1
    have qP2 := HP_5.out.cell 2
    have zP := HP_5.out.lt
    rcases HRR.out with rfl | ⟨n', l', u', un', t3, rfl, ok3, hw3, hb3⟩
    · clear HRR
      replace HR : Hid (∀ W, Below w.heap.size w W → Calls Tryd.prog 21 #[.string s] W fun e w' => e = .returned (.tuple #[.agg #[.int .i64 0, .int .i64 0, .int .i64 0], .int .u8 0, .int .i64 13]) ∧ Below W.heap.size W w') := Lib.hid (fun W hW => HR.out W hW)
      go_wp2_with fail
      refine (HR.out _ (A5.trans (Below.mono (by (repeat' (first | (with_reducible exact Below.refl _ _) | (with_reducible assumption) | (with_reducible refine Below.alloc ?_ ?_ _) | (with_reducible refine Below.setCell ?_ ?_ _) | (with_reducible refine below_row ?_ ?_ _) | (with_reducible refine Below.drew ?_) | (with_reducible refine below_drewN ?_ _) | (with_reducible refine Below.trans ?_ (Below.mono (by assumption) ?_)) | (first | exact Nat.le_refl _ | omega | (simp; done) | (simp; omega))))) A5.size))).mono ?_
      rintro _ w6 ⟨rfl, hb6⟩
      have s6 := hb6.size; try simp only [World.size_alloc, World.size_setCell, World.size_drew, setRow_size] at s6
      have B6 : Below w5.heap.size w5 w6 := by (repeat' (first | (with_reducible exact Below.refl _ _) | (with_reducible assumption) | (with_reducible refine Below.alloc ?_ ?_ _) | (with_reducible refine Below.setCell ?_ ?_ _) | (with_reducible refine below_row ?_ ?_ _) | (with_reducible refine Below.drew ?_) | (with_reducible refine below_drewN ?_ _) | (with_reducible refine Below.trans ?_ (Below.mono (by assumption) ?_)) | (first | exact Nat.le_refl _ | omega | (simp; done) | (simp; omega))))
      have HP_6 := Lib.hid (HP_5.out.after B6)
      clear HP_5
      have A6 : Below w.heap.size w w6 := A5.trans (B6.mono A5.size)
      clear A5 hb6 B6
      go_wp2
      go_ret
      exact ⟨rfl, by (repeat' (first | (with_reducible exact Below.refl _ _) | (with_reducible assumption) | (with_reducible refine Below.alloc ?_ ?_ _) | (with_reducible refine Below.setCell ?_ ?_ _) | (with_reducible refine below_row ?_ ?_ _) | (with_reducible refine Below.drew ?_) | (with_reducible refine below_drewN ?_ _) | (with_reducible refine Below.trans ?_ (Below.mono (by assumption) ?_)) | (first | exact Nat.le_refl _ | omega | (simp; done) | (simp; omega))))⟩
    · clear HRR
      replace HR : Hid (∀ W, Below w.heap.size w W → Calls Tryd.prog 21 #[.string s] W fun e w' => e = .returned (.tuple #[.agg #[.int .i64 n', .int .i64 l', .int .i64 u'], .int .u8 un', .int .i64 0]) ∧ Below W.heap.size W w') := Lib.hid (fun W hW => HR.out W hW)
      have HW3 : Hid (∀ W, Below w.heap.size w W → Calls Tryd.prog 20 #[.agg #[.int .i64 n', .int .i64 l', .int .i64 u'], .int .u8 un'] W fun e w' => e = .returned (.tuple #[.string s, .int .i64 0]) ∧ Below W.heap.size W w') := Lib.hid (fun W hW => by
        have h := Write_any un' n' l' u' W (HE.out W hW)
        unfold Wrote at h
        rw [hw3, hb3] at h
        exact h)
      have HC3 := Lib.hid (fun W => Check_ok n' l' u' W ok3)
      clear ok3 hw3 hb3 HE
      go_wp2_with fail
      refine (HR.out _ (A5.trans (Below.mono (by (repeat' (first | (with_reducible exact Below.refl _ _) | (with_reducible assumption) | (with_reducible refine Below.alloc ?_ ?_ _) | (with_reducible refine Below.setCell ?_ ?_ _) | (with_reducible refine below_row ?_ ?_ _) | (with_reducible refine Below.drew ?_) | (with_reducible refine below_drewN ?_ _) | (with_reducible refine Below.trans ?_ (Below.mono (by assumption) ?_)) | (first | exact Nat.le_refl _ | omega | (simp; done) | (simp; omega))))) A5.size))).mono ?_
      rintro _ w6 ⟨rfl, hb6⟩
      have s6 := hb6.size; try simp only [World.size_alloc, World.size_setCell, World.size_drew, setRow_size] at s6
      have B6 : Below w5.heap.size w5 w6 := by (repeat' (first | (with_reducible exact Below.refl _ _) | (with_reducible assumption) | (with_reducible refine Below.alloc ?_ ?_ _) | (with_reducible refine Below.setCell ?_ ?_ _) | (with_reducible refine below_row ?_ ?_ _) | (with_reducible refine Below.drew ?_) | (with_reducible refine below_drewN ?_ _) | (with_reducible refine Below.trans ?_ (Below.mono (by assumption) ?_)) | (first | exact Nat.le_refl _ | omega | (simp; done) | (simp; omega))))
      have HP_6 := Lib.hid (HP_5.out.after B6)
      clear HP_5
      have A6 : Below w.heap.size w w6 := A5.trans (B6.mono A5.size)
      clear A5 hb6 B6
      go_wp2_with fail
      refine (HW3.out _ (A6.trans (Below.mono (by (repeat' (first | (with_reducible exact Below.refl _ _) | (with_reducible assumption) | (with_reducible refine Below.alloc ?_ ?_ _) | (with_reducible refine Below.setCell ?_ ?_ _) | (with_reducible refine below_row ?_ ?_ _) | (with_reducible refine Below.drew ?_) | (with_reducible refine below_drewN ?_ _) | (with_reducible refine Below.trans ?_ (Below.mono (by assumption) ?_)) | (first | exact Nat.le_refl _ | omega | (simp; done) | (simp; omega))))) A6.size))).mono ?_
      rintro _ w7 ⟨rfl, hb7⟩
      have s7 := hb7.size; try simp only [World.size_alloc, World.size_setCell, World.size_drew, setRow_size] at s7
      have B7 : Below w6.heap.size w6 w7 := by (repeat' (first | (with_reducible exact Below.refl _ _) | (with_reducible assumption) | (with_reducible refine Below.alloc ?_ ?_ _) | (with_reducible refine Below.setCell ?_ ?_ _) | (with_reducible refine below_row ?_ ?_ _) | (with_reducible refine Below.drew ?_) | (with_reducible refine below_drewN ?_ _) | (with_reducible refine Below.trans ?_ (Below.mono (by assumption) ?_)) | (first | exact Nat.le_refl _ | omega | (simp; done) | (simp; omega))))
      have HY_7 := Lib.hid (show Lies w7 _ 28 #[.int .i64 n', .int .i64 l', .int .i64 u'] from (by first | exact (Lies.made w6 28 #[.int .i64 n', .int .i64 l', .int .i64 u']).after hb7 | exact ((Lies.made w6 28 #[.int .i64 n', .int .i64 l', .int .i64 u']).alloc _).after hb7 | exact (((Lies.made w6 28 #[.int .i64 n', .int .i64 l', .int .i64 u']).alloc _).alloc _).after hb7))
      have A7 : Below w.heap.size w w7 := A6.trans (B7.mono A6.size)
      clear A6 hb7 B7
      have qY0 := HY_7.out.cell 0
      have qY1 := HY_7.out.cell 1
      have qY2 := HY_7.out.cell 2
      have zY := HY_7.out.lt
      go_wp2_with fail
      refine (HC3.out _).mono ?_
      rintro _ w8 ⟨rfl, hb8⟩
      have s8 := hb8.size; try simp only [World.size_alloc, World.size_setCell, World.size_drew, setRow_size] at s8
      clear qY0 qY1 qY2 zY
      have B8 : Below w7.heap.size w7 w8 := by (repeat' (first | (with_reducible exact Below.refl _ _) | (with_reducible assumption) | (with_reducible refine Below.alloc ?_ ?_ _) | (with_reducible refine Below.setCell ?_ ?_ _) | (with_reducible refine below_row ?_ ?_ _) | (with_reducible refine Below.drew ?_) | (with_reducible refine below_drewN ?_ _) | (with_reducible refine Below.trans ?_ (Below.mono (by assumption) ?_)) | (first | exact Nat.le_refl _ | omega | (simp; done) | (simp; omega))))
      have HY_8 := Lib.hid (HY_7.out.after B8)
      clear HY_7
      have A8 : Below w.heap.size w w8 := A7.trans (B8.mono A7.size)
      clear A7 hb8 B8
      go_wp2
      go_ret
      exact ⟨rfl, by (repeat' (first | (with_reducible exact Below.refl _ _) | (with_reducible assumption) | (with_reducible refine Below.alloc ?_ ?_ _) | (with_reducible refine Below.setCell ?_ ?_ _) | (with_reducible refine below_row ?_ ?_ _) | (with_reducible refine Below.drew ?_) | (with_reducible refine below_drewN ?_ _) | (with_reducible refine Below.trans ?_ (Below.mono (by assumption) ?_)) | (first | exact Nat.le_refl _ | omega | (simp; done) | (simp; omega))))⟩
theorem rread_any (n l u b : Int) (s : ByteArray) (w : World) (he : Env w) (x0 : 0 ≤ b) (x1 : b ≤ 255) : Calls Tryd.prog 8 #[.agg #[.int .i64 n, .int .i64 l, .int .i64 u], .int .u8 b, .string s] w (Trues w) := by
  by_cases hs : (200 : Int) < (s.size : Int)
  · exact rread_long n l u b s w he x0 x1 hs
  rcases unitOf_or b with hu | hu
  · cases h : okD n l u
    · exact rread_bad1 n l u b s w he x0 x1 (by omega) hu h
    · rcases written_facts (un := 1) (.inl ⟨rfl, rfl⟩) h with ⟨-, hE, t, hw, hrt, hz⟩ | ⟨-, hE, t, hw⟩
      · exact rread_good1 n l u b s w he x0 x1 (by omega) hu h t hw hrt hz hE
      · exact rread_odd1 n l u b s w he x0 x1 (by omega) hu h t hw hE
  · cases h : okD n l u
    · exact rread_bad2 n l u b s w he x0 x1 (by omega) hu h
    · rcases written_facts (un := 2) (.inr ⟨rfl, rfl⟩) h with ⟨-, hE, t, hw, hrt, hz⟩ | ⟨-, hE, t, hw⟩
      · exact rread_good2 n l u b s w he x0 x1 (by omega) hu h t hw hrt hz hE
      · exact rread_odd2 n l u b s w he x0 x1 (by omega) hu h t hw hE
end Go.Proofs.YtldjkdomklgmaaaDoor
