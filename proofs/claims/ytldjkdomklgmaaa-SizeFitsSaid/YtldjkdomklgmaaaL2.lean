/- The law SizeTurns: a nil list, a long list. -/
import Derived.Test.YtldjkdomklgmaaaL1
import Derived.Laws.AppendOwnNone
namespace Go.Proofs.Ytldjkdomklgmaaa
set_option linter.unusedVariables false
set_option linter.unusedSimpArgs false
open Go.RowKit

set_option maxHeartbeats 4000000 in
theorem turns_none (n l u un : Int) (w : World) :
    Calls Try.prog 3 #[.agg #[.int .i64 n, .int .i64 l, .int .i64 u], .int .u8 un, .slice none 0 0] w fun e w' => e = .returned (.bool true) ∧ Below w.heap.size w w' := by
  obtain ⟨i0, hi, hz0, hz1, hz2⟩ := info_parts info_u8
  have HV := Lib.hid (fun W => Convert_any un n l u W)
  have HVR := Lib.hid (fun W => rConvert_any un n l u W)
  have HL := Lib.hid (fun W => Lost_any un n l u W)
  have HLR := Lib.hid (fun W => rLost_any un n l u W)
  have HR := Lib.hid (fun (A : Option Addr) (b off c : Nat) (W : World) hA hc => Redraw_any A b off [] c n l u W hA hc)
  have HRR := Lib.hid (fun (A : Option Addr) (b off c : Nat) (W : World) hA hc => rRedraw_any A b off [] c n l u W hA hc)
  simp only [List.length_nil] at HR HRR
  generalize convS un n l u = V at *
  generalize redrawS [] n l u = R at *
  generalize lostS un n l u = L at *
  obtain ⟨⟨x, y, z⟩, e⟩ := V
  obtain ⟨⟨x', y', z'⟩, e'⟩ := R
  obtain ⟨p, q, e3⟩ := L
  simp only at HL HLR
  have hown0 : ((w.alloc (.cells #[.int .i64 n, .int .i64 l, .int .i64 u] 23)).alloc (.cells #[] 5)).ownsRow (w.heap.size + 1) 5 1 (.slice (some ⟨w.heap.size + 1, 0, none⟩) 0 0) 0 [] := by
    have h := World.ownsRow_made (base := w.heap.size + 1) (e := 5) (size := 1) (w.alloc (.cells #[.int .i64 n, .int .i64 l, .int .i64 u] 23)) #[] 0 (by simp) (by decide) rfl
    simpa using h
  go_enter Try.func3, Try.ntmps3
  go_wp2_with (first | (at_builtin; go_loud (refine wpList_append_own_none rfl (.tmp 26) (.tmp 27) 24 rfl (w.heap.size + 1) 5 i0 1 Try.underlying24 hi (.slice (some ⟨w.heap.size + 1, 0, none⟩) 0 0) 0 [] rfl hown0 rfl ?_)))
  · obtain ⟨w1, hw1⟩ : ∃ w1, (w.alloc (.cells #[.int .i64 n, .int .i64 l, .int .i64 u] 23)).alloc (.cells #[] 5) = w1 := ⟨_, rfl⟩
    rw [hw1]
    have hb1 : Below w.heap.size w w1 := by subst hw1; (repeat' (first | (with_reducible exact Below.refl _ _) | (with_reducible assumption) | (with_reducible refine Below.alloc ?_ ?_ _) | (with_reducible refine Below.setCell ?_ ?_ _) | (with_reducible refine below_row ?_ ?_ _) | (with_reducible refine Below.drew ?_) | (with_reducible refine below_drewN ?_ _) | (with_reducible refine Below.trans ?_ (Below.mono (by assumption) ?_)) | (first | exact Nat.le_refl _ | omega | (simp; done) | (simp; omega))))
    have LD : Lies w1 w.heap.size 23 #[.int .i64 n, .int .i64 l, .int .i64 u] := by subst hw1; exact (Lies.made w 23 #[.int .i64 n, .int .i64 l, .int .i64 u]).alloc _
    have zd := LD.lt
    have HD := Lib.hid LD
    have s1 := hb1.size
    clear hown0 hi hz0 hz1 hz2 LD hw1
    obtain ⟨p0, p1, p2, -, -, -⟩ := HD.out.c3
    go_wp2_with fail
    refine (HV.out _).mono ?_
    rintro _ w2 ⟨rfl, hb2⟩
    have s2 := hb2.size; try simp only [World.size_alloc, World.size_setCell, World.size_drew, setRow_size] at s2
    clear p0 p1 p2
    have D2 := Lib.hid (HD.out.after hb2)
    have B2 : Below w1.heap.size w1 w2 := by (repeat' (first | (with_reducible exact Below.refl _ _) | (with_reducible assumption) | (with_reducible refine Below.alloc ?_ ?_ _) | (with_reducible refine Below.setCell ?_ ?_ _) | (with_reducible refine below_row ?_ ?_ _) | (with_reducible refine Below.drew ?_) | (with_reducible refine below_drewN ?_ _) | (with_reducible refine Below.trans ?_ (Below.mono (by assumption) ?_)) | (first | exact Nat.le_refl _ | omega | (simp; done) | (simp; omega))))
    have z2 := D2.out.lt
    obtain ⟨p0, p1, p2, -, -, -⟩ := D2.out.c3
    go_wp2_with fail
    refine (HVR.out _).mono ?_
    rintro _ w3 ⟨rfl, hb3⟩
    have s3 := hb3.size; try simp only [World.size_alloc, World.size_setCell, World.size_drew, setRow_size] at s3
    clear p0 p1 p2
    have D3 := Lib.hid ((D2.out.alloc _).after hb3)
    have A3 := Lib.hid ((Lies.made w2 23 #[.int .i64 x, .int .i64 y, .int .i64 z]).after hb3)
    have B3 : Below w1.heap.size w1 w3 := by (repeat' (first | (with_reducible exact Below.refl _ _) | (with_reducible assumption) | (with_reducible refine Below.alloc ?_ ?_ _) | (with_reducible refine Below.setCell ?_ ?_ _) | (with_reducible refine below_row ?_ ?_ _) | (with_reducible refine Below.drew ?_) | (with_reducible refine below_drewN ?_ _) | (with_reducible refine Below.trans ?_ (Below.mono (by assumption) ?_)) | (first | exact Nat.le_refl _ | omega | (simp; done) | (simp; omega))))
    have z3 := D3.out.lt
    have y3 := A3.out.lt
    clear D2 B2 hb3
    obtain ⟨p0, p1, p2, -, -, -⟩ := D3.out.c3
    go_wp2_with fail
    refine (HR.out _ 0 0 0 _ (fun h => absurd h (by simp)) (fun j hj => absurd hj (by simp))).mono ?_
    rintro _ w4 ⟨rfl, hb4⟩
    have s4 := hb4.size; try simp only [World.size_alloc, World.size_setCell, World.size_drew, setRow_size] at s4
    clear p0 p1 p2
    have D4 := Lib.hid ((D3.out.alloc _).after hb4)
    have A4 := Lib.hid ((A3.out.alloc _).after hb4)
    have C4 := Lib.hid ((Lies.made w3 23 #[.int .i64 x, .int .i64 y, .int .i64 z]).after hb4)
    have B4 : Below w1.heap.size w1 w4 := by (repeat' (first | (with_reducible exact Below.refl _ _) | (with_reducible assumption) | (with_reducible refine Below.alloc ?_ ?_ _) | (with_reducible refine Below.setCell ?_ ?_ _) | (with_reducible refine below_row ?_ ?_ _) | (with_reducible refine Below.drew ?_) | (with_reducible refine below_drewN ?_ _) | (with_reducible refine Below.trans ?_ (Below.mono (by assumption) ?_)) | (first | exact Nat.le_refl _ | omega | (simp; done) | (simp; omega))))
    have z4 := D4.out.lt
    have y4 := A4.out.lt
    have x4 := C4.out.lt
    clear D3 A3 B3 hb4
    obtain ⟨p0, p1, p2, -, -, -⟩ := D4.out.c3
    go_wp2_with fail
    refine (HRR.out _ 0 0 0 _ (fun h => absurd h (by simp)) (fun j hj => absurd hj (by simp))).mono ?_
    rintro _ w5 ⟨rfl, hb5⟩
    have s5 := hb5.size; try simp only [World.size_alloc, World.size_setCell, World.size_drew, setRow_size] at s5
    clear p0 p1 p2
    have D5 := Lib.hid ((D4.out.alloc _).after hb5)
    have A5 := Lib.hid ((A4.out.alloc _).after hb5)
    have C5 := Lib.hid ((C4.out.alloc _).after hb5)
    have E5 := Lib.hid ((Lies.made w4 23 #[.int .i64 x', .int .i64 y', .int .i64 z']).after hb5)
    have B5 : Below w1.heap.size w1 w5 := by (repeat' (first | (with_reducible exact Below.refl _ _) | (with_reducible assumption) | (with_reducible refine Below.alloc ?_ ?_ _) | (with_reducible refine Below.setCell ?_ ?_ _) | (with_reducible refine below_row ?_ ?_ _) | (with_reducible refine Below.drew ?_) | (with_reducible refine below_drewN ?_ _) | (with_reducible refine Below.trans ?_ (Below.mono (by assumption) ?_)) | (first | exact Nat.le_refl _ | omega | (simp; done) | (simp; omega))))
    have z5 := D5.out.lt
    have y5 := A5.out.lt
    have x5 := C5.out.lt
    have v5 := E5.out.lt
    clear D4 A4 C4 B4 hb5
    obtain ⟨p0, p1, p2, -, -, -⟩ := D5.out.c3
    go_wp2_with fail
    refine (HL.out _).mono ?_
    rintro _ w6 ⟨rfl, hb6⟩
    have s6 := hb6.size; try simp only [World.size_alloc, World.size_setCell, World.size_drew, setRow_size] at s6
    clear p0 p1 p2
    have D6 := Lib.hid ((D5.out.alloc _).after hb6)
    have A6 := Lib.hid ((A5.out.alloc _).after hb6)
    have C6 := Lib.hid ((C5.out.alloc _).after hb6)
    have E6 := Lib.hid ((E5.out.alloc _).after hb6)
    have F6 := Lib.hid ((Lies.made w5 23 #[.int .i64 x', .int .i64 y', .int .i64 z']).after hb6)
    have B6 : Below w1.heap.size w1 w6 := by (repeat' (first | (with_reducible exact Below.refl _ _) | (with_reducible assumption) | (with_reducible refine Below.alloc ?_ ?_ _) | (with_reducible refine Below.setCell ?_ ?_ _) | (with_reducible refine below_row ?_ ?_ _) | (with_reducible refine Below.drew ?_) | (with_reducible refine below_drewN ?_ _) | (with_reducible refine Below.trans ?_ (Below.mono (by assumption) ?_)) | (first | exact Nat.le_refl _ | omega | (simp; done) | (simp; omega))))
    have z6 := D6.out.lt
    clear D5 A5 C5 E5 B5 hb6
    obtain ⟨p0, p1, p2, -, -, -⟩ := D6.out.c3
    go_wp2_with fail
    refine (HLR.out _).mono ?_
    rintro _ w7 ⟨rfl, hb7⟩
    have s7 := hb7.size; try simp only [World.size_alloc, World.size_setCell, World.size_drew, setRow_size] at s7
    clear p0 p1 p2
    have A7 := Lib.hid (A6.out.after hb7)
    have C7 := Lib.hid (C6.out.after hb7)
    have E7 := Lib.hid (E6.out.after hb7)
    have F7 := Lib.hid (F6.out.after hb7)
    have B7 : Below w1.heap.size w1 w7 := by (repeat' (first | (with_reducible exact Below.refl _ _) | (with_reducible assumption) | (with_reducible refine Below.alloc ?_ ?_ _) | (with_reducible refine Below.setCell ?_ ?_ _) | (with_reducible refine below_row ?_ ?_ _) | (with_reducible refine Below.drew ?_) | (with_reducible refine below_drewN ?_ _) | (with_reducible refine Below.trans ?_ (Below.mono (by assumption) ?_)) | (first | exact Nat.le_refl _ | omega | (simp; done) | (simp; omega))))
    clear D6 A6 C6 E6 F6 B6 hb7
    obtain ⟨a0, a1, a2, -, -, -⟩ := A7.out.c3
    obtain ⟨c0, c1, c2, -, -, -⟩ := C7.out.c3
    obtain ⟨e0, e1, e2, -, -, -⟩ := E7.out.c3
    obtain ⟨f0, f1, f2, -, -, -⟩ := F7.out.c3
    go_wp2_with fail
    clear A7 C7 E7 F7 a0 a1 a2 c0 c1 c2 e0 e1 e2 f0 f1 f2 HV HVR HL HLR HR HRR
    go_loopw [102] (fun i wr => i = .int .i64 0 ∧ Below w1.heap.size w1 wr) (fun i _ => 0)
    case atStart => exact ⟨rfl, B7⟩
    case round =>
      obtain ⟨rfl, hbr⟩ := hrel
      go_wp2_with fail
      go_ret
      exact ⟨rfl, by (repeat' (first | (with_reducible exact Below.refl _ _) | (with_reducible assumption) | (with_reducible refine Below.alloc ?_ ?_ _) | (with_reducible refine Below.setCell ?_ ?_ _) | (with_reducible refine below_row ?_ ?_ _) | (with_reducible refine Below.drew ?_) | (with_reducible refine below_drewN ?_ _) | (with_reducible refine Below.trans ?_ (Below.mono (by assumption) ?_)) | (first | exact Nat.le_refl _ | omega | (simp; done) | (simp; omega))))⟩
theorem turns_many (A : Option Addr) (k c : Nat) (n l u un : Int) (w : World) (hk : 40 < k) :
    Calls Try.prog 3 #[.agg #[.int .i64 n, .int .i64 l, .int .i64 u], .int .u8 un, .slice A k c] w fun e w' => e = .returned (.bool true) ∧ Below w.heap.size w w' := by
  have hlen : (40 : Int) < (k : Int) := by omega
  go_enter Try.func3, Try.ntmps3
  go_wp2_with fail
  go_ret
  exact ⟨rfl, by (repeat' (first | (with_reducible exact Below.refl _ _) | (with_reducible assumption) | (with_reducible refine Below.alloc ?_ ?_ _) | (with_reducible refine Below.setCell ?_ ?_ _) | (with_reducible refine below_row ?_ ?_ _) | (with_reducible refine Below.drew ?_) | (with_reducible refine below_drewN ?_ _) | (with_reducible refine Below.trans ?_ (Below.mono (by assumption) ?_)) | (first | exact Nat.le_refl _ | omega | (simp; done) | (simp; omega))))⟩
end Go.Proofs.Ytldjkdomklgmaaa
