/- The small functions of the laws. -/
import Derived.Test.YtldjkdomklgmaaaDoorA1
namespace Go.Proofs.YtldjkdomklgmaaaDoor
set_option linter.unusedVariables false
set_option linter.unusedSimpArgs false
open Go.RowKit

def GivesD (n l u : Int) (w : World) (e : Ending) (w' : World) : Prop := e = .returned (.agg #[.int .i64 n, .int .i64 l, .int .i64 u]) ∧ Below w.heap.size w w'
set_option maxHeartbeats 400000 in
theorem dim_any (n l u : Int) (w : World) : Calls Tryd.prog 16 #[.int .i64 n, .int .i64 l, .int .i64 u] w (GivesD n l u w) := by
  go_enter Tryd.func16, Tryd.ntmps16
  go_wp2
  refine bodyPost_ret (v := .agg #[.int .i64 n, .int .i64 l, .int .i64 u]) (by simp [results, Tryd.results16, go_sem]) rfl ⟨rfl, ?_⟩
  (repeat' (first | (with_reducible exact Below.refl _ _) | (with_reducible assumption) | (with_reducible refine Below.alloc ?_ ?_ _) | (with_reducible refine Below.setCell ?_ ?_ _) | (with_reducible refine below_row ?_ ?_ _) | (with_reducible refine Below.drew ?_) | (with_reducible refine below_drewN ?_ _) | (with_reducible refine Below.trans ?_ (Below.mono (by assumption) ?_)) | (first | exact Nat.le_refl _ | omega | (simp; done) | (simp; omega))))
theorem call_dim {n l u : Int} {K : FuncId} (H : ∀ w, Calls Tryd.prog K #[] w (GivesD n l u w)) (w : World) : Calls Tryd.prog K #[] w (GivesD n l u w) := H w
set_option maxHeartbeats 400000 in
theorem hole_any (w : World) : Calls Tryd.prog 18 #[] w (GivesD 2000000 2000000 2002100 w) := by
  go_enter Tryd.func18, Tryd.ntmps18
  go_wp2_with fail
  refine (dim_any _ _ _ _).mono ?_
  rintro e w1 ⟨rfl, hb1⟩
  have s1 := hb1.size; try simp only [World.size_alloc, World.size_setCell, World.size_drew, setRow_size] at s1
  have LR := (Lies.new (u := w) (t := 28) (cs := #[.int .i64 0, .int .i64 0, .int .i64 0]) rfl).after hb1
  obtain ⟨r0, r1, r2, f0, f1, f2⟩ := LR.c3
  have z := LR.lt
  go_wp2
  refine bodyPost_ret (v := .agg #[.int .i64 2000000, .int .i64 2000000, .int .i64 2002100]) (by simp [results, Tryd.results18, go_sem, z, r0, r1, r2]) rfl ⟨rfl, ?_⟩
  (repeat' (first | (with_reducible exact Below.refl _ _) | (with_reducible assumption) | (with_reducible refine Below.alloc ?_ ?_ _) | (with_reducible refine Below.setCell ?_ ?_ _) | (with_reducible refine below_row ?_ ?_ _) | (with_reducible refine Below.drew ?_) | (with_reducible refine below_drewN ?_ _) | (with_reducible refine Below.trans ?_ (Below.mono (by assumption) ?_)) | (first | exact Nat.le_refl _ | omega | (simp; done) | (simp; omega))))
set_option maxHeartbeats 400000 in
theorem shaft_any (w : World) : Calls Tryd.prog 19 #[] w (GivesD 2000000 1998000 1999300 w) := by
  go_enter Tryd.func19, Tryd.ntmps19
  go_wp2_with fail
  refine (dim_any _ _ _ _).mono ?_
  rintro e w1 ⟨rfl, hb1⟩
  have s1 := hb1.size; try simp only [World.size_alloc, World.size_setCell, World.size_drew, setRow_size] at s1
  have LR := (Lies.new (u := w) (t := 28) (cs := #[.int .i64 0, .int .i64 0, .int .i64 0]) rfl).after hb1
  obtain ⟨r0, r1, r2, f0, f1, f2⟩ := LR.c3
  have z := LR.lt
  go_wp2
  refine bodyPost_ret (v := .agg #[.int .i64 2000000, .int .i64 1998000, .int .i64 1999300]) (by simp [results, Tryd.results19, go_sem, z, r0, r1, r2]) rfl ⟨rfl, ?_⟩
  (repeat' (first | (with_reducible exact Below.refl _ _) | (with_reducible assumption) | (with_reducible refine Below.alloc ?_ ?_ _) | (with_reducible refine Below.setCell ?_ ?_ _) | (with_reducible refine below_row ?_ ?_ _) | (with_reducible refine Below.drew ?_) | (with_reducible refine below_drewN ?_ _) | (with_reducible refine Below.trans ?_ (Below.mono (by assumption) ?_)) | (first | exact Nat.le_refl _ | omega | (simp; done) | (simp; omega))))
set_option maxHeartbeats 400000 in
theorem press_any (w : World) : Calls Tryd.prog 39 #[] w (GivesD 2000000 2001500 2002800 w) := by
  go_enter Tryd.func39, Tryd.ntmps39
  go_wp2_with fail
  refine (dim_any _ _ _ _).mono ?_
  rintro e w1 ⟨rfl, hb1⟩
  have s1 := hb1.size; try simp only [World.size_alloc, World.size_setCell, World.size_drew, setRow_size] at s1
  have LR := (Lies.new (u := w) (t := 28) (cs := #[.int .i64 0, .int .i64 0, .int .i64 0]) rfl).after hb1
  obtain ⟨r0, r1, r2, f0, f1, f2⟩ := LR.c3
  have z := LR.lt
  go_wp2
  refine bodyPost_ret (v := .agg #[.int .i64 2000000, .int .i64 2001500, .int .i64 2002800]) (by simp [results, Tryd.results39, go_sem, z, r0, r1, r2]) rfl ⟨rfl, ?_⟩
  (repeat' (first | (with_reducible exact Below.refl _ _) | (with_reducible assumption) | (with_reducible refine Below.alloc ?_ ?_ _) | (with_reducible refine Below.setCell ?_ ?_ _) | (with_reducible refine below_row ?_ ?_ _) | (with_reducible refine Below.drew ?_) | (with_reducible refine below_drewN ?_ _) | (with_reducible refine Below.trans ?_ (Below.mono (by assumption) ?_)) | (first | exact Nat.le_refl _ | omega | (simp; done) | (simp; omega))))
set_option maxHeartbeats 400000 in
theorem thin_any (w : World) : Calls Tryd.prog 40 #[] w (GivesD 1999996 2000250 2002028 w) := by
  go_enter Tryd.func40, Tryd.ntmps40
  go_wp2_with fail
  refine (dim_any _ _ _ _).mono ?_
  rintro e w1 ⟨rfl, hb1⟩
  have s1 := hb1.size; try simp only [World.size_alloc, World.size_setCell, World.size_drew, setRow_size] at s1
  have LR := (Lies.new (u := w) (t := 28) (cs := #[.int .i64 0, .int .i64 0, .int .i64 0]) rfl).after hb1
  obtain ⟨r0, r1, r2, f0, f1, f2⟩ := LR.c3
  have z := LR.lt
  go_wp2
  refine bodyPost_ret (v := .agg #[.int .i64 1999996, .int .i64 2000250, .int .i64 2002028]) (by simp [results, Tryd.results40, go_sem, z, r0, r1, r2]) rfl ⟨rfl, ?_⟩
  (repeat' (first | (with_reducible exact Below.refl _ _) | (with_reducible assumption) | (with_reducible refine Below.alloc ?_ ?_ _) | (with_reducible refine Below.setCell ?_ ?_ _) | (with_reducible refine below_row ?_ ?_ _) | (with_reducible refine Below.drew ?_) | (with_reducible refine below_drewN ?_ _) | (with_reducible refine Below.trans ?_ (Below.mono (by assumption) ?_)) | (first | exact Nat.le_refl _ | omega | (simp; done) | (simp; omega))))
/-- A unit by a number, and its step. -/
def unitOf (b : Int) : Int := if b % 2 = 0 then 1 else 2
theorem unitOf_or (b : Int) : unitOf b = 1 ∨ unitOf b = 2 := by unfold unitOf; split <;> simp
def stepOf (b : Int) : Int := if b % 2 = 0 then 100 else 254
set_option maxHeartbeats 400000 in
theorem step_any (b : Int) (w : World) (h0 : 0 ≤ b) (h1 : b ≤ 255) : Calls Tryd.prog 35 #[.int .u8 b] w fun e w' => e = .returned (.tuple #[.int .u8 (unitOf b), .int .i64 (stepOf b)]) ∧ w' = w := by
  unfold unitOf stepOf
  by_cases h : b % 2 = 0
  · rw [if_pos h, if_pos h]
    go_enter Tryd.func35, Tryd.ntmps35
    go_wp2
    go_ret2
    exact ⟨rfl, rfl⟩
  · rw [if_neg h, if_neg h]
    go_enter Tryd.func35, Tryd.ntmps35
    go_wp2
    go_ret2
    exact ⟨rfl, rfl⟩
end Go.Proofs.YtldjkdomklgmaaaDoor
