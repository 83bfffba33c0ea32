/- The walks of package size: Room. -/
import Derived.Test.YtldjkdomklgmaaaDoorA4
namespace Go.Proofs.YtldjkdomklgmaaaDoor
set_option linter.unusedVariables false
set_option linter.unusedSimpArgs false
open Go.RowKit

set_option maxHeartbeats 400000 in
theorem Room_bad (n l u lo hi : Int) (w : World) (h : okD n l u = false) :
    Calls Tryd.prog 26 #[.agg #[.int .i64 n, .int .i64 l, .int .i64 u], .agg #[.int .i64 lo, .int .i64 hi]] w fun e w' => e = .returned (.tuple #[.agg #[.int .i64 0, .int .i64 0, .int .i64 0], .int .i64 10]) ∧ Below w.heap.size w w' := by
  go_enter Tryd.func26, Tryd.ntmps26
  go_wp2_with fail
  refine (Check_no n l u _ h).mono ?_
  rintro e w1 ⟨rfl, hb1⟩
  obtain ⟨hc1, hf1⟩ := bcell hb1; have s1 := hb1.size; try simp only [World.size_alloc, World.size_setCell, World.size_drew, setRow_size] at s1
  go_wp2
  refine bodyPost_ret (v := .tuple #[.agg #[.int .i64 0, .int .i64 0, .int .i64 0], .int .i64 10]) (by simp [results, Tryd.results26, go_sem, hc1]) rfl ⟨rfl, ?_⟩
  (repeat' (first | (with_reducible exact Below.refl _ _) | (with_reducible assumption) | (with_reducible refine Below.alloc ?_ ?_ _) | (with_reducible refine Below.setCell ?_ ?_ _) | (with_reducible refine below_row ?_ ?_ _) | (with_reducible refine Below.drew ?_) | (with_reducible refine below_drewN ?_ _) | (with_reducible refine Below.trans ?_ (Below.mono (by assumption) ?_)) | (first | exact Nat.le_refl _ | omega | (simp; done) | (simp; omega))))
set_option maxHeartbeats 400000 in
theorem Room_arg (n l u lo hi : Int) (w : World) (h : okD n l u = true) (hw : wantS lo hi = false) :
    Calls Tryd.prog 26 #[.agg #[.int .i64 n, .int .i64 l, .int .i64 u], .agg #[.int .i64 lo, .int .i64 hi]] w fun e w' => e = .returned (.tuple #[.agg #[.int .i64 0, .int .i64 0, .int .i64 0], .int .i64 2]) ∧ Below w.heap.size w w' := by
  go_enter Tryd.func26, Tryd.ntmps26
  go_wp2_with fail
  refine (Check_ok n l u _ h).mono ?_
  rintro e w1 ⟨rfl, hb1⟩
  have s1 := hb1.size; try simp only [World.size_alloc, World.size_setCell, World.size_drew, setRow_size] at s1
  have LW := ((Lies.new (t := 31) (cs := #[.int .i64 lo, .int .i64 hi]) rfl).alloc _).after hb1
  have LR := (Lies.new (t := 28) (cs := #[.int .i64 0, .int .i64 0, .int .i64 0]) rfl).after hb1
  simp only [World.size_alloc] at LW LR
  obtain ⟨c0, c1, -, -⟩ := LW.c2
  have hwb := Lib.hid hw
  clear hw h
  go_wp2_with fail
  refine (want_any lo hi _).mono ?_
  rw [hwb.out]
  rintro e w2 ⟨rfl, hb2⟩
  have s2 := hb2.size; try simp only [World.size_alloc, World.size_setCell, World.size_drew, setRow_size] at s2
  obtain ⟨r0, r1, r2, f0, f1, f2⟩ := (LR.after hb2).c3
  clear c0 c1
  go_wp2
  refine bodyPost_ret (v := .tuple #[.agg #[.int .i64 0, .int .i64 0, .int .i64 0], .int .i64 2]) (by simp [results, Tryd.results26, go_sem, r0, r1, r2]) rfl ⟨rfl, ?_⟩
  (repeat' (first | (with_reducible exact Below.refl _ _) | (with_reducible assumption) | (with_reducible refine Below.alloc ?_ ?_ _) | (with_reducible refine Below.setCell ?_ ?_ _) | (with_reducible refine below_row ?_ ?_ _) | (with_reducible refine Below.drew ?_) | (with_reducible refine below_drewN ?_ _) | (with_reducible refine Below.trans ?_ (Below.mono (by assumption) ?_)) | (first | exact Nat.le_refl _ | omega | (simp; done) | (simp; omega))))
/-- The ends of the room. -/
def roomLo (u hi : Int) : Int := if hi < u then u - hi else 0
def roomHi (l lo : Int) : Int := if l - lo < 1000000000 then l - lo else 1000000000

set_option maxHeartbeats 1000000 in
theorem Room_none (n l u lo hi : Int) (w : World) (h : okD n l u = true) (hw : wantS lo hi = true) (hn : roomHi l lo < roomLo u hi) :
    Calls Tryd.prog 26 #[.agg #[.int .i64 n, .int .i64 l, .int .i64 u], .agg #[.int .i64 lo, .int .i64 hi]] w fun e w' => e = .returned (.tuple #[.agg #[.int .i64 0, .int .i64 0, .int .i64 0], .int .i64 6]) ∧ Below w.heap.size w w' := by
  obtain ⟨h1, h2, h3, h4, h5⟩ := okD_iff.1 h
  have hww : -1000000000 ≤ lo ∧ lo ≤ hi ∧ hi ≤ 1000000000 := by simpa [wantS] using hw
  obtain ⟨w1', w2', w3'⟩ := hww
  have hwb := Lib.hid hw
  clear hw
  unfold roomHi roomLo at hn
  by_cases x : hi < u <;> by_cases y : l - lo < 1000000000
  all_goals
    first | rw [if_pos x] at hn | rw [if_neg x] at hn
    first | rw [if_pos y] at hn | rw [if_neg y] at hn
    try (exfalso; omega)
  all_goals
    go_enter Tryd.func26, Tryd.ntmps26
    go_wp2_with fail
    refine (Check_ok n l u _ h).mono ?_
    rintro e w1 ⟨rfl, hb1⟩
    have s1 := hb1.size; try simp only [World.size_alloc, World.size_setCell, World.size_drew, setRow_size] at s1
    have LA := (((Lies.new (u := w) (t := 28) (cs := #[.int .i64 n, .int .i64 l, .int .i64 u]) rfl).alloc _).alloc _).after hb1
    have LW := ((Lies.new (t := 31) (cs := #[.int .i64 lo, .int .i64 hi]) rfl).alloc _).after hb1
    have LR := (Lies.new (t := 28) (cs := #[.int .i64 0, .int .i64 0, .int .i64 0]) rfl).after hb1
    simp only [World.size_alloc] at LW LR
    obtain ⟨c0, c1, -, -⟩ := LW.c2
    clear h
    go_wp2_with fail
    refine (want_any lo hi _).mono ?_
    rw [hwb.out]
    rintro e w2 ⟨rfl, hb2⟩
    have s2 := hb2.size; try simp only [World.size_alloc, World.size_setCell, World.size_drew, setRow_size] at s2
    clear c0 c1
    obtain ⟨a0, a1, a2, -, -, -⟩ := (LA.after hb2).c3
    obtain ⟨c0, c1, -, -⟩ := (LW.after hb2).c2
    obtain ⟨r0, r1, r2, f0, f1, f2⟩ := (LR.after hb2).c3
    have hz0 := (LA.after hb2).lt
    have hz1 := (LW.after hb2).lt
    have hz2 := (LR.after hb2).lt
    go_wp2
    refine bodyPost_ret (v := .tuple #[.agg #[.int .i64 0, .int .i64 0, .int .i64 0], .int .i64 6]) (by simp [results, Tryd.results26, go_sem, r0, r1, r2, hz2]) rfl ⟨rfl, ?_⟩
    (repeat' (first | (with_reducible exact Below.refl _ _) | (with_reducible assumption) | (with_reducible refine Below.alloc ?_ ?_ _) | (with_reducible refine Below.setCell ?_ ?_ _) | (with_reducible refine below_row ?_ ?_ _) | (with_reducible refine Below.drew ?_) | (with_reducible refine below_drewN ?_ _) | (with_reducible refine Below.trans ?_ (Below.mono (by assumption) ?_)) | (first | exact Nat.le_refl _ | omega | (simp; done) | (simp; omega))))

set_option maxHeartbeats 1000000 in
theorem Room_fits (n l u lo hi : Int) (w : World) (h : okD n l u = true) (hw : wantS lo hi = true) (hn : ¬ roomHi l lo < roomLo u hi) :
    Calls Tryd.prog 26 #[.agg #[.int .i64 n, .int .i64 l, .int .i64 u], .agg #[.int .i64 lo, .int .i64 hi]] w fun e w' => e = .returned (.tuple #[.agg #[.int .i64 n, .int .i64 (roomLo u hi), .int .i64 (roomHi l lo)], .int .i64 0]) ∧ Below w.heap.size w w' := by
  obtain ⟨h1, h2, h3, h4, h5⟩ := okD_iff.1 h
  have hww : -1000000000 ≤ lo ∧ lo ≤ hi ∧ hi ≤ 1000000000 := by simpa [wantS] using hw
  obtain ⟨w1', w2', w3'⟩ := hww
  have hwb := Lib.hid hw
  clear hw
  unfold roomHi roomLo at hn ⊢
  by_cases x : hi < u <;> by_cases y : l - lo < 1000000000
  all_goals
    first | rw [if_pos x] at hn ⊢ | rw [if_neg x] at hn ⊢
    first | rw [if_pos y] at hn ⊢ | rw [if_neg y] at hn ⊢
  all_goals
    go_enter Tryd.func26, Tryd.ntmps26
    go_wp2_with fail
    refine (Check_ok n l u _ h).mono ?_
    rintro e w1 ⟨rfl, hb1⟩
    have s1 := hb1.size; try simp only [World.size_alloc, World.size_setCell, World.size_drew, setRow_size] at s1
    have LA := (((Lies.new (u := w) (t := 28) (cs := #[.int .i64 n, .int .i64 l, .int .i64 u]) rfl).alloc _).alloc _).after hb1
    have LW := ((Lies.new (t := 31) (cs := #[.int .i64 lo, .int .i64 hi]) rfl).alloc _).after hb1
    have LR := (Lies.new (t := 28) (cs := #[.int .i64 0, .int .i64 0, .int .i64 0]) rfl).after hb1
    simp only [World.size_alloc] at LW LR
    obtain ⟨c0, c1, -, -⟩ := LW.c2
    clear h
    go_wp2_with fail
    refine (want_any lo hi _).mono ?_
    rw [hwb.out]
    rintro e w2 ⟨rfl, hb2⟩
    have s2 := hb2.size; try simp only [World.size_alloc, World.size_setCell, World.size_drew, setRow_size] at s2
    clear c0 c1
    obtain ⟨a0, a1, a2, -, -, -⟩ := (LA.after hb2).c3
    obtain ⟨c0, c1, -, -⟩ := (LW.after hb2).c2
    obtain ⟨r0, r1, r2, f0, f1, f2⟩ := (LR.after hb2).c3
    have hz0 := (LA.after hb2).lt
    have hz1 := (LW.after hb2).lt
    have hz2 := (LR.after hb2).lt
    go_wp2
    refine bodyPost_ret (v := .tuple #[.agg #[.int .i64 n, .int .i64 _, .int .i64 _], .int .i64 0]) (by simp [results, Tryd.results26, go_sem, r0, r1, r2, hz2]; try rfl) rfl ⟨rfl, ?_⟩
    (repeat' (first | (with_reducible exact Below.refl _ _) | (with_reducible assumption) | (with_reducible refine Below.alloc ?_ ?_ _) | (with_reducible refine Below.setCell ?_ ?_ _) | (with_reducible refine below_row ?_ ?_ _) | (with_reducible refine Below.drew ?_) | (with_reducible refine below_drewN ?_ _) | (with_reducible refine Below.trans ?_ (Below.mono (by assumption) ?_)) | (first | exact Nat.le_refl _ | omega | (simp; done) | (simp; omega))))
end Go.Proofs.YtldjkdomklgmaaaDoor
