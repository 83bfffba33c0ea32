/- The walks of package size: mayBeWanted, Inside, Fit, Room. -/
import Derived.Test.YtjejjeomknkglaaDoorA2
namespace Go.Proofs.YtjejjeomknkglaaDoor
set_option linter.unusedVariables false
set_option linter.unusedSimpArgs false
open Go.RowKit

/-- One of two sizes is not valid. -/
def bad2 (an al au bn bl bu : Int) : Bool := badD [(an, al, au), (bn, bl, bu)]
theorem bad2_iff {an al au bn bl bu : Int} : bad2 an al au bn bl bu = false ↔ (okD an al au = true ∧ okD bn bl bu = true) := by
  simp [bad2, badD]
theorem checkAll_two (an al au bn bl bu : Int) (g t : Nat) (c : Nat) (w : World) (hL : Lies w g t #[.int .i64 an, .int .i64 al, .int .i64 au, .int .i64 bn, .int .i64 bl, .int .i64 bu]) (r : Bool) (hr : bad2 an al au bn bl bu = r) :
    Calls Tryd.prog 55 #[.slice (some ⟨g, 0, none⟩) 2 c] w fun e w' => e = .returned (.int .i64 (bif r then 10 else 0)) ∧ Below w.heap.size w w' := by
  subst hr
  have h := checkAll_2 an al au bn bl bu g c w (hL.cell 0) (hL.cell 1) (hL.cell 2) (hL.cell 3) (hL.cell 4) (hL.cell 5)
  unfold bad2
  cases hb : badD [(an, al, au), (bn, bl, bu)]
  · rw [hb] at h; exact h
  · rw [hb] at h; exact h

set_option maxHeartbeats 400000 in
theorem Inside_bad (an al au bn bl bu : Int) (w : World) (h : bad2 an al au bn bl bu = true) :
    Calls Tryd.prog 36 #[.agg #[.int .i64 an, .int .i64 al, .int .i64 au], .agg #[.int .i64 bn, .int .i64 bl, .int .i64 bu]] w fun e w' => e = .returned (.tuple #[.bool false, .int .i64 10]) ∧ Below w.heap.size w w' := by
  go_enter Tryd.func36, Tryd.ntmps36
  go_wp2_with fail
  refine (checkAll_two an al au bn bl bu _ 23 _ _ (Lies.new (by simp)) true h).mono ?_
  rintro e w1 ⟨rfl, hb1⟩
  obtain ⟨hc1, hf1⟩ := bcell hb1; have s1 := hb1.size; try simp only [World.size_alloc, World.size_setCell, World.size_drew, setRow_size] at s1
  go_wp2
  go_ret2
  exact ⟨rfl, by (repeat' (first | (with_reducible exact Below.refl _ _) | (with_reducible assumption) | (with_reducible refine Below.alloc ?_ ?_ _) | (with_reducible refine Below.setCell ?_ ?_ _) | (with_reducible refine below_row ?_ ?_ _) | (with_reducible refine Below.drew ?_) | (with_reducible refine below_drewN ?_ _) | (with_reducible refine Below.trans ?_ (Below.mono (by assumption) ?_)) | (first | exact Nat.le_refl _ | omega | (simp; done) | (simp; omega))))⟩
set_option maxHeartbeats 400000 in
theorem Inside_ok (an al au bn bl bu : Int) (w : World) (h : bad2 an al au bn bl bu = false) :
    Calls Tryd.prog 36 #[.agg #[.int .i64 an, .int .i64 al, .int .i64 au], .agg #[.int .i64 bn, .int .i64 bl, .int .i64 bu]] w fun e w' => e = .returned (.tuple #[.bool (allIn bl bu [al, au]), .int .i64 0]) ∧ Below w.heap.size w w' := by
  go_enter Tryd.func36, Tryd.ntmps36
  go_wp2_with fail
  refine (checkAll_two an al au bn bl bu _ 23 _ _ (Lies.new (by simp)) false h).mono ?_
  rintro e w1 ⟨rfl, hb1⟩
  have LA := (((Lies.new (u := w) (t := 23) (cs := #[.int .i64 an, .int .i64 al, .int .i64 au]) rfl).alloc _).alloc _).after hb1
  have LB := ((Lies.new (t := 23) (cs := #[.int .i64 bn, .int .i64 bl, .int .i64 bu]) rfl).alloc _).after hb1
  rw [World.size_alloc] at LB
  obtain ⟨a0, a1, a2, -, -, -⟩ := LA.c3
  obtain ⟨b0, b1, b2, -, -, -⟩ := LB.c3
  have s1 := hb1.size
  simp only [World.size_alloc] at s1
  have hz := LA.lt
  have hz2 := LB.lt
  go_wp2_with fail
  refine (within_2 bl bu al au _ _ _ ((Lies.new rfl).cell 0) ((Lies.new rfl).cell 1)).mono ?_
  rintro e w2 ⟨rfl, hb2⟩
  obtain ⟨hc2, hf2⟩ := bcell hb2; have s2 := hb2.size; try simp only [World.size_alloc, World.size_setCell, World.size_drew, setRow_size] at s2
  go_wp2
  go_ret2
  exact ⟨rfl, by (repeat' (first | (with_reducible exact Below.refl _ _) | (with_reducible assumption) | (with_reducible refine Below.alloc ?_ ?_ _) | (with_reducible refine Below.setCell ?_ ?_ _) | (with_reducible refine below_row ?_ ?_ _) | (with_reducible refine Below.drew ?_) | (with_reducible refine below_drewN ?_ _) | (with_reducible refine Below.trans ?_ (Below.mono (by assumption) ?_)) | (first | exact Nat.le_refl _ | omega | (simp; done) | (simp; omega))))⟩

def insS (al au bl bu : Int) (r : Bool) : Bool := bif r then false else allIn bl bu [al, au]
theorem Inside_any (an al au bn bl bu : Int) (w : World) :
    Calls Tryd.prog 36 #[.agg #[.int .i64 an, .int .i64 al, .int .i64 au], .agg #[.int .i64 bn, .int .i64 bl, .int .i64 bu]] w fun e w' => e = .returned (.tuple #[.bool (insS al au bl bu (bad2 an al au bn bl bu)), .int .i64 (bif bad2 an al au bn bl bu then 10 else 0)]) ∧ Below w.heap.size w w' := by
  cases h : bad2 an al au bn bl bu
  · exact Inside_ok an al au bn bl bu w h
  · exact Inside_bad an al au bn bl bu w h

/-- A clearance that may be wanted. -/
def wantS (lo hi : Int) : Bool := decide (-1000000000 ≤ lo ∧ lo ≤ hi ∧ hi ≤ 1000000000)
theorem want_in (lo hi : Int) : (allIn (-1000000000) 1000000000 [lo, hi] = true ∧ (lo ≤ hi ∧ wantS lo hi = true ∨ ¬ lo ≤ hi ∧ wantS lo hi = false)) ∨ (allIn (-1000000000) 1000000000 [lo, hi] = false ∧ wantS lo hi = false) := by
  by_cases h : allIn (-1000000000) 1000000000 [lo, hi] = true
  · refine .inl ⟨h, ?_⟩
    simp [allIn] at h
    by_cases h2 : lo ≤ hi
    · exact .inl ⟨h2, by simp [wantS]; omega⟩
    · exact .inr ⟨h2, by simp [wantS]; omega⟩
  · refine .inr ⟨by simpa using h, ?_⟩
    simp [allIn] at h
    simp [wantS]; omega

set_option maxHeartbeats 400000 in
theorem want_any (lo hi : Int) (w : World) :
    Calls Tryd.prog 56 #[.agg #[.int .i64 lo, .int .i64 hi]] w fun e w' => e = .returned (.bool (wantS lo hi)) ∧ Below w.heap.size w w' := by
  rcases want_in lo hi with ⟨h, h2⟩ | ⟨h, h3⟩
  · rcases h2 with ⟨h2, h3⟩ | ⟨h2, h3⟩
    · rw [h3]
      clear h3
      go_enter Tryd.func56, Tryd.ntmps56
      go_wp2_with fail
      refine (within_2 _ _ lo hi _ _ _ ((Lies.new (by simp)).cell 0) ((Lies.new (by simp)).cell 1)).mono ?_
      rw [h]
      rintro e w1 ⟨rfl, hb1⟩
      obtain ⟨hc1, hf1⟩ := bcell hb1; have s1 := hb1.size; try simp only [World.size_alloc, World.size_setCell, World.size_drew, setRow_size] at s1
      go_wp2
      go_ret
      exact ⟨rfl, by (repeat' (first | (with_reducible exact Below.refl _ _) | (with_reducible assumption) | (with_reducible refine Below.alloc ?_ ?_ _) | (with_reducible refine Below.setCell ?_ ?_ _) | (with_reducible refine below_row ?_ ?_ _) | (with_reducible refine Below.drew ?_) | (with_reducible refine below_drewN ?_ _) | (with_reducible refine Below.trans ?_ (Below.mono (by assumption) ?_)) | (first | exact Nat.le_refl _ | omega | (simp; done) | (simp; omega))))⟩
    · rw [h3]
      clear h3
      go_enter Tryd.func56, Tryd.ntmps56
      go_wp2_with fail
      refine (within_2 _ _ lo hi _ _ _ ((Lies.new (by simp)).cell 0) ((Lies.new (by simp)).cell 1)).mono ?_
      rw [h]
      rintro e w1 ⟨rfl, hb1⟩
      obtain ⟨hc1, hf1⟩ := bcell hb1; have s1 := hb1.size; try simp only [World.size_alloc, World.size_setCell, World.size_drew, setRow_size] at s1
      go_wp2
      go_ret
      exact ⟨ret_bool (by simpa using h2), by (repeat' (first | (with_reducible exact Below.refl _ _) | (with_reducible assumption) | (with_reducible refine Below.alloc ?_ ?_ _) | (with_reducible refine Below.setCell ?_ ?_ _) | (with_reducible refine below_row ?_ ?_ _) | (with_reducible refine Below.drew ?_) | (with_reducible refine below_drewN ?_ _) | (with_reducible refine Below.trans ?_ (Below.mono (by assumption) ?_)) | (first | exact Nat.le_refl _ | omega | (simp; done) | (simp; omega))))⟩
  · rw [h3]
    clear h3
    go_enter Tryd.func56, Tryd.ntmps56
    go_wp2_with fail
    refine (within_2 _ _ lo hi _ _ _ ((Lies.new (by simp)).cell 0) ((Lies.new (by simp)).cell 1)).mono ?_
    rw [h]
    rintro e w1 ⟨rfl, hb1⟩
    obtain ⟨hc1, hf1⟩ := bcell hb1; have s1 := hb1.size; try simp only [World.size_alloc, World.size_setCell, World.size_drew, setRow_size] at s1
    go_wp2
    go_ret
    exact ⟨rfl, by (repeat' (first | (with_reducible exact Below.refl _ _) | (with_reducible assumption) | (with_reducible refine Below.alloc ?_ ?_ _) | (with_reducible refine Below.setCell ?_ ?_ _) | (with_reducible refine below_row ?_ ?_ _) | (with_reducible refine Below.drew ?_) | (with_reducible refine below_drewN ?_ _) | (with_reducible refine Below.trans ?_ (Below.mono (by assumption) ?_)) | (first | exact Nat.le_refl _ | omega | (simp; done) | (simp; omega))))⟩
end Go.Proofs.YtjejjeomknkglaaDoor
