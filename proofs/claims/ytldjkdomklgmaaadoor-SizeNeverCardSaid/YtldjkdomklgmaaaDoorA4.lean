/- The walks of package size: Fit, Room. -/
import Derived.Test.YtldjkdomklgmaaaDoorA3
namespace Go.Proofs.YtldjkdomklgmaaaDoor
set_option linter.unusedVariables false
set_option linter.unusedSimpArgs false
open Go.RowKit

set_option maxHeartbeats 400000 in
theorem Fit_bad (an al au bn bl bu : Int) (w : World) (h : bad2 an al au bn bl bu = true) :
    Calls Tryd.prog 17 #[.agg #[.int .i64 an, .int .i64 al, .int .i64 au], .agg #[.int .i64 bn, .int .i64 bl, .int .i64 bu]] w fun e w' => e = .returned (.tuple #[.agg #[.int .i64 0, .int .i64 0], .int .u8 0, .int .i64 10]) ∧ Below w.heap.size w w' := by
  go_enter Tryd.func17, Tryd.ntmps17
  go_wp2_with fail
  refine (checkAll_two an al au bn bl bu _ 28 _ _ (Lies.new (by simp)) true h).mono ?_
  rintro e w1 ⟨rfl, hb1⟩
  obtain ⟨hc1, hf1⟩ := bcell hb1; have s1 := hb1.size; try simp only [World.size_alloc, World.size_setCell, World.size_drew, setRow_size] at s1
  go_wp2
  refine bodyPost_ret (v := .tuple #[.agg #[.int .i64 0, .int .i64 0], .int .u8 0, .int .i64 10]) (by simp [results, Tryd.results17, go_sem, hc1]) rfl ⟨rfl, ?_⟩
  (repeat' (first | (with_reducible exact Below.refl _ _) | (with_reducible assumption) | (with_reducible refine Below.alloc ?_ ?_ _) | (with_reducible refine Below.setCell ?_ ?_ _) | (with_reducible refine below_row ?_ ?_ _) | (with_reducible refine Below.drew ?_) | (with_reducible refine below_drewN ?_ _) | (with_reducible refine Below.trans ?_ (Below.mono (by assumption) ?_)) | (first | exact Nat.le_refl _ | omega | (simp; done) | (simp; omega))))

/-- What Fit tells of valid sizes: the kind. -/
def kindS (lo hi : Int) : Int := if 0 ≤ lo then 1 else if hi ≤ 0 then 2 else 3
set_option maxHeartbeats 400000 in
theorem Fit_ok (an al au bn bl bu : Int) (w : World) (h : bad2 an al au bn bl bu = false) :
    Calls Tryd.prog 17 #[.agg #[.int .i64 an, .int .i64 al, .int .i64 au], .agg #[.int .i64 bn, .int .i64 bl, .int .i64 bu]] w fun e w' => e = .returned (.tuple #[.agg #[.int .i64 (al - bu), .int .i64 (au - bl)], .int .u8 (kindS (al - bu) (au - bl)), .int .i64 0]) ∧ Below w.heap.size w w' := by
  obtain ⟨ha, hb⟩ := bad2_iff.1 h
  obtain ⟨ha1, ha2, ha3, ha4, ha5⟩ := okD_iff.1 ha
  obtain ⟨hb1, hb2, hb3, hb4, hb5⟩ := okD_iff.1 hb
  have hk : (0 ≤ al - bu ∧ kindS (al - bu) (au - bl) = 1) ∨ (al - bu < 0 ∧ au - bl ≤ 0 ∧ kindS (al - bu) (au - bl) = 2) ∨ (al - bu < 0 ∧ 0 < au - bl ∧ kindS (al - bu) (au - bl) = 3) := by
    unfold kindS
    by_cases h1 : 0 ≤ al - bu
    · left; exact ⟨h1, by rw [if_pos h1]⟩
    · by_cases h2 : au - bl ≤ 0
      · right; left; exact ⟨by omega, h2, by rw [if_neg h1, if_pos h2]⟩
      · right; right; exact ⟨by omega, by omega, by rw [if_neg h1, if_neg h2]⟩
  clear ha hb
  rcases hk with ⟨k1, hk⟩ | ⟨k1, k2, hk⟩ | ⟨k1, k2, hk⟩
  all_goals
    rw [hk]
    clear hk
    go_enter Tryd.func17, Tryd.ntmps17
    go_wp2_with fail
    refine (checkAll_two an al au bn bl bu _ 28 _ _ (Lies.new (by simp)) false h).mono ?_
    rintro e w1 ⟨rfl, hb1⟩
    have LA := ((((Lies.new (u := w) (t := 28) (cs := #[.int .i64 an, .int .i64 al, .int .i64 au]) rfl).alloc _).alloc _).alloc _).after hb1
    have LB := (((Lies.new (t := 28) (cs := #[.int .i64 bn, .int .i64 bl, .int .i64 bu]) rfl).alloc _).alloc _).after hb1
    have LR := ((Lies.new (t := 31) (cs := #[.int .i64 0, .int .i64 0]) rfl).alloc _).after hb1
    have s1 := hb1.size
    simp only [World.size_alloc] at s1 LB LR
    obtain ⟨a0, a1, a2, -, -, -⟩ := LA.c3
    obtain ⟨b0, b1, b2, -, -, -⟩ := LB.c3
    obtain ⟨r0, r1, f0, f1⟩ := LR.c2
    have HR := Lib.hid LR
    clear h LA LB LR
    go_wp2
    have HF := (((HR.out.store 0 (.int .i64 (al - bu))).store 1 (.int .i64 (au - bl))).store 0 (.int .i64 (al - bu))).store 1 (.int .i64 (au - bl))
    have z0 := HF.cell 0
    have z1 := HF.cell 1
    refine bodyPost_ret (v := .tuple #[.agg #[.int .i64 (al - bu), .int .i64 (au - bl)], .int .u8 _, .int .i64 0]) (by simp [results, Tryd.results17, go_sem, z0, z1]; try rfl) rfl ⟨rfl, ?_⟩
    (repeat' (first | (with_reducible exact Below.refl _ _) | (with_reducible assumption) | (with_reducible refine Below.alloc ?_ ?_ _) | (with_reducible refine Below.setCell ?_ ?_ _) | (with_reducible refine below_row ?_ ?_ _) | (with_reducible refine Below.drew ?_) | (with_reducible refine below_drewN ?_ _) | (with_reducible refine Below.trans ?_ (Below.mono (by assumption) ?_)) | (first | exact Nat.le_refl _ | omega | (simp; done) | (simp; omega))))
end Go.Proofs.YtldjkdomklgmaaaDoor
