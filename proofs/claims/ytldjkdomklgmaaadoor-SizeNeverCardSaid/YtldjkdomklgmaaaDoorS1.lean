/- Share in every case. -/
import Derived.Test.YtldjkdomklgmaaaDoorC6
import Derived.Test.YtldjkdomklgmaaaDoorC7
import Derived.Test.YtldjkdomklgmaaaDoorC8
namespace Go.Proofs.YtldjkdomklgmaaaDoor
set_option linter.unusedVariables false
set_option linter.unusedSimpArgs false
open Go.RowKit

/-- What is shared. -/
def shareS (un nom lo hi : Int) : D3 × D3 × Int :=
  if allIn 0 1000000000 [nom] = false then noTwo 2 else if wantS lo hi = false then noTwo 2 else if unitB un = false then noTwo 11 else
    if downS (stepU un) nom ≠ nom then noTwo 12 else if okD nom nom (nom + downS (stepU un) ((hi - lo) / 2)) = false then noTwo 6 else
      if roomHi nom lo < roomLo (nom + downS (stepU un) ((hi - lo) / 2)) hi then noTwo 6 else
        if (convS un nom (roomLo (nom + downS (stepU un) ((hi - lo) / 2)) hi) (roomHi nom lo)).2 = 0 then
          ((nom, nom, nom + downS (stepU un) ((hi - lo) / 2)), (convS un nom (roomLo (nom + downS (stepU un) ((hi - lo) / 2)) hi) (roomHi nom lo)).1, 0)
        else noTwo (convS un nom (roomLo (nom + downS (stepU un) ((hi - lo) / 2)) hi) (roomHi nom lo)).2

theorem Share_any (un nom lo hi : Int) (w : World) : Calls Tryd.prog 27 #[.int .i64 nom, .agg #[.int .i64 lo, .int .i64 hi], .int .u8 un] w (Gives2 (shareS un nom lo hi) w) := by
  unfold shareS
  by_cases h1 : allIn 0 1000000000 [nom] = false
  · rw [if_pos h1]; exact Share_arg1 nom lo hi un w h1
  have h1' : allIn 0 1000000000 [nom] = true := by simpa using h1
  rw [if_neg h1]
  by_cases h2 : wantS lo hi = false
  · rw [if_pos h2]; exact Share_arg2 nom lo hi un w h1' h2
  have h2' : wantS lo hi = true := by simpa using h2
  rw [if_neg h2]
  obtain ⟨n0, n1⟩ : 0 ≤ nom ∧ nom ≤ 1000000000 := by simpa [allIn] using h1'
  by_cases h3 : unitB un = false
  · have h : ¬ un = 1 ∧ ¬ un = 2 := by simpa [unitB] using h3
    rw [if_pos h3]
    exact Share_unit nom lo hi un w h1' h2' (by rw [beq_eq_false_iff_ne]; omega) (by rw [beq_eq_false_iff_ne]; omega)
  · rw [if_neg h3]
    have h : un = 1 ∨ un = 2 := by
      have h3' : unitB un = true := by simpa using h3
      simpa only [unitB, decide_eq_true_eq] using h3'
    rcases h with hun | hun
    · subst hun
      by_cases h4 : downS 100 nom = nom
      · rw [if_neg (show ¬ downS (stepU 1) nom ≠ nom from fun h => h h4)]
        by_cases h5 : okD nom nom (nom + downS 100 ((hi - lo) / 2)) = false
        · rw [if_pos (show okD nom nom (nom + downS (stepU 1) ((hi - lo) / 2)) = false from h5)]
          exact Share_hole1 nom lo hi w n0 n1 h2' h4 h5
        · rw [if_neg (show ¬ okD nom nom (nom + downS (stepU 1) ((hi - lo) / 2)) = false from h5)]
          have h5' : okD nom nom (nom + downS 100 ((hi - lo) / 2)) = true := by simpa using h5
          by_cases h6 : roomHi nom lo < roomLo (nom + downS 100 ((hi - lo) / 2)) hi
          · rw [if_pos (show roomHi nom lo < roomLo (nom + downS (stepU 1) ((hi - lo) / 2)) hi from h6)]
            exact Share_room1 nom lo hi w n0 n1 h2' h4 h5' h6
          · rw [if_neg (show ¬ roomHi nom lo < roomLo (nom + downS (stepU 1) ((hi - lo) / 2)) hi from h6)]
            obtain ⟨⟨⟨x, y, z⟩, e⟩, hr⟩ : ∃ r, convS 1 nom (roomLo (nom + downS 100 ((hi - lo) / 2)) hi) (roomHi nom lo) = r := ⟨_, rfl⟩
            rw [show convS 1 nom (roomLo (nom + downS (stepU 1) ((hi - lo) / 2)) hi) (roomHi nom lo) = ((x, y, z), e) from hr]
            by_cases h7 : e = 0
            · rw [if_pos (show ((x, y, z), e).2 = 0 from h7)]
              exact Share_good1 nom lo hi w n0 n1 h2' h4 h5' h6 x y z e hr h7
            · rw [if_neg (show ¬ ((x, y, z), e).2 = 0 from h7)]
              exact Share_poor1 nom lo hi w n0 n1 h2' h4 h5' h6 x y z e hr h7
      · rw [if_pos (show downS (stepU 1) nom ≠ nom from h4)]
        exact Share_step1 nom lo hi w n0 n1 h2' h4
    · subst hun
      by_cases h4 : downS 254 nom = nom
      · rw [if_neg (show ¬ downS (stepU 2) nom ≠ nom from fun h => h h4)]
        by_cases h5 : okD nom nom (nom + downS 254 ((hi - lo) / 2)) = false
        · rw [if_pos (show okD nom nom (nom + downS (stepU 2) ((hi - lo) / 2)) = false from h5)]
          exact Share_hole2 nom lo hi w n0 n1 h2' h4 h5
        · rw [if_neg (show ¬ okD nom nom (nom + downS (stepU 2) ((hi - lo) / 2)) = false from h5)]
          have h5' : okD nom nom (nom + downS 254 ((hi - lo) / 2)) = true := by simpa using h5
          by_cases h6 : roomHi nom lo < roomLo (nom + downS 254 ((hi - lo) / 2)) hi
          · rw [if_pos (show roomHi nom lo < roomLo (nom + downS (stepU 2) ((hi - lo) / 2)) hi from h6)]
            exact Share_room2 nom lo hi w n0 n1 h2' h4 h5' h6
          · rw [if_neg (show ¬ roomHi nom lo < roomLo (nom + downS (stepU 2) ((hi - lo) / 2)) hi from h6)]
            obtain ⟨⟨⟨x, y, z⟩, e⟩, hr⟩ : ∃ r, convS 2 nom (roomLo (nom + downS 254 ((hi - lo) / 2)) hi) (roomHi nom lo) = r := ⟨_, rfl⟩
            rw [show convS 2 nom (roomLo (nom + downS (stepU 2) ((hi - lo) / 2)) hi) (roomHi nom lo) = ((x, y, z), e) from hr]
            by_cases h7 : e = 0
            · rw [if_pos (show ((x, y, z), e).2 = 0 from h7)]
              exact Share_good2 nom lo hi w n0 n1 h2' h4 h5' h6 x y z e hr h7
            · rw [if_neg (show ¬ ((x, y, z), e).2 = 0 from h7)]
              exact Share_poor2 nom lo hi w n0 n1 h2' h4 h5' h6 x y z e hr h7
      · rw [if_pos (show downS (stepU 2) nom ≠ nom from h4)]
        exact Share_step2 nom lo hi w n0 n1 h2' h4
end Go.Proofs.YtldjkdomklgmaaaDoor
