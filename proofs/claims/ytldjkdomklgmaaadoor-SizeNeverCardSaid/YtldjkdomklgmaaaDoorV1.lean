/- Fit, Room, Meet in every case. -/
import Derived.Test.YtldjkdomklgmaaaDoorA5
import Derived.Test.YtldjkdomklgmaaaDoorD1
import Derived.Test.YtldjkdomklgmaaaDoorC4
namespace Go.Proofs.YtldjkdomklgmaaaDoor
set_option linter.unusedVariables false
set_option linter.unusedSimpArgs false
open Go.RowKit

def fitS (al au bl bu : Int) (r : Bool) : (Int × Int) × Int × Int := bif r then ((0, 0), 0, 10) else ((al - bu, au - bl), kindS (al - bu) (au - bl), 0)
theorem Fit_any (an al au bn bl bu : Int) (w : World) :
    Calls Tryd.prog 17 #[.agg #[.int .i64 an, .int .i64 al, .int .i64 au], .agg #[.int .i64 bn, .int .i64 bl, .int .i64 bu]] w fun e w' => e = .returned (.tuple #[.agg #[.int .i64 ((fitS al au bl bu (bad2 an al au bn bl bu)).1.1), .int .i64 ((fitS al au bl bu (bad2 an al au bn bl bu)).1.2)], .int .u8 ((fitS al au bl bu (bad2 an al au bn bl bu)).2.1), .int .i64 ((fitS al au bl bu (bad2 an al au bn bl bu)).2.2)]) ∧ Below w.heap.size w w' := by
  cases h : bad2 an al au bn bl bu
  · exact Fit_ok an al au bn bl bu w h
  · exact Fit_bad an al au bn bl bu w h

/-- The room, as both tell it. -/
def roomS (n l u lo hi : Int) : D3 × Int :=
  if okD n l u = false then ((0, 0, 0), 10) else if wantS lo hi = false then ((0, 0, 0), 2) else if roomHi l lo < roomLo u hi then ((0, 0, 0), 6) else ((n, roomLo u hi, roomHi l lo), 0)

theorem Room_any (n l u lo hi : Int) (w : World) : Calls Tryd.prog 26 #[.agg #[.int .i64 n, .int .i64 l, .int .i64 u], .agg #[.int .i64 lo, .int .i64 hi]] w (Gives (roomS n l u lo hi) w) := by
  unfold roomS
  by_cases h1 : okD n l u = false
  · rw [if_pos h1]; exact Room_bad n l u lo hi w h1
  · have h1' : okD n l u = true := by simpa using h1
    rw [if_neg h1]
    by_cases h2 : wantS lo hi = false
    · rw [if_pos h2]; exact Room_arg n l u lo hi w h1' h2
    · have h2' : wantS lo hi = true := by simpa using h2
      rw [if_neg h2]
      by_cases h3 : roomHi l lo < roomLo u hi
      · rw [if_pos h3]; exact Room_none n l u lo hi w h1' h2' h3
      · rw [if_neg h3]; exact Room_fits n l u lo hi w h1' h2' h3

/-- What is common, as both tell it. -/
def meetR (ds : List D3) : (Int × Int) × Int :=
  if 20 < ds.length then ((0, 0), 4) else if badD ds = true then ((0, 0), 10) else if ds.length = 0 then ((0, 0), 6) else
    if (meetS 0 1000000000 ds).2 < (meetS 0 1000000000 ds).1 then ((0, 0), 6) else (meetS 0 1000000000 ds, 0)
def GivesS (r : (Int × Int) × Int) (w : World) (e : Ending) (w' : World) : Prop := e = .returned (.tuple #[.agg #[.int .i64 r.1.1, .int .i64 r.1.2], .int .i64 r.2]) ∧ Below w.heap.size w w'

theorem Meet_any (A : Option Addr) (b off : Nat) (ds : List D3) (c : Nat) (w : World) (hA : 0 < ds.length → A = some ⟨b, off, none⟩) (hc : cellsD w b off ds) :
    Calls Tryd.prog 28 #[.slice A ds.length c] w (GivesS (meetR ds) w) := by
  unfold meetR
  by_cases h1 : 20 < ds.length
  · rw [if_pos h1]; exact Meet_many A _ c w h1
  · rw [if_neg h1]
    by_cases h2 : badD ds = true
    · rw [if_pos h2]; exact Meet_bad A b off ds c w hA (by omega) hc h2
    · rw [if_neg h2]
      by_cases h3 : ds.length = 0
      · rw [if_pos h3]
        obtain rfl := List.length_eq_zero_iff.1 h3
        exact Meet_empty A c w
      · rw [if_neg h3]
        refine (Meet_go A b off ds c w hA (by omega) (by omega) hc (by simpa using h2)).mono ?_
        rintro e w' ⟨rfl, hb⟩
        by_cases h4 : (meetS 0 1000000000 ds).2 < (meetS 0 1000000000 ds).1
        · rw [if_pos h4]; exact ⟨by simp only [if_pos h4], hb⟩
        · rw [if_neg h4]; exact ⟨by simp only [if_neg h4], hb⟩

end Go.Proofs.YtldjkdomklgmaaaDoor
