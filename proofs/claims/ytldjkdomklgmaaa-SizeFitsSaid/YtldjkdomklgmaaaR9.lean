/- The reference: Meet in every case; Same. -/
import Derived.Test.YtldjkdomklgmaaaR8
namespace Go.Proofs.Ytldjkdomklgmaaa
set_option linter.unusedVariables false
set_option linter.unusedSimpArgs false
open Go.RowKit

theorem rMeet_any (A : Option Addr) (b off : Nat) (ds : List D3) (c : Nat) (w : World) (hA : 0 < ds.length → A = some ⟨b, off, none⟩) (hc : cellsD w b off ds) :
    Calls Try.prog 20 #[.slice A ds.length c] w (GivesS (meetR ds) w) := by
  unfold meetR
  by_cases h1 : 20 < ds.length
  · rw [if_pos h1]; exact rMeet_many A _ c w h1
  · rw [if_neg h1]
    by_cases h2 : badD ds = true
    · rw [if_pos h2]
      have h0 : 0 < ds.length := by
        cases ds with
        | nil => cases h2
        | cons => simp
      obtain rfl := hA h0
      exact rMeet_bad b off ds c w (by omega) hc h2
    · rw [if_neg h2]
      exact rMeet_go A b off ds c w hA (by omega) hc (by simpa using h2)

set_option maxHeartbeats 2000000 in
set_option maxRecDepth 100000 in
theorem rSame_any (A B : Option Addr) (b off b2 off2 : Nat) (ds : List D3) (c c2 : Nat) (w : World) (hl : ds.length ≤ 40) (hA : 0 < ds.length → A = some ⟨b, off, none⟩) (hc : cellsD w b off ds) (hB : 0 < ds.length → B = some ⟨b2, off2, none⟩) (hc2 : cellsD w b2 off2 ds) :
    Calls Try.prog 21 #[.slice A ds.length c, .slice B ds.length c2] w fun e w' => e = .returned (.bool true) ∧ Below w.heap.size w w' := by
  have hlen : ((ds.length : Nat) : Int) ≤ 40 := by omega
  have HC := Lib.hid hc
  have HC2 := Lib.hid hc2
  have HA := Lib.hid hA
  have HB := Lib.hid hB
  clear hA hB hc hc2
  go_enter Try.func21, Try.ntmps21
  go_wp2_with fail
  go_loopw [5] (fun i wr => ∃ (k : Nat), k ≤ ds.length ∧ i = .int .i64 k ∧ Below w.heap.size w wr) (fun i _ => ds.length - (intOf i).toNat)
  case atStart => exact ⟨0, by omega, rfl, by (repeat' (first | (with_reducible exact Below.refl _ _) | (with_reducible assumption) | (with_reducible refine Below.alloc ?_ ?_ _) | (with_reducible refine Below.setCell ?_ ?_ _) | (with_reducible refine below_row ?_ ?_ _) | (with_reducible refine Below.drew ?_) | (with_reducible refine below_drewN ?_ _) | (with_reducible refine Below.trans ?_ (Below.mono (by assumption) ?_)) | (first | exact Nat.le_refl _ | omega | (simp; done) | (simp; omega))))⟩
  case round =>
    obtain ⟨k, hk, rfl, hbr⟩ := hrel
    by_cases hlt : k < ds.length
    · obtain ⟨q0, q1, q2⟩ := HC.out k hlt
      obtain ⟨q3, q4, q5⟩ := HC2.out k hlt
      have hbl : b < w.heap.size := World.block_lt_of_cell? w _ q0
      have hbl2 : b2 < w.heap.size := World.block_lt_of_cell? w _ q3
      have p0 := (hbr.cell (p := ⟨b, off + k * 3, none⟩) hbl).trans q0
      have p1 := (hbr.cell (p := ⟨b, off + k * 3 + 1, none⟩) hbl).trans q1
      have p2 := (hbr.cell (p := ⟨b, off + k * 3 + 2, none⟩) hbl).trans q2
      have p3 := (hbr.cell (p := ⟨b2, off2 + k * 3, none⟩) hbl2).trans q3
      have p4 := (hbr.cell (p := ⟨b2, off2 + k * 3 + 1, none⟩) hbl2).trans q4
      have p5 := (hbr.cell (p := ⟨b2, off2 + k * 3 + 2, none⟩) hbl2).trans q5
      obtain rfl := HA.out (by omega)
      obtain rfl := HB.out (by omega)
      clear q0 q1 q2 q3 q4 q5
      generalize ds[k] = d at *
      obtain ⟨dn, dl, du⟩ := d
      simp only at p0 p1 p2 p3 p4 p5
      go_wp2_with fail
      go_quiet (fail)
      go_wp2
      go_roundw
      case rel => exact ⟨k + 1, by omega, by go_num, by (repeat' (first | (with_reducible exact Below.refl _ _) | (with_reducible assumption) | (with_reducible refine Below.alloc ?_ ?_ _) | (with_reducible refine Below.setCell ?_ ?_ _) | (with_reducible refine below_row ?_ ?_ _) | (with_reducible refine Below.drew ?_) | (with_reducible refine below_drewN ?_ _) | (with_reducible refine Below.trans ?_ (Below.mono (by assumption) ?_)) | (first | exact Nat.le_refl _ | omega | (simp; done) | (simp; omega))))⟩
      case measure => simp [intOf]; omega
    · have hke : k = ds.length := by omega
      subst hke
      go_wp2_with fail
      go_ret
      exact ⟨rfl, by (repeat' (first | (with_reducible exact Below.refl _ _) | (with_reducible assumption) | (with_reducible refine Below.alloc ?_ ?_ _) | (with_reducible refine Below.setCell ?_ ?_ _) | (with_reducible refine below_row ?_ ?_ _) | (with_reducible refine Below.drew ?_) | (with_reducible refine below_drewN ?_ _) | (with_reducible refine Below.trans ?_ (Below.mono (by assumption) ?_)) | (first | exact Nat.le_refl _ | omega | (simp; done) | (simp; omega))))⟩
end Go.Proofs.Ytldjkdomklgmaaa
