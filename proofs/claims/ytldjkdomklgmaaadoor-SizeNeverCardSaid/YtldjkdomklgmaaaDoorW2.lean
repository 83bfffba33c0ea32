/- The law SizeNever, in every case. -/
import Derived.Test.YtldjkdomklgmaaaDoorW1
import Derived.Test.YtldjkdomklgmaaaDoorV3
import Derived.Test.YtldjkdomklgmaaaDoorK2
namespace Go.Proofs.YtldjkdomklgmaaaDoor
set_option linter.unusedVariables false
set_option linter.unusedSimpArgs false
open Go.RowKit

set_option maxHeartbeats 4000000 in
set_option maxRecDepth 100000 in
theorem never_bad (A : Option Addr) (k c : Nat) (n l u : Int) (w : World) (he : Env w) (h : okD n l u = false) : Calls Tryd.prog 6 #[.agg #[.int .i64 n, .int .i64 l, .int .i64 u], .slice A k c] w (Trues w) := by
  have HE := Lib.hid he
  have HM := Lib.hid (fun W => h ▸ rDim_any n l u W)
  clear he h
  go_enter Tryd.func6, Tryd.ntmps6
  go_wp2_with fail
  refine (alive_any _ (HE.out.after (by (repeat' (first | (with_reducible exact Below.refl _ _) | (with_reducible assumption) | (with_reducible refine Below.alloc ?_ ?_ _) | (with_reducible refine Below.setCell ?_ ?_ _) | (with_reducible refine below_row ?_ ?_ _) | (with_reducible refine Below.drew ?_) | (with_reducible refine below_drewN ?_ _) | (with_reducible refine Below.trans ?_ (Below.mono (by assumption) ?_)) | (first | exact Nat.le_refl _ | omega | (simp; done) | (simp; omega))))))).mono ?_
  rintro _ w1 ⟨rfl, hb1⟩
  have s1 := hb1.size; try simp only [World.size_alloc, World.size_setCell, World.size_drew, setRow_size] at s1
  have L := (Lies.made w 28 #[.int .i64 n, .int .i64 l, .int .i64 u]).after hb1
  have q0 := L.cell 0
  have q1 := L.cell 1
  have q2 := L.cell 2
  have z := L.lt
  go_wp2_with fail
  refine (HM.out _).mono ?_
  rintro _ w2 ⟨rfl, hb2⟩
  have s2 := hb2.size; try simp only [World.size_alloc, World.size_setCell, World.size_drew, setRow_size] at s2
  go_wp2
  go_ret
  exact ⟨rfl, Below.trans (by (repeat' (first | (with_reducible exact Below.refl _ _) | (with_reducible assumption) | (with_reducible refine Below.alloc ?_ ?_ _) | (with_reducible refine Below.setCell ?_ ?_ _) | (with_reducible refine below_row ?_ ?_ _) | (with_reducible refine Below.drew ?_) | (with_reducible refine below_drewN ?_ _) | (with_reducible refine Below.trans ?_ (Below.mono (by assumption) ?_)) | (first | exact Nat.le_refl _ | omega | (simp; done) | (simp; omega))))) (hb2.mono (by omega))⟩
set_option maxHeartbeats 4000000 in
set_option maxRecDepth 100000 in
theorem never_long (A : Option Addr) (k c : Nat) (n l u : Int) (w : World) (he : Env w) (h : okD n l u = true) (hk : 20 < k) : Calls Tryd.prog 6 #[.agg #[.int .i64 n, .int .i64 l, .int .i64 u], .slice A k c] w (Trues w) := by
  have HE := Lib.hid he
  have h1 : decide ((20 : Int) < (k : Int)) = true := decide_eq_true (by omega)
  have h2 : (20 : Int) < (k : Int) := by omega
  have HM := Lib.hid (fun W => h ▸ rDim_any n l u W)
  clear he h
  go_enter Tryd.func6, Tryd.ntmps6
  go_wp2_with fail
  refine (alive_any _ (HE.out.after (by (repeat' (first | (with_reducible exact Below.refl _ _) | (with_reducible assumption) | (with_reducible refine Below.alloc ?_ ?_ _) | (with_reducible refine Below.setCell ?_ ?_ _) | (with_reducible refine below_row ?_ ?_ _) | (with_reducible refine Below.drew ?_) | (with_reducible refine below_drewN ?_ _) | (with_reducible refine Below.trans ?_ (Below.mono (by assumption) ?_)) | (first | exact Nat.le_refl _ | omega | (simp; done) | (simp; omega))))))).mono ?_
  rintro _ w1 ⟨rfl, hb1⟩
  have s1 := hb1.size; try simp only [World.size_alloc, World.size_setCell, World.size_drew, setRow_size] at s1
  have L := (Lies.made w 28 #[.int .i64 n, .int .i64 l, .int .i64 u]).after hb1
  have q0 := L.cell 0
  have q1 := L.cell 1
  have q2 := L.cell 2
  have z := L.lt
  go_wp2_with fail
  refine (HM.out _).mono ?_
  rintro _ w2 ⟨rfl, hb2⟩
  have s2 := hb2.size; try simp only [World.size_alloc, World.size_setCell, World.size_drew, setRow_size] at s2
  go_wp2
  go_ret
  exact ⟨rfl, Below.trans (by (repeat' (first | (with_reducible exact Below.refl _ _) | (with_reducible assumption) | (with_reducible refine Below.alloc ?_ ?_ _) | (with_reducible refine Below.setCell ?_ ?_ _) | (with_reducible refine below_row ?_ ?_ _) | (with_reducible refine Below.drew ?_) | (with_reducible refine below_drewN ?_ _) | (with_reducible refine Below.trans ?_ (Below.mono (by assumption) ?_)) | (first | exact Nat.le_refl _ | omega | (simp; done) | (simp; omega))))) (hb2.mono (by omega))⟩
theorem never_val (v : Value) (n l u : Int) (w : World) (he : Env w) (hv : v = .slice none 0 0 ∨ ∃ (ad : Addr) (us : List Int) (c : Nat), v = .slice (some ad) us.length c ∧ (0 < us.length → ad = ⟨ad.block, ad.off, none⟩) ∧ cellsU w ad.block ad.off us ∧ ∀ x ∈ us, 0 ≤ x ∧ x ≤ 255) :
    Calls Tryd.prog 6 #[.agg #[.int .i64 n, .int .i64 l, .int .i64 u], v] w (Trues w) := by
  cases h : okD n l u
  · rcases hv with rfl | ⟨ad, us, c, rfl, -⟩
    · exact never_bad none 0 0 n l u w he h
    · exact never_bad _ _ c n l u w he h
  · rcases hv with rfl | ⟨ad, us, c, rfl, had, hc, hw⟩
    · exact never_go 0 0 [] 0 n l u w he (by simp) (fun i hi => absurd hi (by simp)) (fun h => absurd h (by simp)) (fun x hx => absurd hx (by simp)) h none (fun h => absurd h (by simp))
    · by_cases hk : us.length ≤ 20
      · exact never_go ad.block ad.off us c n l u w he hk hc (fun h0 => World.block_lt_of_cell? w ⟨ad.block, ad.off + 0, none⟩ (hc 0 h0)) hw h (some ad) (fun h0 => congrArg some (had h0))
      · exact never_long _ _ c n l u w he h (by omega)
end Go.Proofs.YtldjkdomklgmaaaDoor
