/- The law SizeMeets, in every case. -/
import Derived.Test.YtldjkdomklgmaabDoorM1
import Derived.Test.YtldjkdomklgmaabDoorV3
import Derived.Test.YtldjkdomklgmaabDoorK1
namespace Go.Proofs.YtldjkdomklgmaabDoor
set_option linter.unusedVariables false
set_option linter.unusedSimpArgs false
open Go.RowKit

set_option maxHeartbeats 4000000 in
set_option maxRecDepth 100000 in
theorem meets_none (A : Option Addr) (c : Nat) (mn ml mu n tu : Int) (w : World) (he : Env w) : Calls Tryd.prog 3 #[.slice A 0 c, .agg #[.int .i64 mn, .int .i64 ml, .int .i64 mu], .int .i64 n, .int .u8 tu] w (TruesM w) := by
  have HE := Lib.hid he
  clear he
  go_enter Tryd.func3, Tryd.ntmps3
  go_wp2_with fail
  refine (alive_any _ (HE.out.after (by (repeat' (first | (with_reducible exact Below.refl _ _) | (with_reducible assumption) | (with_reducible refine Below.alloc ?_ ?_ _) | (with_reducible refine Below.setCell ?_ ?_ _) | (with_reducible refine below_row ?_ ?_ _) | (with_reducible refine Below.drew ?_) | (with_reducible refine below_drewN ?_ _) | (with_reducible refine Below.trans ?_ (Below.mono (by assumption) ?_)) | (first | exact Nat.le_refl _ | omega | (simp; done) | (simp; omega))))))).mono ?_
  rintro _ w1 ⟨rfl, hb1⟩
  have s1 := hb1.size; try simp only [World.size_alloc, World.size_setCell, World.size_drew, setRow_size] at s1
  go_wp2
  go_ret
  exact ⟨rfl, by (repeat' (first | (with_reducible exact Below.refl _ _) | (with_reducible assumption) | (with_reducible refine Below.alloc ?_ ?_ _) | (with_reducible refine Below.setCell ?_ ?_ _) | (with_reducible refine below_row ?_ ?_ _) | (with_reducible refine Below.drew ?_) | (with_reducible refine below_drewN ?_ _) | (with_reducible refine Below.trans ?_ (Below.mono (by assumption) ?_)) | (first | exact Nat.le_refl _ | omega | (simp; done) | (simp; omega))))⟩
set_option maxHeartbeats 4000000 in
set_option maxRecDepth 100000 in
theorem meets_many (A : Option Addr) (k c : Nat) (mn ml mu n tu : Int) (w : World) (he : Env w) (hk : 20 ≤ k) : Calls Tryd.prog 3 #[.slice A k c, .agg #[.int .i64 mn, .int .i64 ml, .int .i64 mu], .int .i64 n, .int .u8 tu] w (TruesM w) := by
  have HE := Lib.hid he
  have h0 : ((k : Int) == 0) = false := by rw [beq_eq_false_iff_ne]; omega
  have h1 : (20 : Int) ≤ (k : Int) := by omega
  clear he
  go_enter Tryd.func3, Tryd.ntmps3
  go_wp2_with fail
  refine (alive_any _ (HE.out.after (by (repeat' (first | (with_reducible exact Below.refl _ _) | (with_reducible assumption) | (with_reducible refine Below.alloc ?_ ?_ _) | (with_reducible refine Below.setCell ?_ ?_ _) | (with_reducible refine below_row ?_ ?_ _) | (with_reducible refine Below.drew ?_) | (with_reducible refine below_drewN ?_ _) | (with_reducible refine Below.trans ?_ (Below.mono (by assumption) ?_)) | (first | exact Nat.le_refl _ | omega | (simp; done) | (simp; omega))))))).mono ?_
  rintro _ w1 ⟨rfl, hb1⟩
  have s1 := hb1.size; try simp only [World.size_alloc, World.size_setCell, World.size_drew, setRow_size] at s1
  go_wp2
  go_ret
  exact ⟨rfl, by (repeat' (first | (with_reducible exact Below.refl _ _) | (with_reducible assumption) | (with_reducible refine Below.alloc ?_ ?_ _) | (with_reducible refine Below.setCell ?_ ?_ _) | (with_reducible refine below_row ?_ ?_ _) | (with_reducible refine Below.drew ?_) | (with_reducible refine below_drewN ?_ _) | (with_reducible refine Below.trans ?_ (Below.mono (by assumption) ?_)) | (first | exact Nat.le_refl _ | omega | (simp; done) | (simp; omega))))⟩
set_option maxHeartbeats 4000000 in
set_option maxRecDepth 100000 in
theorem meets_bad (A : Option Addr) (k c : Nat) (mn ml mu n tu : Int) (w : World) (he : Env w) (h0 : 0 < k) (hk : k < 20) (hm : okD mn ml mu = false) : Calls Tryd.prog 3 #[.slice A k c, .agg #[.int .i64 mn, .int .i64 ml, .int .i64 mu], .int .i64 n, .int .u8 tu] w (TruesM w) := by
  have HE := Lib.hid he
  have h1 : ((k : Int) == 0) = false := by rw [beq_eq_false_iff_ne]; omega
  have h2 : (k : Int) < 20 := by omega
  have HM := Lib.hid (fun W => hm ▸ rDim_any mn ml mu W)
  clear he hm
  go_enter Tryd.func3, Tryd.ntmps3
  go_wp2_with fail
  refine (alive_any _ (HE.out.after (by (repeat' (first | (with_reducible exact Below.refl _ _) | (with_reducible assumption) | (with_reducible refine Below.alloc ?_ ?_ _) | (with_reducible refine Below.setCell ?_ ?_ _) | (with_reducible refine below_row ?_ ?_ _) | (with_reducible refine Below.drew ?_) | (with_reducible refine below_drewN ?_ _) | (with_reducible refine Below.trans ?_ (Below.mono (by assumption) ?_)) | (first | exact Nat.le_refl _ | omega | (simp; done) | (simp; omega))))))).mono ?_
  rintro _ w1 ⟨rfl, hb1⟩
  have s1 := hb1.size; try simp only [World.size_alloc, World.size_setCell, World.size_drew, setRow_size] at s1
  have L := (Lies.made w 24 #[.int .i64 mn, .int .i64 ml, .int .i64 mu]).after hb1
  have q0 := L.cell 0
  have q1 := L.cell 1
  have q2 := L.cell 2
  have z := L.lt
  go_wp2_with fail
  refine (HM.out _).mono ?_
  rintro _ w2 ⟨rfl, hb2⟩
  have s2 := hb2.size; try simp only [World.size_alloc, World.size_setCell, World.size_drew, setRow_size] at s2
  go_wp2
  go_ret
  exact ⟨rfl, Below.trans (by (repeat' (first | (with_reducible exact Below.refl _ _) | (with_reducible assumption) | (with_reducible refine Below.alloc ?_ ?_ _) | (with_reducible refine Below.setCell ?_ ?_ _) | (with_reducible refine below_row ?_ ?_ _) | (with_reducible refine Below.drew ?_) | (with_reducible refine below_drewN ?_ _) | (with_reducible refine Below.trans ?_ (Below.mono (by assumption) ?_)) | (first | exact Nat.le_refl _ | omega | (simp; done) | (simp; omega))))) (hb2.mono (by omega))⟩
theorem meets_val (v : Value) (mn ml mu n tu : Int) (w : World) (he : Env w) (t0 : 0 ≤ tu) (t1 : tu ≤ 255) (hv : v = .slice none 0 0 ∨ ∃ (ad : Addr) (ds : List D3) (c : Nat), v = .slice (some ad) ds.length c ∧ (0 < ds.length → ad = ⟨ad.block, ad.off, none⟩) ∧ cellsD w ad.block ad.off ds) :
    Calls Tryd.prog 3 #[v, .agg #[.int .i64 mn, .int .i64 ml, .int .i64 mu], .int .i64 n, .int .u8 tu] w (TruesM w) := by
  rcases hv with rfl | ⟨ad, ds, c, rfl, had, hc⟩
  · exact meets_none none 0 mn ml mu n tu w he
  · by_cases h0 : 0 < ds.length
    · by_cases hk : 20 ≤ ds.length
      · exact meets_many _ _ c mn ml mu n tu w he hk
      · cases hm : okD mn ml mu
        · exact meets_bad _ _ c mn ml mu n tu w he h0 (by omega) hm
        · rw [had h0]
          exact meets_go (fun W h => alive_any W h) ad.block ad.off ds c mn ml mu n tu w he h0 (by omega) hc hm t0 t1
    · have e : ds.length = 0 := by omega
      rw [e]
      exact meets_none _ c mn ml mu n tu w he
end Go.Proofs.YtldjkdomklgmaabDoor
