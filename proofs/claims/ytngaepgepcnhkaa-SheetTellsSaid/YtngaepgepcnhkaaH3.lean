/- The walks of package sheet: isMade in every case, isMeasured. -/
import Derived.Test.YtngaepgepcnhkaaH2
import Derived.Test.YtngaepgepcnhkaaH4
import Derived.Shelf.Abstract
namespace Go.Proofs.Ytngaepgepcnhkaa
set_option linter.unusedVariables false
set_option linter.unusedSimpArgs false
open Go.RowKit Go.Shelf

theorem isMade_any (cb : Array Value) (x : Iss) (vi vd : Value) (w : World) (hi : ItemsAt w vi x.items) :
    Calls Try.prog 135 #[.agg cb, .agg #[.int .i64 x.d, .int .i64 x.l, .int .u8 x.k, vi, vd]] w fun e w' => e = .returned (.bool (madeB x)) ∧ Below w.heap.size w w' := by
  obtain ⟨d, l, k, it, di⟩ := x
  obtain ⟨A, c, b, off, rfl, hA, hc⟩ := hi
  simp only at hA hc ⊢
  by_cases hk : k = 1
  · subst hk
    by_cases hl : 1 ≤ it.length ∧ it.length ≤ 8
    · rw [hA (by omega)]
      exact isMade_go cb d l it di b off c vd w hl hc
    · exact isMade_long cb d l it di A c vd w hl
  · exact isMade_part cb d l k it di A c vd w hk

set_option maxHeartbeats 400000 in
theorem isMeasured1_any (n l u : Int) (w : World) :
    Calls Try.prog 140 #[.agg #[.int .i64 n, .int .i64 l, .int .i64 u]] w fun e w' => e = .returned (.bool (!okD n l u)) ∧ Below w.heap.size w w' := by
  by_cases h : okD n l u = true
  · go_enter Try.func140, Try.ntmps140
    go_wp2_with fail
    refine (Check_ok n l u _ h).mono ?_
    rintro e w1 ⟨rfl, hb⟩
    go_wp2
    go_ret
    exact ⟨ret_bool (by rw [h]; rfl), ((Below.refl _ _).alloc (Nat.le_refl _) _).trans (hb.mono (by simp))⟩
  · have h' : okD n l u = false := by simpa using h
    clear h
    go_enter Try.func140, Try.ntmps140
    go_wp2_with fail
    refine (Check_no n l u _ h').mono ?_
    rintro e w1 ⟨rfl, hb⟩
    go_wp2
    go_ret
    exact ⟨ret_bool (by rw [h']; rfl), ((Below.refl _ _).alloc (Nat.le_refl _) _).trans (hb.mono (by simp))⟩
theorem enter_m1 : ∀ (args : Array Value) (W : World), (callFunc 140 args).run Try.prog W = .ok (.enter 140 args) W := enters_of Try.func140 (by kernel_rfl) rfl
set_option maxHeartbeats 1000000 in
theorem isMeasured_any (cb : Array Value) (x : Iss) (vi vd : Value) (w : World) (hi : DimsAt w vd x.dims) :
    Calls Try.prog 136 #[.agg cb, .agg #[.int .i64 x.d, .int .i64 x.l, .int .u8 x.k, vi, vd]] w fun e w' => e = .returned (.bool (measuredB x)) ∧ Below w.heap.size w w' := by
  obtain ⟨d, l, k, it, di⟩ := x
  obtain ⟨A, c, b, off, rfl, hA, hc⟩ := hi
  simp only at hA hc ⊢
  unfold measuredB
  simp only
  by_cases hk : k = 1
  · subst hk
    rw [if_pos rfl]
    clear hc hA
    generalize di.length = n at *
    by_cases h : n = 0
    · subst h
      go_enter Try.func136, Try.ntmps136
      go_wp2
      go_ret
      exact ⟨ret_bool (by simp), by (repeat' (first | (with_reducible exact Below.refl _ _) | (with_reducible assumption) | (with_reducible refine Below.alloc ?_ ?_ _) | (with_reducible refine Below.setCell ?_ ?_ _) | (with_reducible refine below_row ?_ ?_ _) | (with_reducible refine Below.drew ?_) | (with_reducible refine below_drewN ?_ _) | (with_reducible refine Below.trans ?_ (Below.mono (by assumption) ?_)) | (first | exact Nat.le_refl _ | omega | (simp; done) | (simp; omega) | (exact Below.size (by assumption)))))⟩
    · have h' : ((n : Int) == 0) = false := by rw [beq_eq_false_iff_ne]; omega
      go_enter Try.func136, Try.ntmps136
      go_wp2
      go_ret
      exact ⟨ret_bool (by simp [h]), by (repeat' (first | (with_reducible exact Below.refl _ _) | (with_reducible assumption) | (with_reducible refine Below.alloc ?_ ?_ _) | (with_reducible refine Below.setCell ?_ ?_ _) | (with_reducible refine below_row ?_ ?_ _) | (with_reducible refine Below.drew ?_) | (with_reducible refine below_drewN ?_ _) | (with_reducible refine Below.trans ?_ (Below.mono (by assumption) ?_)) | (first | exact Nat.le_refl _ | omega | (simp; done) | (simp; omega) | (exact Below.size (by assumption)))))⟩
  · rw [if_neg hk]
    have hk' : (k == 1) = false := by rw [beq_eq_false_iff_ne]; exact hk
    by_cases h4 : di.length ≤ 4
    · have h4' : (di.length : Int) ≤ 4 := by omega
      have HH : Hid (∀ W, Below w.heap.size w W → Calls Try.prog 139 #[.slice A di.length c, .func (.func 140) #[] #[]] W fun e w' => e = .returned (.bool (di.any fun d => !okD d.1 d.2.1 d.2.2)) ∧ Below W.heap.size W w') :=
        Lib.hid (fun W hW => hasD_any 140 #[] (fun d => !okD d.1 d.2.1 d.2.2) A c b off di W hA (by omega) (fun i hi => ⟨cell_keep hW (hc i hi).1, cell_keep hW (hc i hi).2.1, cell_keep hW (hc i hi).2.2⟩) enter_m1 (fun x _ W' _ => isMeasured1_any x.1 x.2.1 x.2.2 W'))
      have HR : Hid (measuredB.badD0 di = di.any fun d => !okD d.1 d.2.1 d.2.2) := Lib.hid rfl
      rw [show decide (di.length ≤ 4) = true from by simpa using h4, Bool.true_and, HR.out]
      generalize (di.any fun d => !okD d.1 d.2.1 d.2.2) = r at *
      clear hA hc HR
      go_enter Try.func136, Try.ntmps136
      go_wp2_with fail
      refine (HH.out _ (by (repeat' (first | (with_reducible exact Below.refl _ _) | (with_reducible assumption) | (with_reducible refine Below.alloc ?_ ?_ _) | (with_reducible refine Below.setCell ?_ ?_ _) | (with_reducible refine below_row ?_ ?_ _) | (with_reducible refine Below.drew ?_) | (with_reducible refine below_drewN ?_ _) | (with_reducible refine Below.trans ?_ (Below.mono (by assumption) ?_)) | (first | exact Nat.le_refl _ | omega | (simp; done) | (simp; omega) | (exact Below.size (by assumption))))))).mono ?_
      rintro e w1 ⟨rfl, hb1⟩
      have s1 := hb1.size; try simp only [World.size_alloc, World.size_setCell, World.size_drew, setRow_size] at s1
      go_wp2_with fail
      go_ret
      exact ⟨rfl, by (repeat' (first | (with_reducible exact Below.refl _ _) | (with_reducible assumption) | (with_reducible refine Below.alloc ?_ ?_ _) | (with_reducible refine Below.setCell ?_ ?_ _) | (with_reducible refine below_row ?_ ?_ _) | (with_reducible refine Below.drew ?_) | (with_reducible refine below_drewN ?_ _) | (with_reducible refine Below.trans ?_ (Below.mono (by assumption) ?_)) | (first | exact Nat.le_refl _ | omega | (simp; done) | (simp; omega) | (exact Below.size (by assumption)))))⟩
    · have h4' : ¬ (di.length : Int) ≤ 4 := by omega
      rw [show decide (di.length ≤ 4) = false from by simpa using h4, Bool.false_and]
      clear hA hc
      go_enter Try.func136, Try.ntmps136
      go_wp2
      go_ret
      exact ⟨rfl, by (repeat' (first | (with_reducible exact Below.refl _ _) | (with_reducible assumption) | (with_reducible refine Below.alloc ?_ ?_ _) | (with_reducible refine Below.setCell ?_ ?_ _) | (with_reducible refine below_row ?_ ?_ _) | (with_reducible refine Below.drew ?_) | (with_reducible refine below_drewN ?_ _) | (with_reducible refine Below.trans ?_ (Below.mono (by assumption) ?_)) | (first | exact Nat.le_refl _ | omega | (simp; done) | (simp; omega) | (exact Below.size (by assumption)))))⟩
end Go.Proofs.Ytngaepgepcnhkaa
