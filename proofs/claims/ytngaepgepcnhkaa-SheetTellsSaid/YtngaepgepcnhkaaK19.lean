/- The reference: Same. -/
import Derived.Test.YtngaepgepcnhkaaK13
import Derived.StillTailTactics
namespace Go.Proofs.Ytngaepgepcnhkaa
set_option linter.unusedVariables false
set_option linter.unusedSimpArgs false
open Go.RowKit

instance (x y : Iss) : Decidable (x = y) := decidable_of_iff _ (sameI_iff (x := x) (y := y))
instance : DecidableEq Iss := fun x y => inferInstance
set_option maxRecDepth 100000 in
set_option maxHeartbeats 8000000 in
theorem rSame_any (A A2 : Option Addr) (c b off c2 b2 off2 : Nat) (xs ys : List Iss) (vi vd vi2 vd2 : Nat → Value) (w : World) (hl : xs.length ≤ 1000) (hl2 : ys.length ≤ 1000) (hsm : ∀ x ∈ xs, x.items.length ≤ 1000 ∧ x.dims.length ≤ 1000) (hsm2 : ∀ x ∈ ys, x.items.length ≤ 1000 ∧ x.dims.length ≤ 1000)
    (hA : 0 < xs.length → A = some ⟨b, off, none⟩) (hc : IssRow w b off xs vi vd) (hA2 : 0 < ys.length → A2 = some ⟨b2, off2, none⟩) (hc2 : IssRow w b2 off2 ys vi2 vd2) :
    Calls Try.prog 31 #[.agg #[.slice A xs.length c], .agg #[.slice A2 ys.length c2]] w fun e w' => e = .returned (.bool (decide (xs = ys))) ∧ Below w.heap.size w w' := by
  have HIS : Hid (∀ k (h : k < xs.length) (h2 : k < ys.length) W, Below w.heap.size w W → Calls Try.prog 30 #[.agg #[.int .i64 (xs[k].d), .int .i64 (xs[k].l), .int .u8 xs[k].k, vi k, vd k], .agg #[.int .i64 (ys[k].d), .int .i64 (ys[k].l), .int .u8 ys[k].k, vi2 k, vd2 k]] W fun e w' => e = .returned (.bool (sameI xs[k] ys[k])) ∧ Below W.heap.size W w') :=
    Lib.hid (fun k h h2 W hW => rSameIssue_any xs[k] ys[k] (vi k) (vd k) (vi2 k) (vd2 k) W (hsm _ (List.getElem_mem h)).1 (hsm2 _ (List.getElem_mem h2)).1 (hsm _ (List.getElem_mem h)).2 (hsm2 _ (List.getElem_mem h2)).2
      ((hc k h).2.2.2.2.2.2.1.after hW) ((hc2 k h2).2.2.2.2.2.2.1.after hW) ((hc k h).2.2.2.2.2.2.2.1.after hW) ((hc2 k h2).2.2.2.2.2.2.2.1.after hW))
  have HA := Lib.hid hA
  have HC := Lib.hid hc
  have HA2 := Lib.hid hA2
  have HC2 := Lib.hid hc2
  clear hA hc hA2 hc2 hsm hsm2
  have HD0 := Lib.hid ((Lies.made w 24 #[.slice A xs.length c]).alloc (.cells #[.slice A2 ys.length c2] 24))
  have HE0 := Lib.hid (Lies.new (u := w.alloc (.cells #[.slice A xs.length c] 24)) (k := w.heap.size + 1) (t := 24) (cs := #[.slice A2 ys.length c2]) (by simp))
  by_cases hn : xs.length = ys.length
  · have HN := Lib.hid hn
    have hq : ((xs.length : Int) != (ys.length : Int)) = false := by simp [hn]
    clear hn
    go_enter Try.func31, Try.ntmps31
    go_wp2_with fail
    go_loopw [5] (fun i wr => ∃ k : Nat, k ≤ xs.length ∧ i = .int .i64 k ∧ Hid (∀ j (_ : j < k) (h1 : j < xs.length) (h2 : j < ys.length), xs[j] = ys[j]) ∧ Hid (Lies wr w.heap.size 24 #[.slice A xs.length c]) ∧ Hid (Lies wr (w.heap.size + 1) 24 #[.slice A2 ys.length c2]) ∧ Below w.heap.size w wr) (fun i _ => xs.length - (intOf i).toNat)
    case atStart => exact ⟨0, by omega, rfl, Lib.hid (fun j hj => by omega), HD0, HE0, by (repeat' (first | (with_reducible exact Below.refl _ _) | (with_reducible assumption) | (with_reducible refine Below.alloc ?_ ?_ _) | (with_reducible refine Below.setCell ?_ ?_ _) | (with_reducible refine below_row ?_ ?_ _) | (with_reducible refine Below.drew ?_) | (with_reducible refine below_drewN ?_ _) | (with_reducible refine Below.trans ?_ (Below.mono (by assumption) ?_)) | (first | exact Nat.le_refl _ | omega | (simp; done) | (simp; omega) | (exact Below.size (by assumption)))))⟩
    case round =>
      obtain ⟨k, hk, rfl, HJ, HD, HE, hb⟩ := hrel
      have hz := hb.size
      have d0 := HD.out.cell 0
      have e0 := HE.out.cell 0
      have zd := HD.out.lt
      have ze := HE.out.lt
      by_cases hlt : k < xs.length
      · have hlt2 : k < ys.length := by have := HN.out; omega
        obtain rfl := HA.out (by omega)
        obtain rfl := HA2.out (by omega)
        obtain ⟨q0, q1, q2, q3, q4, -⟩ := (HC.out.after hb) k hlt
        obtain ⟨p0, p1, p2, p3, p4, -⟩ := (HC2.out.after hb) k hlt2
        have kl1 : (k : Int) < (xs.length : Int) := by omega
        have kl2 : (k : Int) < (ys.length : Int) := by omega
        have HSI := Lib.hid (HIS.out k hlt hlt2)
        have HEQ : Hid (sameI xs[k] ys[k] = true ↔ xs[k] = ys[k]) := Lib.hid sameI_iff
        have HNX : Hid (xs[k] = ys[k] → ∀ j (_ : j < k + 1) (h1 : j < xs.length) (h2 : j < ys.length), xs[j] = ys[j]) := Lib.hid (fun h j hj h1 h2 => by
          by_cases e : j = k
          · subst e; exact h
          · exact HJ.out j (by omega) h1 h2)
        have HNO : Hid (xs[k] ≠ ys[k] → xs ≠ ys) := Lib.hid (fun h e => h (by subst e; rfl))
        have hb1 : b < wr.heap.size := World.block_lt_of_cell? wr _ q0
        have hb2 : b2 < wr.heap.size := World.block_lt_of_cell? wr _ p0
        generalize vi k = v1 at *
        generalize vd k = v2 at *
        generalize vi2 k = v3 at *
        generalize vd2 k = v4 at *
        generalize sameI xs[k] ys[k] = sb at *
        generalize xs[k] = x at *
        generalize ys[k] = y at *
        obtain ⟨xd, xl, xk, xi, xm⟩ := x
        obtain ⟨yd, yl, yk, yi, ym⟩ := y
        simp only at q0 q1 q2 p0 p1 p2 HSI
        obtain ⟨wq, rfl⟩ : ∃ wq : World, wq = wr := ⟨_, rfl⟩
        go_wp2_with fail
        refine wp_region_still_tail 10 (by kernel_rfl) (by kernel_rfl) ?_
        simp only [List.take_succ_cons, List.take_zero, List.drop_succ_cons, List.drop_zero]
        repeat still_step
        refine wpStill_nil ?_
        go_wp2_with fail
        refine (HSI.out _ (by (repeat' (first | (with_reducible exact Below.refl _ _) | (with_reducible assumption) | (with_reducible refine Below.alloc ?_ ?_ _) | (with_reducible refine Below.setCell ?_ ?_ _) | (with_reducible refine below_row ?_ ?_ _) | (with_reducible refine Below.drew ?_) | (with_reducible refine below_drewN ?_ _) | (with_reducible refine Below.trans ?_ (Below.mono (by assumption) ?_)) | (first | exact Nat.le_refl _ | omega | (simp; done) | (simp; omega) | (exact Below.size (by assumption))))))).mono ?_
        rintro e w1 ⟨rfl, hb1⟩
        have s1 := hb1.size; try simp only [World.size_alloc, World.size_setCell, World.size_drew, setRow_size] at s1
        have HD1 := Lib.hid (HD.out.drew.after hb1)
        have HE1 := Lib.hid (HE.out.drew.after hb1)
        have hbw : Below w.heap.size w w1 := by (repeat' (first | (with_reducible exact Below.refl _ _) | (with_reducible assumption) | (with_reducible refine Below.alloc ?_ ?_ _) | (with_reducible refine Below.setCell ?_ ?_ _) | (with_reducible refine below_row ?_ ?_ _) | (with_reducible refine Below.drew ?_) | (with_reducible refine below_drewN ?_ _) | (with_reducible refine Below.trans ?_ (Below.mono (by assumption) ?_)) | (first | exact Nat.le_refl _ | omega | (simp; done) | (simp; omega) | (exact Below.size (by assumption)))))
        cases sb
        · have hne : decide (xs = ys) = false := decide_eq_false (HNO.out (fun h => by have := HEQ.out.2 h; cases this))
          go_wp2
          go_ret
          exact ⟨ret_bool hne.symm, hbw⟩
        · have HNX2 := Lib.hid (HNX.out (HEQ.out.1 rfl))
          go_wp2_with fail
          go_roundw
          case rel => exact ⟨k + 1, by omega, by go_num, HNX2, HD1, HE1, hbw⟩
          case measure => simp [intOf]; omega
      · have hke : k = xs.length := by omega
        subst hke
        have hne : decide (xs = ys) = true := decide_eq_true (by
          apply List.ext_getElem
          · exact HN.out
          · intro j h1 h2; exact HJ.out j h1 h1 h2)
        go_wp2
        go_ret
        exact ⟨ret_bool hne.symm, hb⟩
  · have hne : decide (xs = ys) = false := decide_eq_false (fun h => hn (by rw [h]))
    have hq : ((xs.length : Int) != (ys.length : Int)) = true := by simp; omega
    clear hn
    go_enter Try.func31, Try.ntmps31
    go_wp2
    go_ret
    exact ⟨ret_bool hne.symm, by (repeat' (first | (with_reducible exact Below.refl _ _) | (with_reducible assumption) | (with_reducible refine Below.alloc ?_ ?_ _) | (with_reducible refine Below.setCell ?_ ?_ _) | (with_reducible refine below_row ?_ ?_ _) | (with_reducible refine Below.drew ?_) | (with_reducible refine below_drewN ?_ _) | (with_reducible refine Below.trans ?_ (Below.mono (by assumption) ?_)) | (first | exact Nat.le_refl _ | omega | (simp; done) | (simp; omega) | (exact Below.size (by assumption)))))⟩
theorem rSame_v {w : World} {vI vJ : Value} {xs ys : List Iss} (h : RegAt w vI xs) (h2 : RegAt w vJ ys) : Calls Try.prog 31 #[.agg #[vI], .agg #[vJ]] w fun e w' => e = .returned (.bool (decide (xs = ys))) ∧ Below w.heap.size w w' := by
  obtain ⟨A, c, b, off, vi, vd, rfl, hA, hc⟩ := h.at_.row
  obtain ⟨A2, c2, b2, off2, vi2, vd2, rfl, hA2, hc2⟩ := h2.at_.row
  exact rSame_any A A2 c b off c2 b2 off2 xs ys vi vd vi2 vd2 w h.len h2.len h.small h2.small hA hc hA2 hc2
end Go.Proofs.Ytngaepgepcnhkaa
