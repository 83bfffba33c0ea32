/- The reference: SameIssue, Same. -/
import Derived.Test.YtngaepgepcnhkaaK11
import Derived.Test.YtngaepgepcnhkaaJG
namespace Go.Proofs.Ytngaepgepcnhkaa
set_option linter.unusedVariables false
set_option linter.unusedSimpArgs false
open Go.RowKit

def sameI (x y : Iss) : Bool := decide (x.d = y.d) && decide (x.l = y.l) && decide (x.k = y.k) && decide (x.items = y.items) && decide (x.dims = y.dims)
theorem sameI_iff {x y : Iss} : sameI x y = true ↔ x = y := by
  obtain ⟨a, b, c, d, e⟩ := x
  obtain ⟨a', b', c', d', e'⟩ := y
  simp [sameI, and_assoc]
def eqD (x y : D3) : Bool := decide (x.1 = y.1) && decide (x.2.1 = y.2.1) && decide (x.2.2 = y.2.2)
theorem eqD_iff {x y : D3} : eqD x y = true ↔ x = y := by
  obtain ⟨a, b, c⟩ := x
  obtain ⟨a', b', c'⟩ := y
  simp [eqD, and_assoc]
set_option maxRecDepth 100000 in
set_option maxHeartbeats 8000000 in
theorem rSameIssue_any (x y : Iss) (vi vd vi2 vd2 : Value) (w : World) (hl1 : x.items.length ≤ 1000) (hl2 : y.items.length ≤ 1000) (hl3 : x.dims.length ≤ 1000) (hl4 : y.dims.length ≤ 1000) (h1 : ItemsAt w vi x.items) (h2 : ItemsAt w vi2 y.items) (h3 : DimsAt w vd x.dims) (h4 : DimsAt w vd2 y.dims) :
    Calls Try.prog 30 #[.agg #[.int .i64 x.d, .int .i64 x.l, .int .u8 x.k, vi, vd], .agg #[.int .i64 y.d, .int .i64 y.l, .int .u8 y.k, vi2, vd2]] w fun e w' => e = .returned (.bool (sameI x y)) ∧ Below w.heap.size w w' := by
  obtain ⟨d, l, k, il, dl⟩ := x
  obtain ⟨d', l', k', il', dl'⟩ := y
  simp only at hl1 hl2 hl3 hl4 h1 h2 h3 h4 ⊢
  unfold sameI
  simp only
  have HSI := Lib.hid (fun W (hW : Below w.heap.size w W) => rSameItems_v (h1.after hW) (h2.after hW) hl1 hl2)
  obtain ⟨A1, c1, b1, o1, rfl, -, -⟩ := h1
  obtain ⟨A2, c2, b2, o2, rfl, -, -⟩ := h2
  obtain ⟨A3, c3, b3, o3, rfl, hA3, hc3⟩ := h3
  obtain ⟨A4, c4, b4, o4, rfl, hA4, hc4⟩ := h4
  have HA3 := Lib.hid hA3
  have HA4 := Lib.hid hA4
  have HC3 := Lib.hid hc3
  have HC4 := Lib.hid hc4
  clear hA3 hA4 hc3 hc4
  by_cases e1 : d = d'
  · subst e1
    have q1 : (d != d) = false := by simp
    rw [decide_eq_true rfl, Bool.true_and]
    by_cases e2 : l = l'
    · subst e2
      have q2 : (l != l) = false := by simp
      rw [decide_eq_true rfl, Bool.true_and]
      by_cases e3 : k = k'
      · subst e3
        have q3 : (k != k) = false := by simp
        rw [decide_eq_true rfl, Bool.true_and]
        have LX := Lib.hid ((Lies.made w 45 #[.int .i64 d, .int .i64 l, .int .u8 k, .slice A1 il.length c1, .slice A3 dl.length c3]).alloc (.cells #[.int .i64 d, .int .i64 l, .int .u8 k, .slice A2 il'.length c2, .slice A4 dl'.length c4] 45))
        have LY := Lib.hid (Lies.new (u := w.alloc (.cells #[.int .i64 d, .int .i64 l, .int .u8 k, .slice A1 il.length c1, .slice A3 dl.length c3] 45)) (k := w.heap.size + 1) (t := 45) (cs := #[.int .i64 d, .int .i64 l, .int .u8 k, .slice A2 il'.length c2, .slice A4 dl'.length c4]) (by simp))
        by_cases e4 : il = il'
        · rw [decide_eq_true e4] at HSI ⊢
          rw [Bool.true_and]
          clear e4
          by_cases e5 : dl.length = dl'.length
          · have q5 : ((dl.length : Int) != (dl'.length : Int)) = false := by simp [e5]
            have HL := Lib.hid e5
            clear e5
            go_enter Try.func30, Try.ntmps30
            go_wp2_with fail
            refine (HSI.out _ (by (repeat' (first | (with_reducible exact Below.refl _ _) | (with_reducible assumption) | (with_reducible refine Below.alloc ?_ ?_ _) | (with_reducible refine Below.setCell ?_ ?_ _) | (with_reducible refine below_row ?_ ?_ _) | (with_reducible refine Below.drew ?_) | (with_reducible refine below_drewN ?_ _) | (with_reducible refine Below.trans ?_ (Below.mono (by assumption) ?_)) | (first | exact Nat.le_refl _ | omega | (simp; done) | (simp; omega) | (exact Below.size (by assumption))))))).mono ?_
            rintro e w1 ⟨rfl, hb1⟩
            have s1 := hb1.size; try simp only [World.size_alloc, World.size_setCell, World.size_drew, setRow_size] at s1
            have MX := Lib.hid (LX.out.after hb1)
            have MY := Lib.hid (LY.out.after hb1)
            have hbw : Below w.heap.size w w1 := by (repeat' (first | (with_reducible exact Below.refl _ _) | (with_reducible assumption) | (with_reducible refine Below.alloc ?_ ?_ _) | (with_reducible refine Below.setCell ?_ ?_ _) | (with_reducible refine below_row ?_ ?_ _) | (with_reducible refine Below.drew ?_) | (with_reducible refine below_drewN ?_ _) | (with_reducible refine Below.trans ?_ (Below.mono (by assumption) ?_)) | (first | exact Nat.le_refl _ | omega | (simp; done) | (simp; omega) | (exact Below.size (by assumption)))))
            have x4 := MX.out.cell 4
            have y4 := MY.out.cell 4
            have zx := MX.out.lt
            have zy := MY.out.lt
            clear hb1
            go_wp2_with fail
            clear x4 y4 zx zy
            go_loopw [5] (fun i wr => ∃ p : Nat, p ≤ dl.length ∧ i = .int .i64 p ∧ Hid (∀ j (_ : j < p) (h1 : j < dl.length) (h2 : j < dl'.length), dl[j] = dl'[j]) ∧ Hid (Lies wr w.heap.size 45 #[.int .i64 d, .int .i64 l, .int .u8 k, .slice A1 il.length c1, .slice A3 dl.length c3]) ∧ Hid (Lies wr (w.heap.size + 1) 45 #[.int .i64 d, .int .i64 l, .int .u8 k, .slice A2 il'.length c2, .slice A4 dl'.length c4]) ∧ Below w.heap.size w wr) (fun i _ => dl.length - (intOf i).toNat)
            case atStart => exact ⟨0, by omega, rfl, Lib.hid (fun j hj => by omega), MX, MY, hbw⟩
            case round =>
              obtain ⟨p, hp, rfl, HJ, NX, NY, hb⟩ := hrel
              have x4 := NX.out.cell 4
              have y4 := NY.out.cell 4
              have zx := NX.out.lt
              have zy := NY.out.lt
              by_cases hlt : p < dl.length
              · have hlt2 : p < dl'.length := by rw [← HL.out]; exact hlt
                obtain rfl := HA3.out (by omega)
                obtain rfl := HA4.out (by omega)
                have r0 := cell_keep hb (HC3.out p hlt).1
                have r1 := cell_keep hb (HC3.out p hlt).2.1
                have r2 := cell_keep hb (HC3.out p hlt).2.2
                have t0 := cell_keep hb (HC4.out p hlt2).1
                have t1 := cell_keep hb (HC4.out p hlt2).2.1
                have t2 := cell_keep hb (HC4.out p hlt2).2.2
                have kl1 : (p : Int) < (dl.length : Int) := by omega
                have kl2 : (p : Int) < (dl'.length : Int) := by omega
                obtain ⟨u, hu⟩ : ∃ u, dl[p] = u := ⟨_, rfl⟩
                obtain ⟨v, hv⟩ : ∃ v, dl'[p] = v := ⟨_, rfl⟩
                have HU := Lib.hid hu
                have HV := Lib.hid hv
                rw [hu] at r0 r1 r2
                rw [hv] at t0 t1 t2
                clear hu hv
                obtain ⟨u0, u1, u2⟩ := u
                obtain ⟨v0, v1, v2⟩ := v
                simp only at r0 r1 r2 t0 t1 t2
                by_cases g0 : u0 = v0 <;> by_cases g1 : u1 = v1 <;> by_cases g2 : u2 = v2
                · subst g0 g1 g2
                  have f0 : (u0 == u0) = true := by simp
                  have f1 : (u1 == u1) = true := by simp
                  have f2 : (u2 == u2) = true := by simp
                  go_wp2_with fail
                  go_quiet (fail)
                  go_wp2_with fail
                  go_roundw
                  case rel =>
                    refine ⟨p + 1, by omega, by go_num, Lib.hid (fun j hj h1 h2 => ?_), NX, NY, below_drewN hb _⟩
                    by_cases e : j = p
                    · subst e; rw [HU.out, HV.out]
                    · exact HJ.out j (by omega) h1 h2
                  case measure => simp [intOf]; omega
                all_goals
                  have HR : Hid (decide (dl = dl') = false) := Lib.hid (decide_eq_false (ne_at hlt hlt2 (by rw [HU.out, HV.out]; intro h; injection h with h1 h2; injection h2 with h2 h3; first | exact g0 h1 | exact g1 h2 | exact g2 h3)))
                  first | (have f0 : (u0 == v0) = true := by simpa using g0) | (have f0 : (u0 == v0) = false := by simpa using g0)
                  first | (have f1 : (u1 == v1) = true := by simpa using g1) | (have f1 : (u1 == v1) = false := by simpa using g1)
                  first | (have f2 : (u2 == v2) = true := by simpa using g2) | (have f2 : (u2 == v2) = false := by simpa using g2)
                  clear g0 g1 g2
                  go_wp2_with fail
                  go_quiet (fail)
                  go_wp2_with fail
                  go_ret
                  exact ⟨ret_bool HR.out.symm, below_drewN hb _⟩
              · have HR : Hid (decide (dl = dl') = true) := Lib.hid (decide_eq_true (eq_all HL.out (fun j h1 h2 => HJ.out j (by omega) h1 h2)))
                go_wp2
                go_ret
                exact ⟨ret_bool HR.out.symm, hb⟩
          · have q5 : ((dl.length : Int) != (dl'.length : Int)) = true := by simp; omega
            have HR : Hid (decide (dl = dl') = false) := Lib.hid (decide_eq_false (fun h => e5 (by rw [h])))
            clear e5
            go_enter Try.func30, Try.ntmps30
            go_wp2_with fail
            refine (HSI.out _ (by (repeat' (first | (with_reducible exact Below.refl _ _) | (with_reducible assumption) | (with_reducible refine Below.alloc ?_ ?_ _) | (with_reducible refine Below.setCell ?_ ?_ _) | (with_reducible refine below_row ?_ ?_ _) | (with_reducible refine Below.drew ?_) | (with_reducible refine below_drewN ?_ _) | (with_reducible refine Below.trans ?_ (Below.mono (by assumption) ?_)) | (first | exact Nat.le_refl _ | omega | (simp; done) | (simp; omega) | (exact Below.size (by assumption))))))).mono ?_
            rintro e w1 ⟨rfl, hb1⟩
            have s1 := hb1.size; try simp only [World.size_alloc, World.size_setCell, World.size_drew, setRow_size] at s1
            have MX := Lib.hid (LX.out.after hb1)
            have MY := Lib.hid (LY.out.after hb1)
            have x4 := MX.out.cell 4
            have y4 := MY.out.cell 4
            have zx := MX.out.lt
            have zy := MY.out.lt
            go_wp2
            go_ret
            exact ⟨ret_bool HR.out.symm, by (repeat' (first | (with_reducible exact Below.refl _ _) | (with_reducible assumption) | (with_reducible refine Below.alloc ?_ ?_ _) | (with_reducible refine Below.setCell ?_ ?_ _) | (with_reducible refine below_row ?_ ?_ _) | (with_reducible refine Below.drew ?_) | (with_reducible refine below_drewN ?_ _) | (with_reducible refine Below.trans ?_ (Below.mono (by assumption) ?_)) | (first | exact Nat.le_refl _ | omega | (simp; done) | (simp; omega) | (exact Below.size (by assumption)))))⟩
        · rw [decide_eq_false e4] at HSI ⊢
          rw [Bool.false_and]
          clear e4
          go_enter Try.func30, Try.ntmps30
          go_wp2_with fail
          refine (HSI.out _ (by (repeat' (first | (with_reducible exact Below.refl _ _) | (with_reducible assumption) | (with_reducible refine Below.alloc ?_ ?_ _) | (with_reducible refine Below.setCell ?_ ?_ _) | (with_reducible refine below_row ?_ ?_ _) | (with_reducible refine Below.drew ?_) | (with_reducible refine below_drewN ?_ _) | (with_reducible refine Below.trans ?_ (Below.mono (by assumption) ?_)) | (first | exact Nat.le_refl _ | omega | (simp; done) | (simp; omega) | (exact Below.size (by assumption))))))).mono ?_
          rintro e w1 ⟨rfl, hb1⟩
          have s1 := hb1.size; try simp only [World.size_alloc, World.size_setCell, World.size_drew, setRow_size] at s1
          go_wp2
          go_ret
          exact ⟨rfl, by (repeat' (first | (with_reducible exact Below.refl _ _) | (with_reducible assumption) | (with_reducible refine Below.alloc ?_ ?_ _) | (with_reducible refine Below.setCell ?_ ?_ _) | (with_reducible refine below_row ?_ ?_ _) | (with_reducible refine Below.drew ?_) | (with_reducible refine below_drewN ?_ _) | (with_reducible refine Below.trans ?_ (Below.mono (by assumption) ?_)) | (first | exact Nat.le_refl _ | omega | (simp; done) | (simp; omega) | (exact Below.size (by assumption)))))⟩
      · have q3 : (k != k') = true := by simp [e3]
        rw [decide_eq_false e3, Bool.false_and, Bool.false_and]
        clear e3
        go_enter Try.func30, Try.ntmps30
        go_wp2
        go_ret
        exact ⟨rfl, by (repeat' (first | (with_reducible exact Below.refl _ _) | (with_reducible assumption) | (with_reducible refine Below.alloc ?_ ?_ _) | (with_reducible refine Below.setCell ?_ ?_ _) | (with_reducible refine below_row ?_ ?_ _) | (with_reducible refine Below.drew ?_) | (with_reducible refine below_drewN ?_ _) | (with_reducible refine Below.trans ?_ (Below.mono (by assumption) ?_)) | (first | exact Nat.le_refl _ | omega | (simp; done) | (simp; omega) | (exact Below.size (by assumption)))))⟩
    · have q2 : (l != l') = true := by simp [e2]
      rw [decide_eq_false e2, Bool.false_and, Bool.false_and, Bool.false_and]
      clear e2
      go_enter Try.func30, Try.ntmps30
      go_wp2
      go_ret
      exact ⟨rfl, by (repeat' (first | (with_reducible exact Below.refl _ _) | (with_reducible assumption) | (with_reducible refine Below.alloc ?_ ?_ _) | (with_reducible refine Below.setCell ?_ ?_ _) | (with_reducible refine below_row ?_ ?_ _) | (with_reducible refine Below.drew ?_) | (with_reducible refine below_drewN ?_ _) | (with_reducible refine Below.trans ?_ (Below.mono (by assumption) ?_)) | (first | exact Nat.le_refl _ | omega | (simp; done) | (simp; omega) | (exact Below.size (by assumption)))))⟩
  · have q1 : (d != d') = true := by simp [e1]
    rw [decide_eq_false e1, Bool.false_and, Bool.false_and, Bool.false_and, Bool.false_and]
    clear e1
    go_enter Try.func30, Try.ntmps30
    go_wp2
    go_ret
    exact ⟨rfl, by (repeat' (first | (with_reducible exact Below.refl _ _) | (with_reducible assumption) | (with_reducible refine Below.alloc ?_ ?_ _) | (with_reducible refine Below.setCell ?_ ?_ _) | (with_reducible refine below_row ?_ ?_ _) | (with_reducible refine Below.drew ?_) | (with_reducible refine below_drewN ?_ _) | (with_reducible refine Below.trans ?_ (Below.mono (by assumption) ?_)) | (first | exact Nat.le_refl _ | omega | (simp; done) | (simp; omega) | (exact Below.size (by assumption)))))⟩
end Go.Proofs.Ytngaepgepcnhkaa
