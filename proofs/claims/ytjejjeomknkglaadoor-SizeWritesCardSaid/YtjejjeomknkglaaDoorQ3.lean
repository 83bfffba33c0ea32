/- The reference: whether a size is exact, and how it is written. -/
import Derived.Test.YtjejjeomknkglaaDoorQ1
import Derived.Test.YtjejjeomknkglaaDoorT4
namespace Go.Proofs.YtjejjeomknkglaaDoor
set_option linter.unusedVariables false
set_option linter.unusedSimpArgs false
open Go.RowKit Go.Sort

theorem tmod_emod {a : Int} (h : 0 ≤ a) (b : Int) : a.tmod b = a % b := Int.tmod_eq_emod_of_nonneg h
set_option maxHeartbeats 1000000 in
theorem rexact_any (st n l u : Int) (w : World) (hst : st = 100 ∨ st = 254) (h : okD n l u = true) :
    Calls Tryd.prog 18 #[.agg #[.int .i64 n, .int .i64 l, .int .i64 u], .int .i64 st] w fun e w' => e = .returned (.bool (exactS st n l u)) ∧ Below w.heap.size w w' := by
  obtain ⟨h1, h2, h3, h4, h5⟩ := okD_iff.1 h
  have HX : Hid (exactS st n l u = (decide (n % st = 0) && decide (l % st = 0) && decide (u % st = 0))) := Lib.hid (by unfold exactS; simp [Bool.and_assoc])
  have t1 := tmod_emod h1 st
  have t2 := tmod_emod h3 st
  have t3 : u.tmod st = u % st := tmod_emod (by omega) st
  have b1 : 0 ≤ n % st ∧ n % st < 254 := by rcases hst with rfl | rfl <;> omega
  have b2 : 0 ≤ l % st ∧ l % st < 254 := by rcases hst with rfl | rfl <;> omega
  have b3 : 0 ≤ u % st ∧ u % st < 254 := by rcases hst with rfl | rfl <;> omega
  generalize exactS st n l u = X at *
  generalize n % st = a at *
  generalize l % st = b at *
  generalize u % st = c at *
  have hs0 : st ≠ 0 := by omega
  have hs1 : st ≠ -1 := by omega
  clear h h5
  have hcase : (X = true ∧ a = 0 ∧ b = 0 ∧ c = 0) ∨ (X = false ∧ ¬ a = 0) ∨ (X = false ∧ a = 0 ∧ ¬ b = 0) ∨ (X = false ∧ a = 0 ∧ b = 0 ∧ ¬ c = 0) := by
    rw [HX.out]
    by_cases ha : a = 0 <;> by_cases hb : b = 0 <;> by_cases hc : c = 0 <;> simp [ha, hb, hc]
  clear HX
  rcases hcase with ⟨rfl, rfl, rfl, rfl⟩ | ⟨rfl, ha⟩ | ⟨rfl, rfl, hb⟩ | ⟨rfl, rfl, rfl, hc⟩
  all_goals
    rcases hst with rfl | rfl
    all_goals
      go_enter Tryd.func18, Tryd.ntmps18
      go_wp2
      go_ret
      exact ⟨by first | rfl | exact ret_bool (beq_eq_false_iff_ne.2 hc), by (repeat' (first | (with_reducible exact Below.refl _ _) | (with_reducible assumption) | (with_reducible refine Below.alloc ?_ ?_ _) | (with_reducible refine Below.setCell ?_ ?_ _) | (with_reducible refine below_row ?_ ?_ _) | (with_reducible refine Below.drew ?_) | (with_reducible refine below_drewN ?_ _) | (with_reducible refine Below.trans ?_ (Below.mono (by assumption) ?_)) | (first | exact Nat.le_refl _ | omega | (simp; done) | (simp; omega))))⟩

set_option maxHeartbeats 4000000 in
theorem rExact_any (n l u : Int) (w : World) :
    Calls Tryd.prog 6 #[.agg #[.int .i64 n, .int .i64 l, .int .i64 u]] w fun e w' => e = .returned (.tuple #[.int .u8 (exactR n l u).1, .int .i64 ((exactR n l u).2)]) ∧ Below w.heap.size w w' := by
  have HD := Lib.hid (fun W => rDim_any n l u W)
  unfold exactR
  cases h : okD n l u
  · rw [h] at HD
    go_enter Tryd.func6, Tryd.ntmps6
    go_wp2_with fail
    refine (HD.out _).mono ?_
    rintro e w1 ⟨rfl, hb1⟩
    have s1 := hb1.size; try simp only [World.size_alloc, World.size_setCell, World.size_drew, setRow_size] at s1
    go_wp2_with fail
    go_ret2
    exact ⟨rfl, by (repeat' (first | (with_reducible exact Below.refl _ _) | (with_reducible assumption) | (with_reducible refine Below.alloc ?_ ?_ _) | (with_reducible refine Below.setCell ?_ ?_ _) | (with_reducible refine below_row ?_ ?_ _) | (with_reducible refine Below.drew ?_) | (with_reducible refine below_drewN ?_ _) | (with_reducible refine Below.trans ?_ (Below.mono (by assumption) ?_)) | (first | exact Nat.le_refl _ | omega | (simp; done) | (simp; omega))))⟩
  · rw [h] at HD
    have HE : Hid (∀ W st, (st = 100 ∨ st = 254) → Calls Tryd.prog 18 #[.agg #[.int .i64 n, .int .i64 l, .int .i64 u], .int .i64 st] W fun e w' => e = .returned (.bool (exactS st n l u)) ∧ Below W.heap.size W w') := Lib.hid (fun W st hst => rexact_any st n l u W hst h)
    have HS1 : Hid (∀ W, Calls Tryd.prog 19 #[.int .u8 1] W (Quietly (.int .i64 100) W)) := Lib.hid (fun W => rStep_any 1 W)
    have HS2 : Hid (∀ W, Calls Tryd.prog 19 #[.int .u8 2] W (Quietly (.int .i64 254) W)) := Lib.hid (fun W => rStep_any 2 W)
    show Calls _ _ _ _ fun e w' => e = .returned (.tuple #[.int .u8 (exactU n l u), .int .i64 0]) ∧ Below w.heap.size w w'
    unfold exactU
    have HE1 : Hid (∀ W, Calls Tryd.prog 18 #[.agg #[.int .i64 n, .int .i64 l, .int .i64 u], .int .i64 100] W fun e w' => e = .returned (.bool (exactS 100 n l u)) ∧ Below W.heap.size W w') := Lib.hid (fun W => HE.out W 100 (.inl rfl))
    have HE2 : Hid (∀ W, Calls Tryd.prog 18 #[.agg #[.int .i64 n, .int .i64 l, .int .i64 u], .int .i64 254] W fun e w' => e = .returned (.bool (exactS 254 n l u)) ∧ Below W.heap.size W w') := Lib.hid (fun W => HE.out W 254 (.inr rfl))
    clear HE h
    generalize exactS 100 n l u = p at *
    generalize exactS 254 n l u = q at *
    go_enter Tryd.func6, Tryd.ntmps6
    go_wp2_with fail
    refine (HD.out _).mono ?_
    rintro e w1 ⟨rfl, hb1⟩
    have s1 := hb1.size; try simp only [World.size_alloc, World.size_setCell, World.size_drew, setRow_size] at s1
    have LD := Lib.hid ((Lies.new (u := w) (t := 23) (cs := #[.int .i64 n, .int .i64 l, .int .i64 u]) rfl).after hb1)
    have zD := LD.out.lt
    go_wp2_with fail
    obtain ⟨p0, p1, p2, -, -, -⟩ := LD.out.c3
    refine wp_loop_rounds 3 ?_
    rw [rounds_succ]
    go_wp2_with fail
    go_region_held3 (fun W => W.cell? ⟨w.heap.size, 0, none⟩ = some (.int .i64 n) ∧ W.cell? ⟨w.heap.size, 1, none⟩ = some (.int .i64 l) ∧ W.cell? ⟨w.heap.size, 2, none⟩ = some (.int .i64 u)) (go_keep)
      (first | (go_at_call 19; refine (HS1.out _).mono ?_; rintro e w' ⟨rfl, k, rfl⟩) | (go_at_call 18; refine (HE1.out _).mono ?_; rintro e w' ⟨rfl, hb1'⟩; have L1' := (LD.out.drewN _).after hb1'; have c0 := L1'.cell 0; have c1 := L1'.cell 1; have c2 := L1'.cell 2))
    all_goals
      rename_i hHeld
      have HL1 := Lib.hid L1'
      have z1 : w.heap.size + 1 ≤ w'.heap.size := by have : w1.heap.size ≤ w'.heap.size := hb1'.size; omega
      have hbw1 : Below w.heap.size w w' := Below.trans (by (repeat' (first | (with_reducible exact Below.refl _ _) | (with_reducible assumption) | (with_reducible refine Below.alloc ?_ ?_ _) | (with_reducible refine Below.setCell ?_ ?_ _) | (with_reducible refine below_row ?_ ?_ _) | (with_reducible refine Below.drew ?_) | (with_reducible refine below_drewN ?_ _) | (with_reducible refine Below.trans ?_ (Below.mono (by assumption) ?_)) | (first | exact Nat.le_refl _ | omega | (simp; done) | (simp; omega))))) (hb1'.mono (show w.heap.size ≤ w1.heap.size by omega))
      clear L1' c0 c1 c2 hb1'
      obtain ⟨q0, q1, q2⟩ := hHeld
      clear p0 p1 p2
      cases p
      all_goals
        go_wp2_with fail
        rw [rounds_succ]
        go_wp2_with fail
        go_region_held3 (fun W => W.cell? ⟨w.heap.size, 0, none⟩ = some (.int .i64 n) ∧ W.cell? ⟨w.heap.size, 1, none⟩ = some (.int .i64 l) ∧ W.cell? ⟨w.heap.size, 2, none⟩ = some (.int .i64 u)) (go_keep)
      (first | (go_at_call 19; refine (HS2.out _).mono ?_; rintro e w2 ⟨rfl, k2, rfl⟩) | (go_at_call 18; refine (HE2.out _).mono ?_; rintro e w2 ⟨rfl, hb2'⟩; have L2' := (HL1.out.drewN _).after hb2'; have c0 := L2'.cell 0; have c1 := L2'.cell 1; have c2 := L2'.cell 2))
        all_goals
          have hbw2 : Below w.heap.size w w2 := Below.trans (by (repeat' (first | (with_reducible exact Below.refl _ _) | (with_reducible assumption) | (with_reducible refine Below.alloc ?_ ?_ _) | (with_reducible refine Below.setCell ?_ ?_ _) | (with_reducible refine below_row ?_ ?_ _) | (with_reducible refine Below.drew ?_) | (with_reducible refine below_drewN ?_ _) | (with_reducible refine Below.trans ?_ (Below.mono (by assumption) ?_)) | (first | exact Nat.le_refl _ | omega | (simp; done) | (simp; omega))))) (hb2'.mono (show w.heap.size ≤ w'.heap.size by omega))
          clear L2' c0 c1 c2 hb2'
          cases q
          all_goals
            go_wp2_with fail
            rw [rounds_succ]
            go_wp2_with fail
            go_ret2
            exact ⟨rfl, by (repeat' (first | (with_reducible exact Below.refl _ _) | (with_reducible assumption) | (with_reducible refine Below.alloc ?_ ?_ _) | (with_reducible refine Below.setCell ?_ ?_ _) | (with_reducible refine below_row ?_ ?_ _) | (with_reducible refine Below.drew ?_) | (with_reducible refine below_drewN ?_ _) | (with_reducible refine Below.trans ?_ (Below.mono (by assumption) ?_)) | (first | exact Nat.le_refl _ | omega | (simp; done) | (simp; omega))))⟩
end Go.Proofs.YtjejjeomknkglaaDoor
