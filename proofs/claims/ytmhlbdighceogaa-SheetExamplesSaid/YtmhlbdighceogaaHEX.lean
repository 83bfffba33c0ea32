/- SheetExamples: the law's body. -/
import Derived.Test.YtmhlbdighceogaaRD
import Derived.Test.YtmhlbdighceogaaHU
import Derived.Test.YtmhlbdighceogaaHY
import Derived.Test.YtmhlbdighceogaaVJ
namespace Go.Proofs.Ytmhlbdighceogaa
set_option linter.unusedVariables false
set_option linter.unusedSimpArgs false
open Go.RowKit

theorem clash_x {vI vJ : Value} {xs ys : List Iss} {w : World} (h : RegAt w vI xs) (h2 : RegAt w vJ ys) : Calls Try.prog 46 #[.agg #[vI], .agg #[vJ]] w fun e w' => ∃ A c, e = .returned (.tuple #[.slice A (clashE xs ys).1.length c, .int .i64 ((clashE xs ys).2)]) ∧ RefsAt w' (.slice A (clashE xs ys).1.length c) (clashE xs ys).1 ∧ Below w.heap.size w w' := by
  refine (sClash_any h h2).mono ?_
  rintro e w' ⟨v, rfl, hr, hb⟩
  obtain ⟨A, c, rfl⟩ := hr.slice
  exact ⟨A, c, rfl, hr, hb⟩
theorem merge_x {vI vJ : Value} {xs ys : List Iss} {g : Int} {w : World} (h : RegAt w vI xs) (h2 : RegAt w vJ ys) (c1 : CapOk vI) (c2 : CapOk vJ) (he : mergeE xs ys = ([], g)) : Calls Try.prog 48 #[.agg #[vI], .agg #[vJ]] w fun e w' => ∃ A n c, e = .returned (.tuple #[.agg #[.slice A n c], .int .i64 g]) ∧ Below w.heap.size w w' := by
  have h3 := sMerge_any h h2 c1 c2
  rw [he] at h3
  refine h3.mono ?_
  rintro e w' ⟨v, rs, rfl, ho, hm, hb⟩
  obtain ⟨A, c, g, rfl, -⟩ := ho.form
  exact ⟨A, _, c, rfl, hb⟩
theorem differ_x {vI : Value} {xs : List Iss} {a : List D3} {b : List Int} {q d f t : Int} {w : World} (h : RegAt w vI xs) (he : differE xs d f t = (a, b, q)) : Calls Try.prog 43 #[.agg #[vI], .int .i64 d, .int .i64 f, .int .i64 t] w fun e w' => ∃ A c B k, e = .returned (.tuple #[.slice A a.length c, .slice B b.length k, .int .i64 q]) ∧ IntsAt w' (.slice B b.length k) b ∧ Below w.heap.size w w' := by
  have h3 := sDiffer_any d f t h
  rw [he] at h3
  refine h3.mono ?_
  rintro e w' ⟨v, u, rfl, hv, hu, hb⟩
  obtain ⟨A, c, rfl⟩ := hv.slice
  obtain ⟨B, k, rfl⟩ := hu.slice
  exact ⟨A, c, B, k, rfl, hu, hb⟩
theorem expl_x {vI vL : Value} {xs : List Iss} {ls : List Int} {d q : Int} {w : World} (h : RegAt w vI xs) (hL : IntsAt w vL ls) (hll : ls.length ≤ 1000) (ha : askE xs ls d = q) :
    Calls Try.prog 32 #[.agg #[vI], vL, .int .i64 d] w fun e w' => ∃ A n c, e = .returned (.tuple #[.slice A n c, .int .i64 q]) ∧ Below w.heap.size w w' := by
  have h2 := sExplode_any d h hL (by omega)
  rw [ha] at h2
  refine h2.mono ?_
  rintro e w' ⟨v, rfl, hi, hb⟩
  obtain ⟨A, c, b, off, rfl, -⟩ := hi
  exact ⟨A, _, c, rfl, hb⟩
theorem uses_x {vI : Value} {xs : List Iss} {d q : Int} {w : World} (h : RegAt w vI xs) (he : (usesE xs d).2 = q) :
    Calls Try.prog 38 #[.agg #[vI], .int .i64 d] w fun e w' => ∃ A n c, e = .returned (.tuple #[.slice A n c, .int .i64 q]) ∧ Below w.heap.size w w' := by
  have h2 := sUses_any d h
  refine h2.mono ?_
  rintro e w' ⟨v, rfl, hi, hb⟩
  obtain ⟨A, c, rfl⟩ := hi.slice
  rw [he]
  exact ⟨A, _, c, rfl, hb⟩
theorem depth_x {vI : Value} {xs : List Iss} {d a q : Int} {w : World} (h : RegAt w vI xs) (he : depthE xs d = (a, q)) : Calls Try.prog 28 #[.agg #[vI], .int .i64 d] w fun e w' => e = .returned (.tuple #[.int .i64 a, .int .i64 q]) ∧ Below w.heap.size w w' := by
  have h2 := sDepth_any d h
  rw [he] at h2
  exact h2
theorem last_x {vI : Value} {xs : List Iss} {d a q : Int} {w : World} (h : RegAt w vI xs) (he : lastE xs d = (a, q)) : Calls Try.prog 21 #[.agg #[vI], .int .i64 d] w fun e w' => e = .returned (.tuple #[.int .i64 a, .int .i64 q]) ∧ Below w.heap.size w w' := by
  have h2 := sLast_any d h
  rw [he] at h2
  exact h2
theorem check_x {vI : Value} {xs : List Iss} {q : Int} {w : World} (h : RegAt w vI xs) (he : layE xs = q) : Calls Try.prog 23 #[.agg #[vI]] w fun e w' => e = .returned (.int .i64 q) ∧ Below w.heap.size w w' := by
  have h2 := sCheck_any h
  rw [he] at h2
  exact h2
theorem clash_y {vI vJ : Value} {xs ys : List Iss} {l : List (Int × Int)} {q : Int} {w : World} (h : RegAt w vI xs) (h2 : RegAt w vJ ys) (he : clashE xs ys = (l, q)) : Calls Try.prog 46 #[.agg #[vI], .agg #[vJ]] w fun e w' => ∃ A c, e = .returned (.tuple #[.slice A l.length c, .int .i64 q]) ∧ RefsAt w' (.slice A l.length c) l ∧ Below w.heap.size w w' := by
  have h3 := clash_x h h2
  rw [he] at h3
  exact h3
theorem own_low {w : World} {base g i : Nat} {e : TypeId} {size n : Nat} {v : Value} {xs : List Value} (h : w.ownsRow base e size v n xs) (hg : g < base) (u : Value) : (w.setCell ⟨g, i, none⟩ u).ownsRow base e size v n xs :=
  own_at h fun k hk => Below.heap_setCell w ⟨g, i, none⟩ u k (by have := (h.lt k hk).1; show k ≠ g; omega)
theorem ints_four {W : World} {g : Nat} (h : Lies W g 3 #[.int .i64 1, .int .i64 1, .int .i64 1, .int .i64 1, .int .i64 1]) : IntsAt W (.slice (some ⟨g, 0, none⟩) 4 5) [1, 1, 1, 1] := by
  refine ⟨_, _, g, 0, rfl, fun _ => rfl, fun i hi => ?_⟩
  have hi2 : i < 4 := hi
  have hi3 : i = 0 ∨ i = 1 ∨ i = 2 ∨ i = 3 := by omega
  rcases hi3 with rfl | rfl | rfl | rfl
  · exact h.cell 0
  · exact h.cell 1
  · exact h.cell 2
  · exact h.cell 3
theorem refs_one {W : World} {a : Nat} (h : Lies W a 26 #[.int .i64 50, .int .i64 1]) : RefsAt W (.slice (some ⟨a, 0, none⟩) 1 1) [(50, 1)] := by
  refine ⟨_, _, a, 0, rfl, fun _ => rfl, fun i hi => ?_⟩
  have hi2 : i < 1 := hi
  obtain rfl : i = 0 := by omega
  exact ⟨h.cell 0, h.cell 1⟩
set_option maxHeartbeats 1000000 in
theorem first_x (w : World) : Calls Try.prog 53 #[] w fun e w' => ∃ g, e = .returned (.slice (some ⟨g, 0, none⟩) 5 5) ∧ Lies w' g 3 #[.int .i64 1, .int .i64 1, .int .i64 1, .int .i64 1, .int .i64 1] ∧ Below w.heap.size w w' := by
  go_enter Try.func53, Try.ntmps53
  go_wp2
  go_ret
  exact ⟨_, rfl, Lies.made w 3 #[.int .i64 1, .int .i64 1, .int .i64 1, .int .i64 1, .int .i64 1], by (repeat' (first | (with_reducible first | exact Below.refl _ _ | assumption | refine Below.alloc ?_ ?_ _ | refine Below.setCell ?_ ?_ _ | refine below_row ?_ ?_ _ | refine Below.drew ?_ | refine below_drewN ?_ _ | refine Below.trans ?_ (Below.mono (by assumption) ?_)) | exact Nat.le_refl _ | omega | (simp; done) | (simp; omega) | exact Below.size (by assumption)))⟩
theorem own_lit {W : World} {base a : Nat} {x y : Value} (h : Lies W a 52 #[x, y]) (hb : base ≤ a) : W.ownsRow base 52 2 (.slice (some ⟨a, 0, none⟩) 1 1) 1 [x, y] :=
  ⟨rfl, .inr ⟨a, 1, #[x, y], rfl, hb, h, Nat.le_refl _, by decide, rfl, rfl⟩⟩
set_option maxRecDepth 100000 in
set_option maxHeartbeats 16000000 in
theorem examples_body (w : World) : Calls Try.prog 7 #[] w fun e w' => e = .returned (.bool true) ∧ Below w.heap.size w w' := by
  have hb0 : Below w.heap.size w w := Below.refl _ _
  go_enter Try.func7, Try.ntmps7
  go_wp2_with fail
  refine (alive_any _).mono ?_
  rintro e1 w1 ⟨rfl, hb⟩
  have hq1 : Below w.heap.size w w1 := by (repeat' (first | (with_reducible first | exact Below.refl _ _ | assumption | refine Below.alloc ?_ ?_ _ | refine Below.setCell ?_ ?_ _ | refine below_row ?_ ?_ _ | refine Below.drew ?_ | refine below_drewN ?_ _ | refine Below.trans ?_ (Below.mono (by assumption) ?_)) | exact Nat.le_refl _ | omega | (simp; done) | (simp; omega) | exact Below.size (by assumption)))
  have hb1 : Below w.heap.size w w1 := hb0.trans (hq1.mono hb0.size)
  clear hb hq1
  go_wp2_with fail
  refine (register_any _).mono ?_
  rintro e2 w2 ⟨A2, c2, rfl, hr, hcp, hb⟩
  have hq2 : Below w1.heap.size w1 w2 := by (repeat' (first | (with_reducible first | exact Below.refl _ _ | assumption | refine Below.alloc ?_ ?_ _ | refine Below.setCell ?_ ?_ _ | refine below_row ?_ ?_ _ | refine Below.drew ?_ | refine below_drewN ?_ _ | refine Below.trans ?_ (Below.mono (by assumption) ?_)) | exact Nat.le_refl _ | omega | (simp; done) | (simp; omega) | exact Below.size (by assumption)))
  have R_2 := Lib.hid hr
  have hb2 : Below w.heap.size w w2 := hb1.trans (hq2.mono hb1.size)
  clear hr hcp hb hq2
  go_wp2_with fail
  refine (second_any _).mono ?_
  rintro e3 w3 ⟨A3, c3, rfl, hi, hb⟩
  have hq3 : Below w2.heap.size w2 w3 := by (repeat' (first | (with_reducible first | exact Below.refl _ _ | assumption | refine Below.alloc ?_ ?_ _ | refine Below.setCell ?_ ?_ _ | refine below_row ?_ ?_ _ | refine Below.drew ?_ | refine below_drewN ?_ _ | refine Below.trans ?_ (Below.mono (by assumption) ?_)) | exact Nat.le_refl _ | omega | (simp; done) | (simp; omega) | exact Below.size (by assumption)))
  have R_3 := Lib.hid (R_2.out.after hq3)
  clear R_2
  have S_3 := Lib.hid hi
  have hb3 : Below w.heap.size w w3 := hb2.trans (hq3.mono hb2.size)
  clear hi hb hq3
  go_wp2_with fail
  refine (expl_s R_3.out S_3.out (by decide) ex_ask2 ex_expl2).mono ?_
  rintro e4 w4 ⟨A4, c4, rfl, hr, hb⟩
  have hq4 : Below w3.heap.size w3 w4 := by (repeat' (first | (with_reducible first | exact Below.refl _ _ | assumption | refine Below.alloc ?_ ?_ _ | refine Below.setCell ?_ ?_ _ | refine below_row ?_ ?_ _ | refine Below.drew ?_ | refine below_drewN ?_ _ | refine Below.trans ?_ (Below.mono (by assumption) ?_)) | exact Nat.le_refl _ | omega | (simp; done) | (simp; omega) | exact Below.size (by assumption)))
  have R_4 := Lib.hid (R_3.out.after hq4)
  clear R_3
  have S_4 := Lib.hid (S_3.out.after hq4)
  clear S_3
  have EA_4 := Lib.hid hr
  have hb4 : Below w.heap.size w w4 := hb3.trans (hq4.mono hb3.size)
  clear hr hb hq4
  clear R_4
  clear S_4
  go_wp2_with fail
  refine (register_any _).mono ?_
  rintro e5 w5 ⟨A5, c5, rfl, hr, hcp, hb⟩
  have hq5 : Below w4.heap.size w4 w5 := by (repeat' (first | (with_reducible first | exact Below.refl _ _ | assumption | refine Below.alloc ?_ ?_ _ | refine Below.setCell ?_ ?_ _ | refine below_row ?_ ?_ _ | refine Below.drew ?_ | refine below_drewN ?_ _ | refine Below.trans ?_ (Below.mono (by assumption) ?_)) | exact Nat.le_refl _ | omega | (simp; done) | (simp; omega) | exact Below.size (by assumption)))
  have EA_5 := Lib.hid (EA_4.out.after hq5)
  clear EA_4
  have R_5 := Lib.hid hr
  have hb5 : Below w.heap.size w w5 := hb4.trans (hq5.mono hb4.size)
  clear hr hcp hb hq5
  go_wp2_with fail
  refine (depth_x R_5.out ex_depth2).mono ?_
  rintro e6 w6 ⟨rfl, hb⟩
  have hq6 : Below w5.heap.size w5 w6 := by (repeat' (first | (with_reducible first | exact Below.refl _ _ | assumption | refine Below.alloc ?_ ?_ _ | refine Below.setCell ?_ ?_ _ | refine below_row ?_ ?_ _ | refine Below.drew ?_ | refine below_drewN ?_ _ | refine Below.trans ?_ (Below.mono (by assumption) ?_)) | exact Nat.le_refl _ | omega | (simp; done) | (simp; omega) | exact Below.size (by assumption)))
  have EA_6 := Lib.hid (EA_5.out.after hq6)
  clear EA_5
  have R_6 := Lib.hid (R_5.out.after hq6)
  clear R_5
  have hb6 : Below w.heap.size w w6 := hb5.trans (hq6.mono hb5.size)
  clear hb hq6
  clear R_6
  go_wp2_with fail
  refine (register_any _).mono ?_
  rintro e7 w7 ⟨A7, c7, rfl, hr, hcp, hb⟩
  have hq7 : Below w6.heap.size w6 w7 := by (repeat' (first | (with_reducible first | exact Below.refl _ _ | assumption | refine Below.alloc ?_ ?_ _ | refine Below.setCell ?_ ?_ _ | refine below_row ?_ ?_ _ | refine Below.drew ?_ | refine below_drewN ?_ _ | refine Below.trans ?_ (Below.mono (by assumption) ?_)) | exact Nat.le_refl _ | omega | (simp; done) | (simp; omega) | exact Below.size (by assumption)))
  have EA_7 := Lib.hid (EA_6.out.after hq7)
  clear EA_6
  have R_7 := Lib.hid hr
  have hb7 : Below w.heap.size w w7 := hb6.trans (hq7.mono hb6.size)
  clear hr hcp hb hq7
  go_wp2_with fail
  refine (first_any _).mono ?_
  rintro e8 w8 ⟨A8, c8, rfl, hi, hb⟩
  have hq8 : Below w7.heap.size w7 w8 := by (repeat' (first | (with_reducible first | exact Below.refl _ _ | assumption | refine Below.alloc ?_ ?_ _ | refine Below.setCell ?_ ?_ _ | refine below_row ?_ ?_ _ | refine Below.drew ?_ | refine below_drewN ?_ _ | refine Below.trans ?_ (Below.mono (by assumption) ?_)) | exact Nat.le_refl _ | omega | (simp; done) | (simp; omega) | exact Below.size (by assumption)))
  have EA_8 := Lib.hid (EA_7.out.after hq8)
  clear EA_7
  have R_8 := Lib.hid (R_7.out.after hq8)
  clear R_7
  have S_8 := Lib.hid hi
  have hb8 : Below w.heap.size w w8 := hb7.trans (hq8.mono hb7.size)
  clear hi hb hq8
  go_wp2_with fail
  refine (above_s R_8.out S_8.out (by decide) ex_above2).mono ?_
  rintro e9 w9 ⟨A9, c9, rfl, hr, hb⟩
  have hq9 : Below w8.heap.size w8 w9 := by (repeat' (first | (with_reducible first | exact Below.refl _ _ | assumption | refine Below.alloc ?_ ?_ _ | refine Below.setCell ?_ ?_ _ | refine below_row ?_ ?_ _ | refine Below.drew ?_ | refine below_drewN ?_ _ | refine Below.trans ?_ (Below.mono (by assumption) ?_)) | exact Nat.le_refl _ | omega | (simp; done) | (simp; omega) | exact Below.size (by assumption)))
  have EA_9 := Lib.hid (EA_8.out.after hq9)
  clear EA_8
  have R_9 := Lib.hid (R_8.out.after hq9)
  clear R_8
  have S_9 := Lib.hid (S_8.out.after hq9)
  clear S_8
  have hb9 : Below w.heap.size w w9 := hb8.trans (hq9.mono hb8.size)
  clear hr hb hq9
  clear R_9
  clear S_9
  go_wp2_with fail
  refine (register_any _).mono ?_
  rintro e10 w10 ⟨A10, c10, rfl, hr, hcp, hb⟩
  have hq10 : Below w9.heap.size w9 w10 := by (repeat' (first | (with_reducible first | exact Below.refl _ _ | assumption | refine Below.alloc ?_ ?_ _ | refine Below.setCell ?_ ?_ _ | refine below_row ?_ ?_ _ | refine Below.drew ?_ | refine below_drewN ?_ _ | refine Below.trans ?_ (Below.mono (by assumption) ?_)) | exact Nat.le_refl _ | omega | (simp; done) | (simp; omega) | exact Below.size (by assumption)))
  have EA_10 := Lib.hid (EA_9.out.after hq10)
  clear EA_9
  have R_10 := Lib.hid hr
  have hb10 : Below w.heap.size w w10 := hb9.trans (hq10.mono hb9.size)
  clear hr hcp hb hq10
  go_wp2_with fail
  refine (differ_x R_10.out ex_differ2).mono ?_
  rintro e11 w11 ⟨A11, c11, B11, d11, rfl, hi, hb⟩
  have hq11 : Below w10.heap.size w10 w11 := by (repeat' (first | (with_reducible first | exact Below.refl _ _ | assumption | refine Below.alloc ?_ ?_ _ | refine Below.setCell ?_ ?_ _ | refine below_row ?_ ?_ _ | refine Below.drew ?_ | refine below_drewN ?_ _ | refine Below.trans ?_ (Below.mono (by assumption) ?_)) | exact Nat.le_refl _ | omega | (simp; done) | (simp; omega) | exact Below.size (by assumption)))
  have EA_11 := Lib.hid (EA_10.out.after hq11)
  clear EA_10
  have R_11 := Lib.hid (R_10.out.after hq11)
  clear R_10
  have DI_11 := Lib.hid hi
  have hb11 : Below w.heap.size w w11 := hb10.trans (hq11.mono hb10.size)
  clear hi hb hq11
  clear R_11
  go_wp2_with fail
  refine (item_any 30 5 _).mono ?_
  rintro e12 w12 ⟨rfl, hb⟩
  have hq12 : Below w11.heap.size w11 w12 := by (repeat' (first | (with_reducible first | exact Below.refl _ _ | assumption | refine Below.alloc ?_ ?_ _ | refine Below.setCell ?_ ?_ _ | refine below_row ?_ ?_ _ | refine Below.drew ?_ | refine below_drewN ?_ _ | refine Below.trans ?_ (Below.mono (by assumption) ?_)) | exact Nat.le_refl _ | omega | (simp; done) | (simp; omega) | exact Below.size (by assumption)))
  have EA_12 := Lib.hid (EA_11.out.after hq12)
  clear EA_11
  have DI_12 := Lib.hid (DI_11.out.after hq12)
  clear DI_11
  have hb12 : Below w.heap.size w w12 := hb11.trans (hq12.mono hb11.size)
  clear hb hq12
  go_wp2_with fail
  refine (item_any 40 2 _).mono ?_
  rintro e13 w13 ⟨rfl, hb⟩
  have hq13 : Below w12.heap.size w12 w13 := by (repeat' (first | (with_reducible first | exact Below.refl _ _ | assumption | refine Below.alloc ?_ ?_ _ | refine Below.setCell ?_ ?_ _ | refine below_row ?_ ?_ _ | refine Below.drew ?_ | refine below_drewN ?_ _ | refine Below.trans ?_ (Below.mono (by assumption) ?_)) | exact Nat.le_refl _ | omega | (simp; done) | (simp; omega) | exact Below.size (by assumption)))
  have EA_13 := Lib.hid (EA_12.out.after hq13)
  clear EA_12
  have DI_13 := Lib.hid (DI_12.out.after hq13)
  clear DI_12
  have hb13 : Below w.heap.size w w13 := hb12.trans (hq13.mono hb12.size)
  clear hb hq13
  go_wp2_with fail
  refine (item_any 50 1 _).mono ?_
  rintro e14 w14 ⟨rfl, hb⟩
  have hq14 : Below w13.heap.size w13 w14 := by (repeat' (first | (with_reducible first | exact Below.refl _ _ | assumption | refine Below.alloc ?_ ?_ _ | refine Below.setCell ?_ ?_ _ | refine below_row ?_ ?_ _ | refine Below.drew ?_ | refine below_drewN ?_ _ | refine Below.trans ?_ (Below.mono (by assumption) ?_)) | exact Nat.le_refl _ | omega | (simp; done) | (simp; omega) | exact Below.size (by assumption)))
  have EA_14 := Lib.hid (EA_13.out.after hq14)
  clear EA_13
  have DI_14 := Lib.hid (DI_13.out.after hq14)
  clear DI_13
  have hb14 : Below w.heap.size w w14 := hb13.trans (hq14.mono hb13.size)
  clear hb hq14
  go_wp2_with fail
  refine (rSameItems_t (EA_14.out.after ((Below.refl _ w14).alloc (Nat.le_refl _) (.cells #[.int .i64 30, .int .i64 5, .int .i64 40, .int .i64 2, .int .i64 50, .int .i64 1] 52))) (items_lies (c := 3) (l := [(30, 5), (40, 2), (50, 1)]) (Lies.made w14 52 #[.int .i64 30, .int .i64 5, .int .i64 40, .int .i64 2, .int .i64 50, .int .i64 1]) rfl) (by decide)).mono ?_
  rintro e15 w15 ⟨rfl, hb⟩
  have hq15 : Below w14.heap.size w14 w15 := by (repeat' (first | (with_reducible first | exact Below.refl _ _ | assumption | refine Below.alloc ?_ ?_ _ | refine Below.setCell ?_ ?_ _ | refine below_row ?_ ?_ _ | refine Below.drew ?_ | refine below_drewN ?_ _ | refine Below.trans ?_ (Below.mono (by assumption) ?_)) | exact Nat.le_refl _ | omega | (simp; done) | (simp; omega) | exact Below.size (by assumption)))
  have EA_15 := Lib.hid (EA_14.out.after hq15)
  clear EA_14
  have DI_15 := Lib.hid (DI_14.out.after hq15)
  clear DI_14
  have hb15 : Below w.heap.size w w15 := hb14.trans (hq15.mono hb14.size)
  clear hb hq15
  clear EA_15
  go_wp2_with fail
  refine (rSameInts_t (DI_15.out.after ((Below.refl _ w15).alloc (Nat.le_refl _) (.cells #[.int .i64 0] 3))) (ints_lies (c := 1) (l := [0]) (Lies.made w15 3 #[.int .i64 0]) rfl) (by decide)).mono ?_
  rintro e16 w16 ⟨rfl, hb⟩
  have hq16 : Below w15.heap.size w15 w16 := by (repeat' (first | (with_reducible first | exact Below.refl _ _ | assumption | refine Below.alloc ?_ ?_ _ | refine Below.setCell ?_ ?_ _ | refine below_row ?_ ?_ _ | refine Below.drew ?_ | refine below_drewN ?_ _ | refine Below.trans ?_ (Below.mono (by assumption) ?_)) | exact Nat.le_refl _ | omega | (simp; done) | (simp; omega) | exact Below.size (by assumption)))
  have DI_16 := Lib.hid (DI_15.out.after hq16)
  clear DI_15
  have hb16 : Below w.heap.size w w16 := hb15.trans (hq16.mono hb15.size)
  clear hb hq16
  clear DI_16
  go_wp2_with fail
  refine (register_x _).mono ?_
  rintro e17 w17 ⟨g1, a10, a11, a12, a13, a14, rfl, hr, hb⟩
  have hq17 : Below w16.heap.size w16 w17 := by (repeat' (first | (with_reducible first | exact Below.refl _ _ | assumption | refine Below.alloc ?_ ?_ _ | refine Below.setCell ?_ ?_ _ | refine below_row ?_ ?_ _ | refine Below.drew ?_ | refine below_drewN ?_ _ | refine Below.trans ?_ (Below.mono (by assumption) ?_)) | exact Nat.le_refl _ | omega | (simp; done) | (simp; omega) | exact Below.size (by assumption)))
  have X1_17 := Lib.hid hr
  have hb17 : Below w.heap.size w w17 := hb16.trans (hq17.mono hb16.size)
  clear hr hb hq17
  have ng1 := X1_17.out.1.1.lt
  go_wp2_with fail
  refine (register_x _).mono ?_
  rintro e18 w18 ⟨g2, a20, a21, a22, a23, a24, rfl, hr, hb⟩
  have hq18 : Below w17.heap.size w17 w18 := by (repeat' (first | (with_reducible first | exact Below.refl _ _ | assumption | refine Below.alloc ?_ ?_ _ | refine Below.setCell ?_ ?_ _ | refine below_row ?_ ?_ _ | refine Below.drew ?_ | refine below_drewN ?_ _ | refine Below.trans ?_ (Below.mono (by assumption) ?_)) | exact Nat.le_refl _ | omega | (simp; done) | (simp; omega) | exact Below.size (by assumption)))
  have X1_18 := Lib.hid (X1_17.out.after hq18)
  clear X1_17
  have X2_18 := Lib.hid hr
  have hb18 : Below w.heap.size w w18 := hb17.trans (hq18.mono hb17.size)
  clear hr hb hq18
  have ng2 := X2_18.out.1.1.lt
  go_wp2_with fail
  refine (register_x _).mono ?_
  rintro e19 w19 ⟨g3, a30, a31, a32, a33, a34, rfl, hr, hb⟩
  have hq19 : Below w18.heap.size w18 w19 := by (repeat' (first | (with_reducible first | exact Below.refl _ _ | assumption | refine Below.alloc ?_ ?_ _ | refine Below.setCell ?_ ?_ _ | refine below_row ?_ ?_ _ | refine Below.drew ?_ | refine below_drewN ?_ _ | refine Below.trans ?_ (Below.mono (by assumption) ?_)) | exact Nat.le_refl _ | omega | (simp; done) | (simp; omega) | exact Below.size (by assumption)))
  have X1_19 := Lib.hid (X1_18.out.after hq19)
  clear X1_18
  have X2_19 := Lib.hid (X2_18.out.after hq19)
  clear X2_18
  have X3_19 := Lib.hid hr
  have hb19 : Below w.heap.size w w19 := hb18.trans (hq19.mono hb18.size)
  clear hr hb hq19
  have ng3 := X3_19.out.1.1.lt
  go_upto_region 10 with fail
  obtain ⟨wA, hwA⟩ : ∃ W, W = (((w19.alloc (.cells #[.slice (some ⟨g1, 0, none⟩) 7 7] 24)).alloc (.cells #[.slice (some ⟨g2, 0, none⟩) 7 7] 24)).alloc (.cells #[.slice (some ⟨g3, 0, none⟩) 7 7] 24)) := ⟨_, rfl⟩
  have hqA : Below w19.heap.size w19 wA := by rw [hwA]; (repeat' (first | (with_reducible first | exact Below.refl _ _ | assumption | refine Below.alloc ?_ ?_ _ | refine Below.setCell ?_ ?_ _ | refine below_row ?_ ?_ _ | refine Below.drew ?_ | refine below_drewN ?_ _ | refine Below.trans ?_ (Below.mono (by assumption) ?_)) | exact Nat.le_refl _ | omega | (simp; done) | (simp; omega) | exact Below.size (by assumption)))
  have hsA : wA.heap.size = w19.heap.size + 3 := by rw [hwA]; simp
  have FB1 := Lib.hid (show Lies wA w19.heap.size 24 #[.slice (some ⟨g1, 0, none⟩) 7 7] by rw [hwA]; exact ((Lies.made _ _ _).alloc _).alloc _)
  have FB2 := Lib.hid (show Lies wA (w19.heap.size + 1) 24 #[.slice (some ⟨g2, 0, none⟩) 7 7] by rw [hwA]; exact (Lies.new (by simp)).alloc _)
  have FB3 := Lib.hid (show Lies wA (w19.heap.size + 1 + 1) 24 #[.slice (some ⟨g3, 0, none⟩) 7 7] by rw [hwA]; exact Lies.new (by simp))
  have hbwA := hb19.trans (hqA.mono hb19.size)
  rw [← hwA]
  clear hwA
  have F1g := Lib.hid (X1_19.out.1.1.after hqA)
  have F10 := Lib.hid (X1_19.out.1.2.1.after hqA)
  have F11 := Lib.hid (X1_19.out.1.2.2.1.after hqA)
  have F12 := Lib.hid (X1_19.out.1.2.2.2.1.after hqA)
  have F13 := Lib.hid (X1_19.out.1.2.2.2.2.1.after hqA)
  have F14 := Lib.hid (X1_19.out.1.2.2.2.2.2.after hqA)
  obtain ⟨m10, m11, m12, m13, m14, m15⟩ := X1_19.out.2
  clear X1_19
  have F2g := Lib.hid (X2_19.out.1.1.after hqA)
  have F20 := Lib.hid (X2_19.out.1.2.1.after hqA)
  have F21 := Lib.hid (X2_19.out.1.2.2.1.after hqA)
  have F22 := Lib.hid (X2_19.out.1.2.2.2.1.after hqA)
  have F23 := Lib.hid (X2_19.out.1.2.2.2.2.1.after hqA)
  have F24 := Lib.hid (X2_19.out.1.2.2.2.2.2.after hqA)
  obtain ⟨m20, m21, m22, m23, m24, m25⟩ := X2_19.out.2
  clear X2_19
  have F3g := Lib.hid (X3_19.out.1.1.after hqA)
  have F30 := Lib.hid (X3_19.out.1.2.1.after hqA)
  have F31 := Lib.hid (X3_19.out.1.2.2.1.after hqA)
  have F32 := Lib.hid (X3_19.out.1.2.2.2.1.after hqA)
  have F33 := Lib.hid (X3_19.out.1.2.2.2.2.1.after hqA)
  have F34 := Lib.hid (X3_19.out.1.2.2.2.2.2.after hqA)
  obtain ⟨m30, m31, m32, m33, m34, m35⟩ := X3_19.out.2
  clear X3_19
  obtain ⟨i0, hi0, hz0, hz1, hz2⟩ := info_parts infoI
  have xA := FB1.out.cell 0
  have yA : wA.cell? ⟨g1, 13, none⟩ = some (.slice (some ⟨a12, 0, none⟩) 2 2) := F1g.out.cell 13
  go_cut [] (fun wx => ∃ (w3 : World) (A : Option Addr) (c : Nat), wx = w3.setCell ⟨g1, 13, none⟩ (.slice A 3 c) ∧ Hid (w3.ownsRow wA.heap.size 52 2 (.slice A 3 c) 3 [.int .i64 10, .int .i64 1, .int .i64 30, .int .i64 3, .int .i64 50, .int .i64 1]) ∧ Below wA.heap.size wA w3)
  case first =>
    refine wp_region_held_drew (S := fun W => W.cell? ⟨w19.heap.size, 0, none⟩ = some (.slice (some ⟨g1, 0, none⟩) 7 7)) (by kernel_rfl) xA (fun hHeld => ?_)
    have hv0q : Below wA.heap.size wA wA.drew := (Below.refl _ _).drew
    have x0q : wA.drew.cell? ⟨w19.heap.size, 0, none⟩ = some (.slice (some ⟨g1, 0, none⟩) 7 7) := xA
    have y0q : wA.drew.cell? ⟨g1, 13, none⟩ = some (.slice (some ⟨a12, 0, none⟩) 2 2) := yA
    generalize hwd : wA.drew = w0q at *
    refine take_at (i := 0) (v := ?_) rfl (by kernel_rfl) (by kernel_rfl) (by kernel_rfl) (fun _ _ _ h => h) (Or.inl ⟨by rfl, ?_⟩) (by assumption) ?_
    rotate_left
    · (intro w hSw; (try dsimp only at hSw); go_simp; (try with_reducible rfl))
    try simp only [Act.put, List.setIfInBounds_toArray, List.set_cons_zero, List.set_cons_succ]
    refine take_at (i := 1) (v := ?_) rfl (by kernel_rfl) (by kernel_rfl) (by kernel_rfl) (fun _ _ _ h => h) (Or.inl ⟨by rfl, ?_⟩) (by assumption) ?_
    rotate_left
    · (intro w hSw; (try dsimp only at hSw); go_simp; (try with_reducible rfl))
    try simp only [Act.put, List.setIfInBounds_toArray, List.set_cons_zero, List.set_cons_succ]
    refine take_at (i := 4) (v := ?_) rfl (by kernel_rfl) (by kernel_rfl) (by kernel_rfl) (fun _ _ _ h => h) (Or.inl ⟨by rfl, ?_⟩) (by assumption) ?_
    rotate_left
    · (intro w hSw; (try dsimp only at hSw); go_simp; (try with_reducible rfl))
    try simp only [Act.put, List.setIfInBounds_toArray, List.set_cons_zero, List.set_cons_succ]
    refine take_at (i := 5) (v := ?_) rfl (by kernel_rfl) (by kernel_rfl) (by kernel_rfl) (fun _ _ _ h => h) (Or.inl ⟨by rfl, ?_⟩) (by assumption) ?_
    rotate_left
    · (intro w hSw; (try dsimp only at hSw); go_simp; (try with_reducible rfl))
    try simp only [Act.put, List.setIfInBounds_toArray, List.set_cons_zero, List.set_cons_succ]
    refine take_at (i := 6) (v := ?_) rfl (by kernel_rfl) (by kernel_rfl) (by kernel_rfl) (fun _ _ _ h => h) (Or.inl ⟨by rfl, ?_⟩) (by assumption) ?_
    rotate_left
    · (intro w hSw; (try dsimp only at hSw); go_simp; (try with_reducible rfl))
    try simp only [Act.put, List.setIfInBounds_toArray, List.set_cons_zero, List.set_cons_succ]
    refine take_at (i := 7) (v := ?_) rfl (by kernel_rfl) (by kernel_rfl) (by kernel_rfl) (fun _ _ _ h => h) (Or.inl ⟨by rfl, ?_⟩) (by assumption) ?_
    rotate_left
    · (intro w hSw; (try dsimp only at hSw); go_simp; (try with_reducible rfl))
    try simp only [Act.put, List.setIfInBounds_toArray, List.set_cons_zero, List.set_cons_succ]
    refine wpAnyH_ready (rs := [2, 8]) (by kernel_rfl) (by simp) ?_
    refine cons_at rfl (fun K hK => ?_) (cons_at rfl (fun K hK => ?_) AllReadyH.nil)
    · (first | (go_at_call 54; refine (item_any 10 1 _).mono ?_; rintro e1q w1q ⟨rfl, gb⟩) | (go_simp; go_at_call 54; refine (item_any 10 1 _).mono ?_; rintro e1q w1q ⟨rfl, gb⟩))
      have hv1q : Below wA.heap.size wA w1q := hv0q.trans (gb.mono hv0q.size)
      have x1q := cell_keep gb x0q
      have y1q := cell_keep gb y0q
      refine hK.out _ _ ?_ (fun hHeld => ?_)
      · exact x1q
      clear hK K gb
      try simp only [Act.put, List.setIfInBounds_toArray, List.set_cons_zero, List.set_cons_succ]
      refine wpAnyH_ready (rs := [3, 8]) (by kernel_rfl) (by simp) ?_
      refine cons_at rfl (fun K hK => ?_) (cons_at rfl (fun K hK => ?_) AllReadyH.nil)
      · go_simp
        refine hK.out _ _ ?_ (fun hHeld => ?_)
        · exact keep_nw x1q
        clear hK K
        try simp only [Act.put, List.setIfInBounds_toArray, List.set_cons_zero, List.set_cons_succ]
        have x2q := keep_nw (o := .cells #[.int .i64 10, .int .i64 1] 52) x1q
        have y2q := keep_nw (o := .cells #[.int .i64 10, .int .i64 1] 52) y1q
        have hs2q := hv1q.size
        have hv2q : Below wA.heap.size wA (w1q.alloc (.cells #[.int .i64 10, .int .i64 1] 52)) := hv1q.alloc hs2q _
        have LR := Lies.made w1q 52 #[.int .i64 10, .int .i64 1]
        generalize hw2q : (w1q.alloc (.cells #[.int .i64 10, .int .i64 1] 52)) = w2q at *
        refine wpAnyH_ready (rs := [8]) (by kernel_rfl) (by simp) ?_
        refine cons_at rfl (fun K hK => ?_) AllReadyH.nil
        go_simp
        refine hK.out _ _ ?_ (fun hHeld => ?_)
        · exact x2q
        clear hK K
        try simp only [Act.put, List.setIfInBounds_toArray, List.set_cons_zero, List.set_cons_succ]
        refine wpAnyH_ready (rs := [9]) (by kernel_rfl) (by simp) ?_
        refine cons_at rfl (fun K hK => ?_) AllReadyH.nil
        refine step_row2 (o := ⟨some 112, _, _, _, _, _⟩) (by rfl) (.tmp 106) (.tmp 111) 42 (by rfl) wA.heap.size 52 i0 (.agg #[.int .i64 0, .int .i64 0]) 2 16 Try.underlying42 hi0 hz0 hz1 hz2 rfl (by decide) (.slice (some ⟨w1q.heap.size, 0, none⟩) 1 1) 1 [.int .i64 10, .int .i64 1] (by rfl) (own_lit LR hs2q) (some ⟨a12, 0, none⟩) 2 2 [.int .i64 30, .int .i64 3, .int .i64 50, .int .i64 1] (by rfl) (fun h => by cases h) (by rfl) (fun ad had => by injection had with had; subst had; exact World.news_of_block (F12.out.after hv2q)) (by simp [Value.oneCell']) (by decide) (by decide) hv2q.size ?_
        intro v3 w3 ho3 hap3 hbl3 hgr3
        have hb3 : Below wA.heap.size wA w3 := hbl3 wA hv2q (Nat.le_refl _)
        have f3 := (F1g.out.after hb3).free 13
        have p3 : w3.cell? ⟨g1, 13, none⟩ = some (.slice (some ⟨a12, 0, none⟩) 2 2) := (F1g.out.after hb3).cell 13
        have x3 : w3.cell? ⟨w19.heap.size, 0, none⟩ = some (.slice (some ⟨g1, 0, none⟩) 7 7) := (FB1.out.after hb3).cell 0
        have HO3 := Lib.hid ho3
        obtain ⟨A31, c31, g31, rfl, -⟩ := own_form ho3
        clear ho3 hap3 hbl3 hgr3
        refine hK.out _ _ ?_ (fun hHeld => ?_)
        · exact x3
        clear hK K
        try simp only [Act.put, List.setIfInBounds_toArray, List.set_cons_zero, List.set_cons_succ]
        refine take_at (i := 10) (v := ?_) rfl (by kernel_rfl) (by kernel_rfl) (by kernel_rfl) (fun _ _ _ h => h) (Or.inl ⟨by rfl, ?_⟩) (by assumption) ?_
        rotate_left
        · (intro w hSw; (try dsimp only at hSw); go_simp; (try with_reducible rfl))
        try simp only [Act.put, List.setIfInBounds_toArray, List.set_cons_zero, List.set_cons_succ]
        refine take_at (i := 11) (v := ?_) rfl (by kernel_rfl) (by kernel_rfl) (by kernel_rfl) (fun _ _ _ h => h) (Or.inl ⟨by rfl, ?_⟩) (by assumption) ?_
        rotate_left
        · (intro w hSw; (try dsimp only at hSw); go_simp; (try with_reducible rfl))
        try simp only [Act.put, List.setIfInBounds_toArray, List.set_cons_zero, List.set_cons_succ]
        refine wpAnyH_ready (rs := [12]) (by kernel_rfl) (by simp) ?_
        refine cons_at rfl (fun K hK => ?_) AllReadyH.nil
        go_simp
        refine hK.out _ _ ?_ (fun hHeld => ?_)
        · exact ((FB1.out.after hb3).other (p := ⟨g1, 13, none⟩) (by simp only; omega) _).cell 0
        clear hK K
        try simp only [Act.put, List.setIfInBounds_toArray, List.set_cons_zero, List.set_cons_succ]
        refine wpAnyH_done (by kernel_rfl) ?_ _
        go_wp2_with fail
        go_meet
        exact ⟨_, A31, c31, rfl, HO3, hb3⟩
      · go_simp
        refine hK.out _ _ ?_ (fun hHeld => ?_)
        · exact x1q
        clear hK K
        try simp only [Act.put, List.setIfInBounds_toArray, List.set_cons_zero, List.set_cons_succ]
        refine wpAnyH_ready (rs := [3]) (by kernel_rfl) (by simp) ?_
        refine cons_at rfl (fun K hK => ?_) AllReadyH.nil
        go_simp
        refine hK.out _ _ ?_ (fun hHeld => ?_)
        · exact keep_nw x1q
        clear hK K
        try simp only [Act.put, List.setIfInBounds_toArray, List.set_cons_zero, List.set_cons_succ]
        have x7q := keep_nw (o := .cells #[.int .i64 10, .int .i64 1] 52) x1q
        have y7q := keep_nw (o := .cells #[.int .i64 10, .int .i64 1] 52) y1q
        have hs7q := hv1q.size
        have hv7q : Below wA.heap.size wA (w1q.alloc (.cells #[.int .i64 10, .int .i64 1] 52)) := hv1q.alloc hs7q _
        have LR := Lies.made w1q 52 #[.int .i64 10, .int .i64 1]
        generalize hw7q : (w1q.alloc (.cells #[.int .i64 10, .int .i64 1] 52)) = w7q at *
        refine wpAnyH_ready (rs := [9]) (by kernel_rfl) (by simp) ?_
        refine cons_at rfl (fun K hK => ?_) AllReadyH.nil
        refine step_row2 (o := ⟨some 112, _, _, _, _, _⟩) (by rfl) (.tmp 106) (.tmp 111) 42 (by rfl) wA.heap.size 52 i0 (.agg #[.int .i64 0, .int .i64 0]) 2 16 Try.underlying42 hi0 hz0 hz1 hz2 rfl (by decide) (.slice (some ⟨w1q.heap.size, 0, none⟩) 1 1) 1 [.int .i64 10, .int .i64 1] (by rfl) (own_lit LR hs7q) (some ⟨a12, 0, none⟩) 2 2 [.int .i64 30, .int .i64 3, .int .i64 50, .int .i64 1] (by rfl) (fun h => by cases h) (by rfl) (fun ad had => by injection had with had; subst had; exact World.news_of_block (F12.out.after hv7q)) (by simp [Value.oneCell']) (by decide) (by decide) hv7q.size ?_
        intro v3 w3 ho3 hap3 hbl3 hgr3
        have hb3 : Below wA.heap.size wA w3 := hbl3 wA hv7q (Nat.le_refl _)
        have f3 := (F1g.out.after hb3).free 13
        have p3 : w3.cell? ⟨g1, 13, none⟩ = some (.slice (some ⟨a12, 0, none⟩) 2 2) := (F1g.out.after hb3).cell 13
        have x3 : w3.cell? ⟨w19.heap.size, 0, none⟩ = some (.slice (some ⟨g1, 0, none⟩) 7 7) := (FB1.out.after hb3).cell 0
        have HO3 := Lib.hid ho3
        obtain ⟨A31, c31, g31, rfl, -⟩ := own_form ho3
        clear ho3 hap3 hbl3 hgr3
        refine hK.out _ _ ?_ (fun hHeld => ?_)
        · exact x3
        clear hK K
        try simp only [Act.put, List.setIfInBounds_toArray, List.set_cons_zero, List.set_cons_succ]
        refine take_at (i := 10) (v := ?_) rfl (by kernel_rfl) (by kernel_rfl) (by kernel_rfl) (fun _ _ _ h => h) (Or.inl ⟨by rfl, ?_⟩) (by assumption) ?_
        rotate_left
        · (intro w hSw; (try dsimp only at hSw); go_simp; (try with_reducible rfl))
        try simp only [Act.put, List.setIfInBounds_toArray, List.set_cons_zero, List.set_cons_succ]
        refine take_at (i := 11) (v := ?_) rfl (by kernel_rfl) (by kernel_rfl) (by kernel_rfl) (fun _ _ _ h => h) (Or.inl ⟨by rfl, ?_⟩) (by assumption) ?_
        rotate_left
        · (intro w hSw; (try dsimp only at hSw); go_simp; (try with_reducible rfl))
        try simp only [Act.put, List.setIfInBounds_toArray, List.set_cons_zero, List.set_cons_succ]
        refine wpAnyH_ready (rs := [12]) (by kernel_rfl) (by simp) ?_
        refine cons_at rfl (fun K hK => ?_) AllReadyH.nil
        go_simp
        refine hK.out _ _ ?_ (fun hHeld => ?_)
        · exact ((FB1.out.after hb3).other (p := ⟨g1, 13, none⟩) (by simp only; omega) _).cell 0
        clear hK K
        try simp only [Act.put, List.setIfInBounds_toArray, List.set_cons_zero, List.set_cons_succ]
        refine wpAnyH_done (by kernel_rfl) ?_ _
        go_wp2_with fail
        go_meet
        exact ⟨_, A31, c31, rfl, HO3, hb3⟩
    · go_simp
      refine hK.out _ _ ?_ (fun hHeld => ?_)
      · exact x0q
      clear hK K
      try simp only [Act.put, List.setIfInBounds_toArray, List.set_cons_zero, List.set_cons_succ]
      refine wpAnyH_ready (rs := [2]) (by kernel_rfl) (by simp) ?_
      refine cons_at rfl (fun K hK => ?_) AllReadyH.nil
      (first | (go_at_call 54; refine (item_any 10 1 _).mono ?_; rintro e11q w11q ⟨rfl, gb⟩) | (go_simp; go_at_call 54; refine (item_any 10 1 _).mono ?_; rintro e11q w11q ⟨rfl, gb⟩))
      have hv11q : Below wA.heap.size wA w11q := hv0q.trans (gb.mono hv0q.size)
      have x11q := cell_keep gb x0q
      have y11q := cell_keep gb y0q
      refine hK.out _ _ ?_ (fun hHeld => ?_)
      · exact x11q
      clear hK K gb
      try simp only [Act.put, List.setIfInBounds_toArray, List.set_cons_zero, List.set_cons_succ]
      refine wpAnyH_ready (rs := [3]) (by kernel_rfl) (by simp) ?_
      refine cons_at rfl (fun K hK => ?_) AllReadyH.nil
      go_simp
      refine hK.out _ _ ?_ (fun hHeld => ?_)
      · exact keep_nw x11q
      clear hK K
      try simp only [Act.put, List.setIfInBounds_toArray, List.set_cons_zero, List.set_cons_succ]
      have x12q := keep_nw (o := .cells #[.int .i64 10, .int .i64 1] 52) x11q
      have y12q := keep_nw (o := .cells #[.int .i64 10, .int .i64 1] 52) y11q
      have hs12q := hv11q.size
      have hv12q : Below wA.heap.size wA (w11q.alloc (.cells #[.int .i64 10, .int .i64 1] 52)) := hv11q.alloc hs12q _
      have LR := Lies.made w11q 52 #[.int .i64 10, .int .i64 1]
      generalize hw12q : (w11q.alloc (.cells #[.int .i64 10, .int .i64 1] 52)) = w12q at *
      refine wpAnyH_ready (rs := [9]) (by kernel_rfl) (by simp) ?_
      refine cons_at rfl (fun K hK => ?_) AllReadyH.nil
      refine step_row2 (o := ⟨some 112, _, _, _, _, _⟩) (by rfl) (.tmp 106) (.tmp 111) 42 (by rfl) wA.heap.size 52 i0 (.agg #[.int .i64 0, .int .i64 0]) 2 16 Try.underlying42 hi0 hz0 hz1 hz2 rfl (by decide) (.slice (some ⟨w11q.heap.size, 0, none⟩) 1 1) 1 [.int .i64 10, .int .i64 1] (by rfl) (own_lit LR hs12q) (some ⟨a12, 0, none⟩) 2 2 [.int .i64 30, .int .i64 3, .int .i64 50, .int .i64 1] (by rfl) (fun h => by cases h) (by rfl) (fun ad had => by injection had with had; subst had; exact World.news_of_block (F12.out.after hv12q)) (by simp [Value.oneCell']) (by decide) (by decide) hv12q.size ?_
      intro v3 w3 ho3 hap3 hbl3 hgr3
      have hb3 : Below wA.heap.size wA w3 := hbl3 wA hv12q (Nat.le_refl _)
      have f3 := (F1g.out.after hb3).free 13
      have p3 : w3.cell? ⟨g1, 13, none⟩ = some (.slice (some ⟨a12, 0, none⟩) 2 2) := (F1g.out.after hb3).cell 13
      have x3 : w3.cell? ⟨w19.heap.size, 0, none⟩ = some (.slice (some ⟨g1, 0, none⟩) 7 7) := (FB1.out.after hb3).cell 0
      have HO3 := Lib.hid ho3
      obtain ⟨A31, c31, g31, rfl, -⟩ := own_form ho3
      clear ho3 hap3 hbl3 hgr3
      refine hK.out _ _ ?_ (fun hHeld => ?_)
      · exact x3
      clear hK K
      try simp only [Act.put, List.setIfInBounds_toArray, List.set_cons_zero, List.set_cons_succ]
      refine take_at (i := 10) (v := ?_) rfl (by kernel_rfl) (by kernel_rfl) (by kernel_rfl) (fun _ _ _ h => h) (Or.inl ⟨by rfl, ?_⟩) (by assumption) ?_
      rotate_left
      · (intro w hSw; (try dsimp only at hSw); go_simp; (try with_reducible rfl))
      try simp only [Act.put, List.setIfInBounds_toArray, List.set_cons_zero, List.set_cons_succ]
      refine take_at (i := 11) (v := ?_) rfl (by kernel_rfl) (by kernel_rfl) (by kernel_rfl) (fun _ _ _ h => h) (Or.inl ⟨by rfl, ?_⟩) (by assumption) ?_
      rotate_left
      · (intro w hSw; (try dsimp only at hSw); go_simp; (try with_reducible rfl))
      try simp only [Act.put, List.setIfInBounds_toArray, List.set_cons_zero, List.set_cons_succ]
      refine wpAnyH_ready (rs := [12]) (by kernel_rfl) (by simp) ?_
      refine cons_at rfl (fun K hK => ?_) AllReadyH.nil
      go_simp
      refine hK.out _ _ ?_ (fun hHeld => ?_)
      · exact ((FB1.out.after hb3).other (p := ⟨g1, 13, none⟩) (by simp only; omega) _).cell 0
      clear hK K
      try simp only [Act.put, List.setIfInBounds_toArray, List.set_cons_zero, List.set_cons_succ]
      refine wpAnyH_done (by kernel_rfl) ?_ _
      go_wp2_with fail
      go_meet
      exact ⟨_, A31, c31, rfl, HO3, hb3⟩
  case rest =>
    obtain ⟨w3, A3, c3, rfl, HO3, hb3⟩ := hcut
    clear xA yA
    have hs16 := hb16.size
    have FB1 := Lib.hid ((FB1.out.after hb3).other (p := ⟨g1, 13, none⟩) (by simp only; omega) (.slice A3 3 c3))
    have FB2 := Lib.hid ((FB2.out.after hb3).other (p := ⟨g1, 13, none⟩) (by simp only; omega) (.slice A3 3 c3))
    have FB3 := Lib.hid ((FB3.out.after hb3).other (p := ⟨g1, 13, none⟩) (by simp only; omega) (.slice A3 3 c3))
    have F1g := Lib.hid (show Lies (w3.setCell ⟨g1, 13, none⟩ (.slice A3 3 c3)) g1 45 (LBX (.slice A3 3 c3) (.slice none 0 0) a10 a11 a13 a14) from (F1g.out.after hb3).store 13 (.slice A3 3 c3))
    have F10 := Lib.hid ((F10.out.after hb3).other (p := ⟨g1, 13, none⟩) (by simp only; omega) (.slice A3 3 c3))
    have F11 := Lib.hid ((F11.out.after hb3).other (p := ⟨g1, 13, none⟩) (by simp only; omega) (.slice A3 3 c3))
    have F12 := Lib.hid ((F12.out.after hb3).other (p := ⟨g1, 13, none⟩) (by simp only; omega) (.slice A3 3 c3))
    have F13 := Lib.hid ((F13.out.after hb3).other (p := ⟨g1, 13, none⟩) (by simp only; omega) (.slice A3 3 c3))
    have F14 := Lib.hid ((F14.out.after hb3).other (p := ⟨g1, 13, none⟩) (by simp only; omega) (.slice A3 3 c3))
    have F2g := Lib.hid ((F2g.out.after hb3).other (p := ⟨g1, 13, none⟩) (by simp only; omega) (.slice A3 3 c3))
    have F20 := Lib.hid ((F20.out.after hb3).other (p := ⟨g1, 13, none⟩) (by simp only; omega) (.slice A3 3 c3))
    have F21 := Lib.hid ((F21.out.after hb3).other (p := ⟨g1, 13, none⟩) (by simp only; omega) (.slice A3 3 c3))
    have F22 := Lib.hid ((F22.out.after hb3).other (p := ⟨g1, 13, none⟩) (by simp only; omega) (.slice A3 3 c3))
    have F23 := Lib.hid ((F23.out.after hb3).other (p := ⟨g1, 13, none⟩) (by simp only; omega) (.slice A3 3 c3))
    have F24 := Lib.hid ((F24.out.after hb3).other (p := ⟨g1, 13, none⟩) (by simp only; omega) (.slice A3 3 c3))
    have F3g := Lib.hid ((F3g.out.after hb3).other (p := ⟨g1, 13, none⟩) (by simp only; omega) (.slice A3 3 c3))
    have F30 := Lib.hid ((F30.out.after hb3).other (p := ⟨g1, 13, none⟩) (by simp only; omega) (.slice A3 3 c3))
    have F31 := Lib.hid ((F31.out.after hb3).other (p := ⟨g1, 13, none⟩) (by simp only; omega) (.slice A3 3 c3))
    have F32 := Lib.hid ((F32.out.after hb3).other (p := ⟨g1, 13, none⟩) (by simp only; omega) (.slice A3 3 c3))
    have F33 := Lib.hid ((F33.out.after hb3).other (p := ⟨g1, 13, none⟩) (by simp only; omega) (.slice A3 3 c3))
    have F34 := Lib.hid ((F34.out.after hb3).other (p := ⟨g1, 13, none⟩) (by simp only; omega) (.slice A3 3 c3))
    have HOB := Lib.hid (own_low (i := 13) HO3.out (show g1 < wA.heap.size by omega) (.slice A3 3 c3))
    have hbwB := (hbwA.trans (hb3.mono hbwA.size)).setCell (p := ⟨g1, 13, none⟩) (by simp only; omega) (.slice A3 3 c3)
    clear HO3
    generalize w3.setCell ⟨g1, 13, none⟩ (.slice A3 3 c3) = wB at *
    have x2 : wB.cell? ⟨w19.heap.size + 1, 0, none⟩ = some (.slice (some ⟨g2, 0, none⟩) 7 7) := FB2.out.cell 0
    have y2 : wB.cell? ⟨g2, 13, none⟩ = some (.slice (some ⟨a22, 0, none⟩) 2 2) := F2g.out.cell 13
    have q2 : wB.cell? ⟨a22, 2, none⟩ = some (.int .i64 50) := F22.out.cell 2
    have f2 := F22.out.free 2
    have z2 := F22.out.lt
    go_upto_region 12 with fail
    clear x2 y2 q2 f2 z2
    have FB1 := Lib.hid ((FB1.out).other (p := ⟨a22, 2, none⟩) (by simp only; omega) (.int .i64 60))
    have FB2 := Lib.hid ((FB2.out).other (p := ⟨a22, 2, none⟩) (by simp only; omega) (.int .i64 60))
    have FB3 := Lib.hid ((FB3.out).other (p := ⟨a22, 2, none⟩) (by simp only; omega) (.int .i64 60))
    have F1g := Lib.hid ((F1g.out).other (p := ⟨a22, 2, none⟩) (by simp only; omega) (.int .i64 60))
    have F10 := Lib.hid ((F10.out).other (p := ⟨a22, 2, none⟩) (by simp only; omega) (.int .i64 60))
    have F11 := Lib.hid ((F11.out).other (p := ⟨a22, 2, none⟩) (by simp only; omega) (.int .i64 60))
    have F12 := Lib.hid ((F12.out).other (p := ⟨a22, 2, none⟩) (by simp only; omega) (.int .i64 60))
    have F13 := Lib.hid ((F13.out).other (p := ⟨a22, 2, none⟩) (by simp only; omega) (.int .i64 60))
    have F14 := Lib.hid ((F14.out).other (p := ⟨a22, 2, none⟩) (by simp only; omega) (.int .i64 60))
    have F2g := Lib.hid ((F2g.out).other (p := ⟨a22, 2, none⟩) (by simp only; omega) (.int .i64 60))
    have F20 := Lib.hid ((F20.out).other (p := ⟨a22, 2, none⟩) (by simp only; omega) (.int .i64 60))
    have F21 := Lib.hid ((F21.out).other (p := ⟨a22, 2, none⟩) (by simp only; omega) (.int .i64 60))
    have F22 := Lib.hid (show Lies (wB.setCell ⟨a22, 2, none⟩ (.int .i64 60)) a22 52 #[.int .i64 30, .int .i64 3, .int .i64 60, .int .i64 1] from (F22.out).store 2 (.int .i64 60))
    have F23 := Lib.hid ((F23.out).other (p := ⟨a22, 2, none⟩) (by simp only; omega) (.int .i64 60))
    have F24 := Lib.hid ((F24.out).other (p := ⟨a22, 2, none⟩) (by simp only; omega) (.int .i64 60))
    have F3g := Lib.hid ((F3g.out).other (p := ⟨a22, 2, none⟩) (by simp only; omega) (.int .i64 60))
    have F30 := Lib.hid ((F30.out).other (p := ⟨a22, 2, none⟩) (by simp only; omega) (.int .i64 60))
    have F31 := Lib.hid ((F31.out).other (p := ⟨a22, 2, none⟩) (by simp only; omega) (.int .i64 60))
    have F32 := Lib.hid ((F32.out).other (p := ⟨a22, 2, none⟩) (by simp only; omega) (.int .i64 60))
    have F33 := Lib.hid ((F33.out).other (p := ⟨a22, 2, none⟩) (by simp only; omega) (.int .i64 60))
    have F34 := Lib.hid ((F34.out).other (p := ⟨a22, 2, none⟩) (by simp only; omega) (.int .i64 60))
    have HOC := Lib.hid (own_low (i := 2) HOB.out (show a22 < wA.heap.size by omega) (.int .i64 60))
    have hbwC := hbwB.setCell (p := ⟨a22, 2, none⟩) (by simp only; omega) (.int .i64 60)
    clear HOB
    generalize wB.setCell ⟨a22, 2, none⟩ (.int .i64 60) = wC at *
    have x3 : wC.cell? ⟨w19.heap.size + 1 + 1, 0, none⟩ = some (.slice (some ⟨g3, 0, none⟩) 7 7) := FB3.out.cell 0
    have y3 : wC.cell? ⟨g3, 34, none⟩ = some (.slice none 0 0) := F3g.out.cell 34
    have f3 := F3g.out.free 34
    have x3a := keep_nw (o := .cells #[.int .i64 150, .int .i64 100, .int .i64 200] 54) x3
    have y3a := keep_nw (o := .cells #[.int .i64 150, .int .i64 100, .int .i64 200] 54) y3
    have f3a := (F3g.out.alloc (.cells #[.int .i64 150, .int .i64 100, .int .i64 200] 54)).free 34
    have z3 := F3g.out.lt
    go_upto_region 13 with fail
    clear x3 y3 f3 x3a y3a f3a
    have FD := Lib.hid (show Lies ((wC.setCell ⟨g3, 34, none⟩ (.slice (some ⟨wC.heap.size, 0, none⟩) 1 1)).alloc (.cells #[.int .i64 150, .int .i64 100, .int .i64 200] 54)) wC.heap.size 54 #[.int .i64 150, .int .i64 100, .int .i64 200] from Lies.new (by simp))
    have hsC := hbwC.size
    have FB1 := Lib.hid ((FB1.out.other (p := ⟨g3, 34, none⟩) (by simp only; omega) (.slice (some ⟨wC.heap.size, 0, none⟩) 1 1)).alloc (.cells #[.int .i64 150, .int .i64 100, .int .i64 200] 54))
    have FB2 := Lib.hid ((FB2.out.other (p := ⟨g3, 34, none⟩) (by simp only; omega) (.slice (some ⟨wC.heap.size, 0, none⟩) 1 1)).alloc (.cells #[.int .i64 150, .int .i64 100, .int .i64 200] 54))
    have FB3 := Lib.hid ((FB3.out.other (p := ⟨g3, 34, none⟩) (by simp only; omega) (.slice (some ⟨wC.heap.size, 0, none⟩) 1 1)).alloc (.cells #[.int .i64 150, .int .i64 100, .int .i64 200] 54))
    have F1g := Lib.hid ((F1g.out.other (p := ⟨g3, 34, none⟩) (by simp only; omega) (.slice (some ⟨wC.heap.size, 0, none⟩) 1 1)).alloc (.cells #[.int .i64 150, .int .i64 100, .int .i64 200] 54))
    have F10 := Lib.hid ((F10.out.other (p := ⟨g3, 34, none⟩) (by simp only; omega) (.slice (some ⟨wC.heap.size, 0, none⟩) 1 1)).alloc (.cells #[.int .i64 150, .int .i64 100, .int .i64 200] 54))
    have F11 := Lib.hid ((F11.out.other (p := ⟨g3, 34, none⟩) (by simp only; omega) (.slice (some ⟨wC.heap.size, 0, none⟩) 1 1)).alloc (.cells #[.int .i64 150, .int .i64 100, .int .i64 200] 54))
    have F12 := Lib.hid ((F12.out.other (p := ⟨g3, 34, none⟩) (by simp only; omega) (.slice (some ⟨wC.heap.size, 0, none⟩) 1 1)).alloc (.cells #[.int .i64 150, .int .i64 100, .int .i64 200] 54))
    have F13 := Lib.hid ((F13.out.other (p := ⟨g3, 34, none⟩) (by simp only; omega) (.slice (some ⟨wC.heap.size, 0, none⟩) 1 1)).alloc (.cells #[.int .i64 150, .int .i64 100, .int .i64 200] 54))
    have F14 := Lib.hid ((F14.out.other (p := ⟨g3, 34, none⟩) (by simp only; omega) (.slice (some ⟨wC.heap.size, 0, none⟩) 1 1)).alloc (.cells #[.int .i64 150, .int .i64 100, .int .i64 200] 54))
    have F2g := Lib.hid ((F2g.out.other (p := ⟨g3, 34, none⟩) (by simp only; omega) (.slice (some ⟨wC.heap.size, 0, none⟩) 1 1)).alloc (.cells #[.int .i64 150, .int .i64 100, .int .i64 200] 54))
    have F20 := Lib.hid ((F20.out.other (p := ⟨g3, 34, none⟩) (by simp only; omega) (.slice (some ⟨wC.heap.size, 0, none⟩) 1 1)).alloc (.cells #[.int .i64 150, .int .i64 100, .int .i64 200] 54))
    have F21 := Lib.hid ((F21.out.other (p := ⟨g3, 34, none⟩) (by simp only; omega) (.slice (some ⟨wC.heap.size, 0, none⟩) 1 1)).alloc (.cells #[.int .i64 150, .int .i64 100, .int .i64 200] 54))
    have F22 := Lib.hid ((F22.out.other (p := ⟨g3, 34, none⟩) (by simp only; omega) (.slice (some ⟨wC.heap.size, 0, none⟩) 1 1)).alloc (.cells #[.int .i64 150, .int .i64 100, .int .i64 200] 54))
    have F23 := Lib.hid ((F23.out.other (p := ⟨g3, 34, none⟩) (by simp only; omega) (.slice (some ⟨wC.heap.size, 0, none⟩) 1 1)).alloc (.cells #[.int .i64 150, .int .i64 100, .int .i64 200] 54))
    have F24 := Lib.hid ((F24.out.other (p := ⟨g3, 34, none⟩) (by simp only; omega) (.slice (some ⟨wC.heap.size, 0, none⟩) 1 1)).alloc (.cells #[.int .i64 150, .int .i64 100, .int .i64 200] 54))
    have F3g := Lib.hid (show Lies ((wC.setCell ⟨g3, 34, none⟩ (.slice (some ⟨wC.heap.size, 0, none⟩) 1 1)).alloc (.cells #[.int .i64 150, .int .i64 100, .int .i64 200] 54)) g3 45 (LBX (.slice (some ⟨a32, 0, none⟩) 2 2) (.slice (some ⟨wC.heap.size, 0, none⟩) 1 1) a30 a31 a33 a34) from (F3g.out.store 34 (.slice (some ⟨wC.heap.size, 0, none⟩) 1 1)).alloc _)
    have F30 := Lib.hid ((F30.out.other (p := ⟨g3, 34, none⟩) (by simp only; omega) (.slice (some ⟨wC.heap.size, 0, none⟩) 1 1)).alloc (.cells #[.int .i64 150, .int .i64 100, .int .i64 200] 54))
    have F31 := Lib.hid ((F31.out.other (p := ⟨g3, 34, none⟩) (by simp only; omega) (.slice (some ⟨wC.heap.size, 0, none⟩) 1 1)).alloc (.cells #[.int .i64 150, .int .i64 100, .int .i64 200] 54))
    have F32 := Lib.hid ((F32.out.other (p := ⟨g3, 34, none⟩) (by simp only; omega) (.slice (some ⟨wC.heap.size, 0, none⟩) 1 1)).alloc (.cells #[.int .i64 150, .int .i64 100, .int .i64 200] 54))
    have F33 := Lib.hid ((F33.out.other (p := ⟨g3, 34, none⟩) (by simp only; omega) (.slice (some ⟨wC.heap.size, 0, none⟩) 1 1)).alloc (.cells #[.int .i64 150, .int .i64 100, .int .i64 200] 54))
    have F34 := Lib.hid ((F34.out.other (p := ⟨g3, 34, none⟩) (by simp only; omega) (.slice (some ⟨wC.heap.size, 0, none⟩) 1 1)).alloc (.cells #[.int .i64 150, .int .i64 100, .int .i64 200] 54))
    have HOD := Lib.hid ((own_low (i := 34) HOC.out (show g3 < wA.heap.size by omega) (.slice (some ⟨wC.heap.size, 0, none⟩) 1 1)).alloc (.cells #[.int .i64 150, .int .i64 100, .int .i64 200] 54))
    have hb30s := hbwC.setCell (p := ⟨g3, 34, none⟩) (by simp only; omega) (.slice (some ⟨wC.heap.size, 0, none⟩) 1 1)
    have hb30 := hb30s.alloc hb30s.size (.cells #[.int .i64 150, .int .i64 100, .int .i64 200] 54)
    clear HOC hb30s
    generalize (wC.setCell ⟨g3, 34, none⟩ (.slice (some ⟨wC.heap.size, 0, none⟩) 1 1)).alloc (.cells #[.int .i64 150, .int .i64 100, .int .i64 200] 54) = w30 at *
    have RR_30 := Lib.hid (exG_at (l2 := [(10, 1), (30, 3), (50, 1)]) (d6 := []) F1g.out F10.out F11.out F13.out F14.out (items_of_own (l := [(10, 1), (30, 3), (50, 1)]) HOD.out) (own_nil3 HOD.out) (dims_none _) nilok_none (by decide) (by decide))
    have RO_30 := Lib.hid (exG_at (l2 := [(30, 3), (60, 1)]) (d6 := []) F2g.out F20.out F21.out F23.out F24.out (items_lies (c := 2) (l := [(30, 3), (60, 1)]) F22.out rfl) (nilok_some _ _ _) (dims_none _) nilok_none (by decide) (by decide))
    have RS_30 := Lib.hid (exG_at (l2 := [(30, 3), (50, 1)]) (d6 := [(150, 100, 200)]) F3g.out F30.out F31.out F33.out F34.out (items_lies (c := 2) (l := [(30, 3), (50, 1)]) F32.out rfl) (nilok_some _ _ _) (dims_lies (c := 1) (l := [(150, 100, 200)]) FD.out rfl) (nilok_some _ _ _) (by decide) (by decide))
    have B1_30 := FB1
    have B2_30 := FB2
    have B3_30 := FB3
    clear FB1 FB2 FB3 F1g F10 F11 F12 F13 F14 F2g F20 F21 F22 F23 F24 F3g F30 F31 F32 F33 F34 FD HOD
    have x30 : w30.cell? ⟨w19.heap.size + 1 + 1, 0, none⟩ = some (.slice (some ⟨g3, 0, none⟩) 7 7) := B3_30.out.cell 0
    refine wp_region_held_drew (S := fun W => W.cell? ⟨w19.heap.size + 1 + 1, 0, none⟩ = some (.slice (some ⟨g3, 0, none⟩) 7 7)) (by kernel_rfl) x30 (fun hHeld => ?_)
    refine take_at (i := 1) (v := ?_) rfl (by kernel_rfl) (by kernel_rfl) (by kernel_rfl) (fun _ _ _ h => h) (Or.inl ⟨by rfl, ?_⟩) (by assumption) ?_
    rotate_left
    · (intro w hSw; (try dsimp only at hSw); go_simp; (try with_reducible rfl))
    try simp only [Act.put, List.setIfInBounds_toArray, List.set_cons_zero, List.set_cons_succ]
    refine wpAnyH_ready (rs := [0]) (by kernel_rfl) (by simp) ?_
    refine cons_at rfl (fun K hK => ?_) AllReadyH.nil
    (first | (go_at_call 51; refine (register_any _).mono ?_; rintro e31 w31 ⟨A31, c31, rfl, hr31, -, ga31⟩; have hv31 : Below w30.heap.size w30 w31 := ((Below.refl _ w30).drew).trans ga31; have x31 := cell_keep hv31 x30) | (go_simp; go_at_call 51; refine (register_any _).mono ?_; rintro e31 w31 ⟨A31, c31, rfl, hr31, -, ga31⟩; have hv31 : Below w30.heap.size w30 w31 := ((Below.refl _ w30).drew).trans ga31; have x31 := cell_keep hv31 x30))
    refine hK.out _ _ ?_ (fun hHeld => ?_)
    · exact x31
    clear hK K
    try simp only [Act.put, List.setIfInBounds_toArray, List.set_cons_zero, List.set_cons_succ]
    refine wpAnyH_ready (rs := [2]) (by kernel_rfl) (by simp) ?_
    refine cons_at rfl (fun K hK => ?_) AllReadyH.nil
    (first | (go_at_call 46; refine (clash_y hr31 (RS_30.out.after hv31) ex_clash2).mono ?_; rintro e32 w32 ⟨A32, c32, rfl, hl32, ga32⟩; have hv32 : Below w30.heap.size w30 w32 := hv31.trans (ga32.mono hv31.size); have x32 := cell_keep ga32 x31; have HL32 := Lib.hid hl32; clear hl32) | (go_simp; go_at_call 46; refine (clash_y hr31 (RS_30.out.after hv31) ex_clash2).mono ?_; rintro e32 w32 ⟨A32, c32, rfl, hl32, ga32⟩; have hv32 : Below w30.heap.size w30 w32 := hv31.trans (ga32.mono hv31.size); have x32 := cell_keep ga32 x31; have HL32 := Lib.hid hl32; clear hl32))
    refine hK.out _ _ ?_ (fun hHeld => ?_)
    · exact x32
    clear hK K
    try simp only [Act.put, List.setIfInBounds_toArray, List.set_cons_zero, List.set_cons_succ]
    refine take_at (i := 3) (v := ?_) rfl (by kernel_rfl) (by kernel_rfl) (by kernel_rfl) (fun _ _ _ h => h) (Or.inl ⟨by rfl, ?_⟩) (by assumption) ?_
    rotate_left
    · (intro w hSw; (try dsimp only at hSw); go_simp; (try with_reducible rfl))
    try simp only [Act.put, List.setIfInBounds_toArray, List.set_cons_zero, List.set_cons_succ]
    refine take_at (i := 4) (v := ?_) rfl (by kernel_rfl) (by kernel_rfl) (by kernel_rfl) (fun _ _ _ h => h) (Or.inl ⟨by rfl, ?_⟩) (by assumption) ?_
    rotate_left
    · (intro w hSw; (try dsimp only at hSw); go_simp; (try with_reducible rfl))
    try simp only [Act.put, List.setIfInBounds_toArray, List.set_cons_zero, List.set_cons_succ]
    refine take_at (i := 5) (v := ?_) rfl (by kernel_rfl) (by kernel_rfl) (by kernel_rfl) (fun _ _ _ h => h) (Or.inl ⟨by rfl, ?_⟩) (by assumption) ?_
    rotate_left
    · (intro w hSw; (try dsimp only at hSw); go_simp; (try with_reducible rfl))
    try simp only [Act.put, List.setIfInBounds_toArray, List.set_cons_zero, List.set_cons_succ]
    refine take_at (i := 6) (v := ?_) rfl (by kernel_rfl) (by kernel_rfl) (by kernel_rfl) (fun _ _ _ h => h) (Or.inl ⟨by rfl, ?_⟩) (by assumption) ?_
    rotate_left
    · (intro w hSw; (try dsimp only at hSw); go_simp; (try with_reducible rfl))
    try simp only [Act.put, List.setIfInBounds_toArray, List.set_cons_zero, List.set_cons_succ]
    refine take_at (i := 7) (v := ?_) rfl (by kernel_rfl) (by kernel_rfl) (by kernel_rfl) (fun _ _ _ h => h) (Or.inl ⟨by rfl, ?_⟩) (by assumption) ?_
    rotate_left
    · (intro w hSw; (try dsimp only at hSw); go_simp; (try with_reducible rfl))
    try simp only [Act.put, List.setIfInBounds_toArray, List.set_cons_zero, List.set_cons_succ]
    refine wpAnyH_done (by kernel_rfl) ?_ _
    have hq32 : Below w30.heap.size w30 w32 := hv32
    have RR_32 := Lib.hid (RR_30.out.after hq32)
    clear RR_30
    have RO_32 := Lib.hid (RO_30.out.after hq32)
    clear RO_30
    have RS_32 := Lib.hid (RS_30.out.after hq32)
    clear RS_30
    have B1_32 := Lib.hid (B1_30.out.after hq32)
    clear B1_30
    have B2_32 := Lib.hid (B2_30.out.after hq32)
    clear B2_30
    have B3_32 := Lib.hid (B3_30.out.after hq32)
    clear B3_30
    have CL_32 := Lib.hid HL32.out
    have hb32 : Below w.heap.size w w32 := hb30.trans (hq32.mono hb30.size)
    clear x30 x31 x32 hr31 hv31 ga31 ga32 HL32 hq32
    have x32 : w32.cell? ⟨w19.heap.size + 1 + 1, 0, none⟩ = some (.slice (some ⟨g3, 0, none⟩) 7 7) := B3_32.out.cell 0
    have z32 := B3_32.out.lt
    go_upto_region 14 with fail
    go_cut [16] (fun s16 wx => s16 = .int .i64 23 ∧ Below w32.heap.size w32 wx)
    case first =>
      refine wp_region_held_drew (S := fun W => W.cell? ⟨w19.heap.size + 1 + 1, 0, none⟩ = some (.slice (some ⟨g3, 0, none⟩) 7 7)) (by kernel_rfl) x32 (fun hHeld => ?_)
      have hv0p : Below w32.heap.size w32 w32.drew := (Below.refl _ _).drew
      have x0p : w32.drew.cell? ⟨w19.heap.size + 1 + 1, 0, none⟩ = some (.slice (some ⟨g3, 0, none⟩) 7 7) := x32
      generalize hwd : w32.drew = w0p at *
      refine take_at (i := 1) (v := ?_) rfl (by kernel_rfl) (by kernel_rfl) (by kernel_rfl) (fun _ _ _ h => h) (Or.inl ⟨by rfl, ?_⟩) (by assumption) ?_
      rotate_left
      · (intro w hSw; (try dsimp only at hSw); go_simp; (try with_reducible rfl))
      try simp only [Act.put, List.setIfInBounds_toArray, List.set_cons_zero, List.set_cons_succ]
      refine wpAnyH_ready (rs := [0, 6]) (by kernel_rfl) (by simp) ?_
      refine cons_at rfl (fun K hK => ?_) (cons_at rfl (fun K hK => ?_) AllReadyH.nil)
      · (first | (go_at_call 51; refine (register_any _).mono ?_; rintro e1p w1p ⟨A1p, c1p, rfl, hr1p, hcp1p, gb⟩) | (go_simp; go_at_call 51; refine (register_any _).mono ?_; rintro e1p w1p ⟨A1p, c1p, rfl, hr1p, hcp1p, gb⟩))
        have hv1p : Below w32.heap.size w32 w1p := hv0p.trans (gb.mono hv0p.size)
        have x1p := cell_keep gb x0p
        refine hK.out _ _ ?_ (fun hHeld => ?_)
        · exact x1p
        clear hK K gb
        try simp only [Act.put, List.setIfInBounds_toArray, List.set_cons_zero, List.set_cons_succ]
        refine wpAnyH_ready (rs := [2, 6]) (by kernel_rfl) (by simp) ?_
        refine cons_at rfl (fun K hK => ?_) (cons_at rfl (fun K hK => ?_) AllReadyH.nil)
        · (first | (go_at_call 48; refine (merge_x hr1p (RS_32.out.after hv1p) (capOfx hcp1p) (capOfx (Nat.le_refl 7)) ex_merge2).mono ?_; rintro e2p w2p ⟨A2p, n2p, c2p, rfl, gb⟩) | (go_simp; go_at_call 48; refine (merge_x hr1p (RS_32.out.after hv1p) (capOfx hcp1p) (capOfx (Nat.le_refl 7)) ex_merge2).mono ?_; rintro e2p w2p ⟨A2p, n2p, c2p, rfl, gb⟩))
          have hv2p : Below w32.heap.size w32 w2p := hv1p.trans (gb.mono hv1p.size)
          have x2p := cell_keep gb x1p
          refine hK.out _ _ ?_ (fun hHeld => ?_)
          · exact x2p
          clear hK K gb
          try simp only [Act.put, List.setIfInBounds_toArray, List.set_cons_zero, List.set_cons_succ]
          refine take_at (i := 3) (v := ?_) rfl (by kernel_rfl) (by kernel_rfl) (by kernel_rfl) (fun _ _ _ h => h) (Or.inl ⟨by rfl, ?_⟩) (by assumption) ?_
          rotate_left
          · (intro w hSw; (try dsimp only at hSw); go_simp; (try with_reducible rfl))
          try simp only [Act.put, List.setIfInBounds_toArray, List.set_cons_zero, List.set_cons_succ]
          refine take_at (i := 4) (v := ?_) rfl (by kernel_rfl) (by kernel_rfl) (by kernel_rfl) (fun _ _ _ h => h) (Or.inl ⟨by rfl, ?_⟩) (by assumption) ?_
          rotate_left
          · (intro w hSw; (try dsimp only at hSw); go_simp; (try with_reducible rfl))
          try simp only [Act.put, List.setIfInBounds_toArray, List.set_cons_zero, List.set_cons_succ]
          refine take_at (i := 5) (v := ?_) rfl (by kernel_rfl) (by kernel_rfl) (by kernel_rfl) (fun _ _ _ h => h) (Or.inl ⟨by rfl, ?_⟩) (by assumption) ?_
          rotate_left
          · (intro w hSw; (try dsimp only at hSw); go_simp; (try with_reducible rfl))
          try simp only [Act.put, List.setIfInBounds_toArray, List.set_cons_zero, List.set_cons_succ]
          refine wpAnyH_ready (rs := [6]) (by kernel_rfl) (by simp) ?_
          refine cons_at rfl (fun K hK => ?_) AllReadyH.nil
          go_simp
          refine hK.out _ _ ?_ (fun hHeld => ?_)
          · exact keep_nw x2p
          clear hK K
          try simp only [Act.put, List.setIfInBounds_toArray, List.set_cons_zero, List.set_cons_succ]
          have x3p := keep_nw (o := .cells #[.slice none 0 0] 24) x2p
          have hz3p := hv2p.size
          have hv3p : Below w32.heap.size w32 (w2p.alloc (.cells #[.slice none 0 0] 24)) := hv2p.alloc hz3p _
          have LZ3p := Lies.made w2p 24 #[.slice none 0 0]
          generalize hw3p : (w2p.alloc (.cells #[.slice none 0 0] 24)) = w3p at *
          refine wpAnyH_ready (rs := [7]) (by kernel_rfl) (by simp) ?_
          refine cons_at rfl (fun K hK => ?_) AllReadyH.nil
          have y0 := LZ3p.cell 0
          have f0 := LZ3p.free 0
          go_simp
          refine hK.out _ _ ?_ (fun hHeld => ?_)
          · exact (World.cell?_setCell_far _ _ _ _ (by simp only; omega)).trans x3p
          clear hK K
          try simp only [Act.put, List.setIfInBounds_toArray, List.set_cons_zero, List.set_cons_succ]
          refine take_at (i := 8) (v := ?_) rfl (by kernel_rfl) (by kernel_rfl) (by kernel_rfl) (fun _ _ _ h => h) (Or.inl ⟨by rfl, ?_⟩) (by assumption) ?_
          rotate_left
          · (intro w hSw; (try dsimp only at hSw); go_simp; (try with_reducible rfl))
          try simp only [Act.put, List.setIfInBounds_toArray, List.set_cons_zero, List.set_cons_succ]
          refine wpAnyH_done (by kernel_rfl) ?_ _
          go_wp2_with fail
          go_meet
          exact ⟨rfl, hv3p.setCell (by simp only; omega) _⟩
        · go_simp
          refine hK.out _ _ ?_ (fun hHeld => ?_)
          · exact keep_nw x1p
          clear hK K
          try simp only [Act.put, List.setIfInBounds_toArray, List.set_cons_zero, List.set_cons_succ]
          have x5p := keep_nw (o := .cells #[.slice none 0 0] 24) x1p
          have hz5p := hv1p.size
          have hv5p : Below w32.heap.size w32 (w1p.alloc (.cells #[.slice none 0 0] 24)) := hv1p.alloc hz5p _
          have LZ5p := Lies.made w1p 24 #[.slice none 0 0]
          have hr5p := hr1p.after ((Below.refl _ w1p).alloc (Nat.le_refl _) (.cells #[.slice none 0 0] 24))
          have hcp5p := hcp1p
          generalize hw5p : (w1p.alloc (.cells #[.slice none 0 0] 24)) = w5p at *
          refine wpAnyH_ready (rs := [2]) (by kernel_rfl) (by simp) ?_
          refine cons_at rfl (fun K hK => ?_) AllReadyH.nil
          (first | (go_at_call 48; refine (merge_x hr5p (RS_32.out.after hv5p) (capOfx hcp5p) (capOfx (Nat.le_refl 7)) ex_merge2).mono ?_; rintro e6p w6p ⟨A6p, n6p, c6p, rfl, gb⟩) | (go_simp; go_at_call 48; refine (merge_x hr5p (RS_32.out.after hv5p) (capOfx hcp5p) (capOfx (Nat.le_refl 7)) ex_merge2).mono ?_; rintro e6p w6p ⟨A6p, n6p, c6p, rfl, gb⟩))
          have hv6p : Below w32.heap.size w32 w6p := hv5p.trans (gb.mono hv5p.size)
          have x6p := cell_keep gb x5p
          have LZ6p := LZ5p.after gb
          have hz6p := hz5p
          refine hK.out _ _ ?_ (fun hHeld => ?_)
          · exact x6p
          clear hK K gb
          try simp only [Act.put, List.setIfInBounds_toArray, List.set_cons_zero, List.set_cons_succ]
          refine take_at (i := 3) (v := ?_) rfl (by kernel_rfl) (by kernel_rfl) (by kernel_rfl) (fun _ _ _ h => h) (Or.inl ⟨by rfl, ?_⟩) (by assumption) ?_
          rotate_left
          · (intro w hSw; (try dsimp only at hSw); go_simp; (try with_reducible rfl))
          try simp only [Act.put, List.setIfInBounds_toArray, List.set_cons_zero, List.set_cons_succ]
          refine take_at (i := 4) (v := ?_) rfl (by kernel_rfl) (by kernel_rfl) (by kernel_rfl) (fun _ _ _ h => h) (Or.inl ⟨by rfl, ?_⟩) (by assumption) ?_
          rotate_left
          · (intro w hSw; (try dsimp only at hSw); go_simp; (try with_reducible rfl))
          try simp only [Act.put, List.setIfInBounds_toArray, List.set_cons_zero, List.set_cons_succ]
          refine take_at (i := 5) (v := ?_) rfl (by kernel_rfl) (by kernel_rfl) (by kernel_rfl) (fun _ _ _ h => h) (Or.inl ⟨by rfl, ?_⟩) (by assumption) ?_
          rotate_left
          · (intro w hSw; (try dsimp only at hSw); go_simp; (try with_reducible rfl))
          try simp only [Act.put, List.setIfInBounds_toArray, List.set_cons_zero, List.set_cons_succ]
          refine wpAnyH_ready (rs := [7]) (by kernel_rfl) (by simp) ?_
          refine cons_at rfl (fun K hK => ?_) AllReadyH.nil
          have y0 := LZ6p.cell 0
          have f0 := LZ6p.free 0
          go_simp
          refine hK.out _ _ ?_ (fun hHeld => ?_)
          · exact (World.cell?_setCell_far _ _ _ _ (by simp only; omega)).trans x6p
          clear hK K
          try simp only [Act.put, List.setIfInBounds_toArray, List.set_cons_zero, List.set_cons_succ]
          refine take_at (i := 8) (v := ?_) rfl (by kernel_rfl) (by kernel_rfl) (by kernel_rfl) (fun _ _ _ h => h) (Or.inl ⟨by rfl, ?_⟩) (by assumption) ?_
          rotate_left
          · (intro w hSw; (try dsimp only at hSw); go_simp; (try with_reducible rfl))
          try simp only [Act.put, List.setIfInBounds_toArray, List.set_cons_zero, List.set_cons_succ]
          refine wpAnyH_done (by kernel_rfl) ?_ _
          go_wp2_with fail
          go_meet
          exact ⟨rfl, hv6p.setCell (by simp only; omega) _⟩
      · go_simp
        refine hK.out _ _ ?_ (fun hHeld => ?_)
        · exact keep_nw x0p
        clear hK K
        try simp only [Act.put, List.setIfInBounds_toArray, List.set_cons_zero, List.set_cons_succ]
        have x8p := keep_nw (o := .cells #[.slice none 0 0] 24) x0p
        have hz8p := hv0p.size
        have hv8p : Below w32.heap.size w32 (w0p.alloc (.cells #[.slice none 0 0] 24)) := hv0p.alloc hz8p _
        have LZ8p := Lies.made w0p 24 #[.slice none 0 0]
        generalize hw8p : (w0p.alloc (.cells #[.slice none 0 0] 24)) = w8p at *
        refine wpAnyH_ready (rs := [0]) (by kernel_rfl) (by simp) ?_
        refine cons_at rfl (fun K hK => ?_) AllReadyH.nil
        (first | (go_at_call 51; refine (register_any _).mono ?_; rintro e9p w9p ⟨A9p, c9p, rfl, hr9p, hcp9p, gb⟩) | (go_simp; go_at_call 51; refine (register_any _).mono ?_; rintro e9p w9p ⟨A9p, c9p, rfl, hr9p, hcp9p, gb⟩))
        have hv9p : Below w32.heap.size w32 w9p := hv8p.trans (gb.mono hv8p.size)
        have x9p := cell_keep gb x8p
        have LZ9p := LZ8p.after gb
        have hz9p := hz8p
        refine hK.out _ _ ?_ (fun hHeld => ?_)
        · exact x9p
        clear hK K gb
        try simp only [Act.put, List.setIfInBounds_toArray, List.set_cons_zero, List.set_cons_succ]
        refine wpAnyH_ready (rs := [2]) (by kernel_rfl) (by simp) ?_
        refine cons_at rfl (fun K hK => ?_) AllReadyH.nil
        (first | (go_at_call 48; refine (merge_x hr9p (RS_32.out.after hv9p) (capOfx hcp9p) (capOfx (Nat.le_refl 7)) ex_merge2).mono ?_; rintro e10p w10p ⟨A10p, n10p, c10p, rfl, gb⟩) | (go_simp; go_at_call 48; refine (merge_x hr9p (RS_32.out.after hv9p) (capOfx hcp9p) (capOfx (Nat.le_refl 7)) ex_merge2).mono ?_; rintro e10p w10p ⟨A10p, n10p, c10p, rfl, gb⟩))
        have hv10p : Below w32.heap.size w32 w10p := hv9p.trans (gb.mono hv9p.size)
        have x10p := cell_keep gb x9p
        have LZ10p := LZ9p.after gb
        have hz10p := hz9p
        refine hK.out _ _ ?_ (fun hHeld => ?_)
        · exact x10p
        clear hK K gb
        try simp only [Act.put, List.setIfInBounds_toArray, List.set_cons_zero, List.set_cons_succ]
        refine take_at (i := 3) (v := ?_) rfl (by kernel_rfl) (by kernel_rfl) (by kernel_rfl) (fun _ _ _ h => h) (Or.inl ⟨by rfl, ?_⟩) (by assumption) ?_
        rotate_left
        · (intro w hSw; (try dsimp only at hSw); go_simp; (try with_reducible rfl))
        try simp only [Act.put, List.setIfInBounds_toArray, List.set_cons_zero, List.set_cons_succ]
        refine take_at (i := 4) (v := ?_) rfl (by kernel_rfl) (by kernel_rfl) (by kernel_rfl) (fun _ _ _ h => h) (Or.inl ⟨by rfl, ?_⟩) (by assumption) ?_
        rotate_left
        · (intro w hSw; (try dsimp only at hSw); go_simp; (try with_reducible rfl))
        try simp only [Act.put, List.setIfInBounds_toArray, List.set_cons_zero, List.set_cons_succ]
        refine take_at (i := 5) (v := ?_) rfl (by kernel_rfl) (by kernel_rfl) (by kernel_rfl) (fun _ _ _ h => h) (Or.inl ⟨by rfl, ?_⟩) (by assumption) ?_
        rotate_left
        · (intro w hSw; (try dsimp only at hSw); go_simp; (try with_reducible rfl))
        try simp only [Act.put, List.setIfInBounds_toArray, List.set_cons_zero, List.set_cons_succ]
        refine wpAnyH_ready (rs := [7]) (by kernel_rfl) (by simp) ?_
        refine cons_at rfl (fun K hK => ?_) AllReadyH.nil
        have y0 := LZ10p.cell 0
        have f0 := LZ10p.free 0
        go_simp
        refine hK.out _ _ ?_ (fun hHeld => ?_)
        · exact (World.cell?_setCell_far _ _ _ _ (by simp only; omega)).trans x10p
        clear hK K
        try simp only [Act.put, List.setIfInBounds_toArray, List.set_cons_zero, List.set_cons_succ]
        refine take_at (i := 8) (v := ?_) rfl (by kernel_rfl) (by kernel_rfl) (by kernel_rfl) (fun _ _ _ h => h) (Or.inl ⟨by rfl, ?_⟩) (by assumption) ?_
        rotate_left
        · (intro w hSw; (try dsimp only at hSw); go_simp; (try with_reducible rfl))
        try simp only [Act.put, List.setIfInBounds_toArray, List.set_cons_zero, List.set_cons_succ]
        refine wpAnyH_done (by kernel_rfl) ?_ _
        go_wp2_with fail
        go_meet
        exact ⟨rfl, hv10p.setCell (by simp only; omega) _⟩
    case rest =>
      obtain ⟨rfl, hv33⟩ := hcut
      obtain ⟨w33, rfl⟩ : ∃ z, z = wc := ⟨_, rfl⟩
      clear RS_32
      clear B3_32
      have hq33 : Below w32.heap.size w32 w33 := hv33
      have RR_33 := Lib.hid (RR_32.out.after hq33)
      clear RR_32
      have RO_33 := Lib.hid (RO_32.out.after hq33)
      clear RO_32
      have B1_33 := Lib.hid (B1_32.out.after hq33)
      clear B1_32
      have B2_33 := Lib.hid (B2_32.out.after hq33)
      clear B2_32
      have CL_33 := Lib.hid (CL_32.out.after hq33)
      clear CL_32
      have hb33 : Below w.heap.size w w33 := hb32.trans (hq33.mono hb32.size)
      clear x32 z32 hq33
      go_wp2_with fail
      refine (register_any _).mono ?_
      rintro e34 w34 ⟨A34, c34, rfl, hr, hcp, hb⟩
      have hq34 : Below w33.heap.size w33 w34 := by (repeat' (first | (with_reducible first | exact Below.refl _ _ | assumption | refine Below.alloc ?_ ?_ _ | refine Below.setCell ?_ ?_ _ | refine below_row ?_ ?_ _ | refine Below.drew ?_ | refine below_drewN ?_ _ | refine Below.trans ?_ (Below.mono (by assumption) ?_)) | exact Nat.le_refl _ | omega | (simp; done) | (simp; omega) | exact Below.size (by assumption)))
      have RR_34 := Lib.hid (RR_33.out.after hq34)
      clear RR_33
      have RO_34 := Lib.hid (RO_33.out.after hq34)
      clear RO_33
      have B1_34 := Lib.hid (B1_33.out.after hq34)
      clear B1_33
      have B2_34 := Lib.hid (B2_33.out.after hq34)
      clear B2_33
      have CL_34 := Lib.hid (CL_33.out.after hq34)
      clear CL_33
      have R_34 := Lib.hid hr
      have hb34 : Below w.heap.size w w34 := hb33.trans (hq34.mono hb33.size)
      clear hr hcp hb hq34
      go_wp2_with fail
      refine (last_x R_34.out ex_last2).mono ?_
      rintro e35 w35 ⟨rfl, hb⟩
      have hq35 : Below w34.heap.size w34 w35 := by (repeat' (first | (with_reducible first | exact Below.refl _ _ | assumption | refine Below.alloc ?_ ?_ _ | refine Below.setCell ?_ ?_ _ | refine below_row ?_ ?_ _ | refine Below.drew ?_ | refine below_drewN ?_ _ | refine Below.trans ?_ (Below.mono (by assumption) ?_)) | exact Nat.le_refl _ | omega | (simp; done) | (simp; omega) | exact Below.size (by assumption)))
      have RR_35 := Lib.hid (RR_34.out.after hq35)
      clear RR_34
      have RO_35 := Lib.hid (RO_34.out.after hq35)
      clear RO_34
      have B1_35 := Lib.hid (B1_34.out.after hq35)
      clear B1_34
      have B2_35 := Lib.hid (B2_34.out.after hq35)
      clear B2_34
      have CL_35 := Lib.hid (CL_34.out.after hq35)
      clear CL_34
      have R_35 := Lib.hid (R_34.out.after hq35)
      clear R_34
      have hb35 : Below w.heap.size w w35 := hb34.trans (hq35.mono hb34.size)
      clear hb hq35
      clear R_35
      go_wp2_with fail
      refine (register_any _).mono ?_
      rintro e36 w36 ⟨A36, c36, rfl, hr, hcp, hb⟩
      have hq36 : Below w35.heap.size w35 w36 := by (repeat' (first | (with_reducible first | exact Below.refl _ _ | assumption | refine Below.alloc ?_ ?_ _ | refine Below.setCell ?_ ?_ _ | refine below_row ?_ ?_ _ | refine Below.drew ?_ | refine below_drewN ?_ _ | refine Below.trans ?_ (Below.mono (by assumption) ?_)) | exact Nat.le_refl _ | omega | (simp; done) | (simp; omega) | exact Below.size (by assumption)))
      have RR_36 := Lib.hid (RR_35.out.after hq36)
      clear RR_35
      have RO_36 := Lib.hid (RO_35.out.after hq36)
      clear RO_35
      have B1_36 := Lib.hid (B1_35.out.after hq36)
      clear B1_35
      have B2_36 := Lib.hid (B2_35.out.after hq36)
      clear B2_35
      have CL_36 := Lib.hid (CL_35.out.after hq36)
      clear CL_35
      have R_36 := Lib.hid hr
      have hb36 : Below w.heap.size w w36 := hb35.trans (hq36.mono hb35.size)
      clear hr hcp hb hq36
      go_wp2_with fail
      refine (at_none R_36.out ex_lay (by rw [ex_numbers]; decide) (by kernel_rfl)).mono ?_
      rintro e37 w37 ⟨a37, b37, k37, A37, n37, c37, B37, m37, d37, rfl, hb⟩
      have hq37 : Below w36.heap.size w36 w37 := by (repeat' (first | (with_reducible first | exact Below.refl _ _ | assumption | refine Below.alloc ?_ ?_ _ | refine Below.setCell ?_ ?_ _ | refine below_row ?_ ?_ _ | refine Below.drew ?_ | refine below_drewN ?_ _ | refine Below.trans ?_ (Below.mono (by assumption) ?_)) | exact Nat.le_refl _ | omega | (simp; done) | (simp; omega) | exact Below.size (by assumption)))
      have RR_37 := Lib.hid (RR_36.out.after hq37)
      clear RR_36
      have RO_37 := Lib.hid (RO_36.out.after hq37)
      clear RO_36
      have B1_37 := Lib.hid (B1_36.out.after hq37)
      clear B1_36
      have B2_37 := Lib.hid (B2_36.out.after hq37)
      clear B2_36
      have CL_37 := Lib.hid (CL_36.out.after hq37)
      clear CL_36
      have R_37 := Lib.hid (R_36.out.after hq37)
      clear R_36
      have hb37 : Below w.heap.size w w37 := hb36.trans (hq37.mono hb36.size)
      clear hb hq37
      clear R_37
      go_wp2_with fail
      refine (register_any _).mono ?_
      rintro e38 w38 ⟨A38, c38, rfl, hr, hcp, hb⟩
      have hq38 : Below w37.heap.size w37 w38 := by (repeat' (first | (with_reducible first | exact Below.refl _ _ | assumption | refine Below.alloc ?_ ?_ _ | refine Below.setCell ?_ ?_ _ | refine below_row ?_ ?_ _ | refine Below.drew ?_ | refine below_drewN ?_ _ | refine Below.trans ?_ (Below.mono (by assumption) ?_)) | exact Nat.le_refl _ | omega | (simp; done) | (simp; omega) | exact Below.size (by assumption)))
      have RR_38 := Lib.hid (RR_37.out.after hq38)
      clear RR_37
      have RO_38 := Lib.hid (RO_37.out.after hq38)
      clear RO_37
      have B1_38 := Lib.hid (B1_37.out.after hq38)
      clear B1_37
      have B2_38 := Lib.hid (B2_37.out.after hq38)
      clear B2_37
      have CL_38 := Lib.hid (CL_37.out.after hq38)
      clear CL_37
      have R_38 := Lib.hid hr
      have hb38 : Below w.heap.size w w38 := hb37.trans (hq38.mono hb37.size)
      clear hr hcp hb hq38
      go_wp2_with fail
      refine (first_x _).mono ?_
      rintro e39 w39 ⟨h39, rfl, hi, hb⟩
      have hq39 : Below w38.heap.size w38 w39 := by (repeat' (first | (with_reducible first | exact Below.refl _ _ | assumption | refine Below.alloc ?_ ?_ _ | refine Below.setCell ?_ ?_ _ | refine below_row ?_ ?_ _ | refine Below.drew ?_ | refine below_drewN ?_ _ | refine Below.trans ?_ (Below.mono (by assumption) ?_)) | exact Nat.le_refl _ | omega | (simp; done) | (simp; omega) | exact Below.size (by assumption)))
      have RR_39 := Lib.hid (RR_38.out.after hq39)
      clear RR_38
      have RO_39 := Lib.hid (RO_38.out.after hq39)
      clear RO_38
      have B1_39 := Lib.hid (B1_38.out.after hq39)
      clear B1_38
      have B2_39 := Lib.hid (B2_38.out.after hq39)
      clear B2_38
      have CL_39 := Lib.hid (CL_38.out.after hq39)
      clear CL_38
      have R_39 := Lib.hid (R_38.out.after hq39)
      clear R_38
      have S_39 := Lib.hid hi
      have hb39 : Below w.heap.size w w39 := hb38.trans (hq39.mono hb38.size)
      clear hi hb hq39
      go_wp2_with fail
      refine (expl_x R_39.out (ints_four S_39.out) (by decide) ex_ask3).mono ?_
      rintro e40 w40 ⟨A40, n40, c40, rfl, hb⟩
      have hq40 : Below w39.heap.size w39 w40 := by (repeat' (first | (with_reducible first | exact Below.refl _ _ | assumption | refine Below.alloc ?_ ?_ _ | refine Below.setCell ?_ ?_ _ | refine below_row ?_ ?_ _ | refine Below.drew ?_ | refine below_drewN ?_ _ | refine Below.trans ?_ (Below.mono (by assumption) ?_)) | exact Nat.le_refl _ | omega | (simp; done) | (simp; omega) | exact Below.size (by assumption)))
      have RR_40 := Lib.hid (RR_39.out.after hq40)
      clear RR_39
      have RO_40 := Lib.hid (RO_39.out.after hq40)
      clear RO_39
      have B1_40 := Lib.hid (B1_39.out.after hq40)
      clear B1_39
      have B2_40 := Lib.hid (B2_39.out.after hq40)
      clear B2_39
      have CL_40 := Lib.hid (CL_39.out.after hq40)
      clear CL_39
      have R_40 := Lib.hid (R_39.out.after hq40)
      clear R_39
      have S_40 := Lib.hid (S_39.out.after hq40)
      clear S_39
      have hb40 : Below w.heap.size w w40 := hb39.trans (hq40.mono hb39.size)
      clear hb hq40
      clear R_40
      clear S_40
      go_wp2_with fail
      refine (register_any _).mono ?_
      rintro e41 w41 ⟨A41, c41, rfl, hr, hcp, hb⟩
      have hq41 : Below w40.heap.size w40 w41 := by (repeat' (first | (with_reducible first | exact Below.refl _ _ | assumption | refine Below.alloc ?_ ?_ _ | refine Below.setCell ?_ ?_ _ | refine below_row ?_ ?_ _ | refine Below.drew ?_ | refine below_drewN ?_ _ | refine Below.trans ?_ (Below.mono (by assumption) ?_)) | exact Nat.le_refl _ | omega | (simp; done) | (simp; omega) | exact Below.size (by assumption)))
      have RR_41 := Lib.hid (RR_40.out.after hq41)
      clear RR_40
      have RO_41 := Lib.hid (RO_40.out.after hq41)
      clear RO_40
      have B1_41 := Lib.hid (B1_40.out.after hq41)
      clear B1_40
      have B2_41 := Lib.hid (B2_40.out.after hq41)
      clear B2_40
      have CL_41 := Lib.hid (CL_40.out.after hq41)
      clear CL_40
      have R_41 := Lib.hid hr
      have hb41 : Below w.heap.size w w41 := hb40.trans (hq41.mono hb40.size)
      clear hr hcp hb hq41
      go_wp2_with fail
      refine (first_any _).mono ?_
      rintro e42 w42 ⟨A42, c42, rfl, hi, hb⟩
      have hq42 : Below w41.heap.size w41 w42 := by (repeat' (first | (with_reducible first | exact Below.refl _ _ | assumption | refine Below.alloc ?_ ?_ _ | refine Below.setCell ?_ ?_ _ | refine below_row ?_ ?_ _ | refine Below.drew ?_ | refine below_drewN ?_ _ | refine Below.trans ?_ (Below.mono (by assumption) ?_)) | exact Nat.le_refl _ | omega | (simp; done) | (simp; omega) | exact Below.size (by assumption)))
      have RR_42 := Lib.hid (RR_41.out.after hq42)
      clear RR_41
      have RO_42 := Lib.hid (RO_41.out.after hq42)
      clear RO_41
      have B1_42 := Lib.hid (B1_41.out.after hq42)
      clear B1_41
      have B2_42 := Lib.hid (B2_41.out.after hq42)
      clear B2_41
      have CL_42 := Lib.hid (CL_41.out.after hq42)
      clear CL_41
      have R_42 := Lib.hid (R_41.out.after hq42)
      clear R_41
      have S_42 := Lib.hid hi
      have hb42 : Below w.heap.size w w42 := hb41.trans (hq42.mono hb41.size)
      clear hi hb hq42
      go_wp2_with fail
      refine (tree_s R_42.out S_42.out (by decide) ex_tree2).mono ?_
      rintro e43 w43 ⟨A43, c43, rfl, hr, hb⟩
      have hq43 : Below w42.heap.size w42 w43 := by (repeat' (first | (with_reducible first | exact Below.refl _ _ | assumption | refine Below.alloc ?_ ?_ _ | refine Below.setCell ?_ ?_ _ | refine below_row ?_ ?_ _ | refine Below.drew ?_ | refine below_drewN ?_ _ | refine Below.trans ?_ (Below.mono (by assumption) ?_)) | exact Nat.le_refl _ | omega | (simp; done) | (simp; omega) | exact Below.size (by assumption)))
      have RR_43 := Lib.hid (RR_42.out.after hq43)
      clear RR_42
      have RO_43 := Lib.hid (RO_42.out.after hq43)
      clear RO_42
      have B1_43 := Lib.hid (B1_42.out.after hq43)
      clear B1_42
      have B2_43 := Lib.hid (B2_42.out.after hq43)
      clear B2_42
      have CL_43 := Lib.hid (CL_42.out.after hq43)
      clear CL_42
      have R_43 := Lib.hid (R_42.out.after hq43)
      clear R_42
      have S_43 := Lib.hid (S_42.out.after hq43)
      clear S_42
      have hb43 : Below w.heap.size w w43 := hb42.trans (hq43.mono hb42.size)
      clear hr hb hq43
      clear R_43
      clear S_43
      go_wp2_with fail
      refine (register_any _).mono ?_
      rintro e44 w44 ⟨A44, c44, rfl, hr, hcp, hb⟩
      have hq44 : Below w43.heap.size w43 w44 := by (repeat' (first | (with_reducible first | exact Below.refl _ _ | assumption | refine Below.alloc ?_ ?_ _ | refine Below.setCell ?_ ?_ _ | refine below_row ?_ ?_ _ | refine Below.drew ?_ | refine below_drewN ?_ _ | refine Below.trans ?_ (Below.mono (by assumption) ?_)) | exact Nat.le_refl _ | omega | (simp; done) | (simp; omega) | exact Below.size (by assumption)))
      have RR_44 := Lib.hid (RR_43.out.after hq44)
      clear RR_43
      have RO_44 := Lib.hid (RO_43.out.after hq44)
      clear RO_43
      have B1_44 := Lib.hid (B1_43.out.after hq44)
      clear B1_43
      have B2_44 := Lib.hid (B2_43.out.after hq44)
      clear B2_43
      have CL_44 := Lib.hid (CL_43.out.after hq44)
      clear CL_43
      have R_44 := Lib.hid hr
      have hb44 : Below w.heap.size w w44 := hb43.trans (hq44.mono hb43.size)
      clear hr hcp hb hq44
      go_wp2_with fail
      refine (differ_x R_44.out ex_differ3).mono ?_
      rintro e45 w45 ⟨A45, c45, B45, d45, rfl, hi, hb⟩
      have hq45 : Below w44.heap.size w44 w45 := by (repeat' (first | (with_reducible first | exact Below.refl _ _ | assumption | refine Below.alloc ?_ ?_ _ | refine Below.setCell ?_ ?_ _ | refine below_row ?_ ?_ _ | refine Below.drew ?_ | refine below_drewN ?_ _ | refine Below.trans ?_ (Below.mono (by assumption) ?_)) | exact Nat.le_refl _ | omega | (simp; done) | (simp; omega) | exact Below.size (by assumption)))
      have RR_45 := Lib.hid (RR_44.out.after hq45)
      clear RR_44
      have RO_45 := Lib.hid (RO_44.out.after hq45)
      clear RO_44
      have B1_45 := Lib.hid (B1_44.out.after hq45)
      clear B1_44
      have B2_45 := Lib.hid (B2_44.out.after hq45)
      clear B2_44
      have CL_45 := Lib.hid (CL_44.out.after hq45)
      clear CL_44
      have R_45 := Lib.hid (R_44.out.after hq45)
      clear R_44
      have hb45 : Below w.heap.size w w45 := hb44.trans (hq45.mono hb44.size)
      clear hi hb hq45
      clear R_45
      have B2c := B2_45.out.cell 0
      have B2z := B2_45.out.lt
      go_wp2_with fail
      refine (uses_x RO_45.out (by rw [ex_uses2])).mono ?_
      rintro e46 w46 ⟨A46, n46, c46, rfl, hb⟩
      have hq46 : Below w45.heap.size w45 w46 := by (repeat' (first | (with_reducible first | exact Below.refl _ _ | assumption | refine Below.alloc ?_ ?_ _ | refine Below.setCell ?_ ?_ _ | refine below_row ?_ ?_ _ | refine Below.drew ?_ | refine below_drewN ?_ _ | refine Below.trans ?_ (Below.mono (by assumption) ?_)) | exact Nat.le_refl _ | omega | (simp; done) | (simp; omega) | exact Below.size (by assumption)))
      clear B2c B2z
      have RR_46 := Lib.hid (RR_45.out.after hq46)
      clear RR_45
      have RO_46 := Lib.hid (RO_45.out.after hq46)
      clear RO_45
      have B1_46 := Lib.hid (B1_45.out.after hq46)
      clear B1_45
      have B2_46 := Lib.hid (B2_45.out.after hq46)
      clear B2_45
      have CL_46 := Lib.hid (CL_45.out.after hq46)
      clear CL_45
      have hb46 : Below w.heap.size w w46 := hb45.trans (hq46.mono hb45.size)
      clear hb hq46
      have B1c := B1_46.out.cell 0
      have B1z := B1_46.out.lt
      go_wp2_with fail
      refine (check_x RR_46.out ex_lay_round).mono ?_
      rintro e47 w47 ⟨rfl, hb⟩
      have hq47 : Below w46.heap.size w46 w47 := by (repeat' (first | (with_reducible first | exact Below.refl _ _ | assumption | refine Below.alloc ?_ ?_ _ | refine Below.setCell ?_ ?_ _ | refine below_row ?_ ?_ _ | refine Below.drew ?_ | refine below_drewN ?_ _ | refine Below.trans ?_ (Below.mono (by assumption) ?_)) | exact Nat.le_refl _ | omega | (simp; done) | (simp; omega) | exact Below.size (by assumption)))
      clear B1c B1z
      have RR_47 := Lib.hid (RR_46.out.after hq47)
      clear RR_46
      have RO_47 := Lib.hid (RO_46.out.after hq47)
      clear RO_46
      have B1_47 := Lib.hid (B1_46.out.after hq47)
      clear B1_46
      have B2_47 := Lib.hid (B2_46.out.after hq47)
      clear B2_46
      have CL_47 := Lib.hid (CL_46.out.after hq47)
      clear CL_46
      have hb47 : Below w.heap.size w w47 := hb46.trans (hq47.mono hb46.size)
      clear hb hq47
      clear RR_47
      clear B1_47
      have B2c := B2_47.out.cell 0
      have B2z := B2_47.out.lt
      go_wp2_with fail
      refine (check_x RO_47.out ex_lay_odd).mono ?_
      rintro e48 w48 ⟨rfl, hb⟩
      have hq48 : Below w47.heap.size w47 w48 := by (repeat' (first | (with_reducible first | exact Below.refl _ _ | assumption | refine Below.alloc ?_ ?_ _ | refine Below.setCell ?_ ?_ _ | refine below_row ?_ ?_ _ | refine Below.drew ?_ | refine below_drewN ?_ _ | refine Below.trans ?_ (Below.mono (by assumption) ?_)) | exact Nat.le_refl _ | omega | (simp; done) | (simp; omega) | exact Below.size (by assumption)))
      clear B2c B2z
      have RO_48 := Lib.hid (RO_47.out.after hq48)
      clear RO_47
      have B2_48 := Lib.hid (B2_47.out.after hq48)
      clear B2_47
      have CL_48 := Lib.hid (CL_47.out.after hq48)
      clear CL_47
      have hb48 : Below w.heap.size w w48 := hb47.trans (hq48.mono hb47.size)
      clear hb hq48
      clear RO_48
      clear B2_48
      go_wp2_with fail
      refine (rSameRefs_t (CL_48.out.after ((Below.refl _ w48).alloc (Nat.le_refl _) (.cells #[.int .i64 50, .int .i64 1] 26))) (refs_one (Lies.made w48 26 #[.int .i64 50, .int .i64 1])) (by decide)).mono ?_
      rintro e49 w49 ⟨rfl, hb⟩
      have hq49 : Below w48.heap.size w48 w49 := by (repeat' (first | (with_reducible first | exact Below.refl _ _ | assumption | refine Below.alloc ?_ ?_ _ | refine Below.setCell ?_ ?_ _ | refine below_row ?_ ?_ _ | refine Below.drew ?_ | refine below_drewN ?_ _ | refine Below.trans ?_ (Below.mono (by assumption) ?_)) | exact Nat.le_refl _ | omega | (simp; done) | (simp; omega) | exact Below.size (by assumption)))
      have CL_49 := Lib.hid (CL_48.out.after hq49)
      clear CL_48
      have hb49 : Below w.heap.size w w49 := hb48.trans (hq49.mono hb48.size)
      clear hb hq49
      go_wp2_with fail
      go_ret
      exact ⟨rfl, hb49⟩
end Go.Proofs.Ytmhlbdighceogaa
