/- Last. -/
import Derived.Test.YtngaepgepcnhkaaJG
namespace Go.Proofs.Ytngaepgepcnhkaa
set_option linter.unusedVariables false
set_option linter.unusedSimpArgs false
open Go.RowKit Go.Shelf
attribute [local go_sem] Oper.semAt_some

/-- The letter of the last of some issues; 0 if there is none. -/
def lastI (xs : List Iss) (ks : List (Fin xs.length)) : Int := (ks.getLast?.map fun k => xs[k].l).getD 0
theorem lastI_snoc (xs : List Iss) (ks : List (Fin xs.length)) (k : Fin xs.length) : lastI xs (ks ++ [k]) = xs[k].l := by simp [lastI]
def lastS (xs : List Iss) (d : Int) : Int := lastI xs (idxs xs d)
/-- What Last tells. -/
def lastE (xs : List Iss) (d : Int) : Int × Int := if layE xs ≠ 0 then (0, layE xs) else if lastS xs d = 0 then (0, 6) else (lastS xs d, 0)
theorem CellsKept.stored {X : Nat → Prop} {A W : World} (h : CellsKept X A W) {g : Nat} (hx : X g) (i : Nat) (u : Value) : CellsKept X A (W.setCell ⟨g, i, none⟩ u) :=
  ⟨by simp [World.setCell]; exact h.1, fun k cs' t fr hk e => (Below.heap_setCell W ⟨g, i, none⟩ u k (by show k ≠ g; rintro rfl; exact hk hx)).trans (h.2 k cs' t fr hk e)⟩

set_option maxRecDepth 100000 in
set_option maxHeartbeats 4000000 in
theorem sLast_any {vI : Value} {xs : List Iss} {w : World} (d : Int) (h : RegAt w vI xs) : Calls Try.prog 21 #[.agg #[vI], .int .i64 d] w fun e w' => e = .returned (.tuple #[.int .i64 ((lastE xs d).1), .int .i64 ((lastE xs d).2)]) ∧ Below w.heap.size w w' := by
  have HRG := Lib.hid (fun W (hW : Below w.heap.size w W) => h.after hW)
  obtain ⟨A, c, b, off, vi, vd, rfl, hA, hc⟩ := h.at_.row
  have HA := Lib.hid hA
  have HC := Lib.hid hc
  have hlen := h.len
  clear h hA hc
  unfold lastE
  by_cases h0 : layE xs = 0
  · have HL := Lib.hid (fun W hW => lay_yes (HRG.out W hW) h0)
    rw [if_neg (by rw [h0]; decide)]
    have HSR := Lib.hid (right_sorted (layE_ok h0).2.1)
    obtain ⟨r, hr⟩ : ∃ r, (if lastS xs d = 0 then ((0 : Int), (6 : Int)) else (lastS xs d, 0)) = r := ⟨_, rfl⟩
    have HR := Lib.hid hr
    rw [hr]
    obtain ⟨r1, r2⟩ := r
    simp only
    clear h0 hr
    refine (callsIn_wide (n := 5)).1 ?_
    refine callsIn_of_wp_marks Try.func21 rfl trivial ?_ rfl
    simp only [Try.ntmps21, List.size_toArray, List.length_cons, List.length_nil, Nat.reduceAdd, Nat.reduceSub, Array.replicate_succ, Array.replicate_zero, List.push_toArray, List.append_toArray, List.nil_append, List.cons_append]
    gi_wp2_with fail
    refine ⟨trivial, (callsIn_wide.2 (HL.out _ (by (repeat' (first | (with_reducible exact Below.refl _ _) | (with_reducible assumption) | (with_reducible refine Below.alloc ?_ ?_ _) | (with_reducible refine Below.setCell ?_ ?_ _) | (with_reducible refine below_row ?_ ?_ _) | (with_reducible refine Below.drew ?_) | (with_reducible refine below_drewN ?_ _) | (with_reducible refine Below.trans ?_ (Below.mono (by assumption) ?_)) | (first | exact Nat.le_refl _ | omega | (simp; done) | (simp; omega) | (exact Below.size (by assumption)))))))).mono ?_⟩
    rintro e w1 ⟨⟨vN, vD, rfl, hN, hD⟩, hb1⟩
    have s1 := hb1.size; try simp only [World.size_alloc, World.size_setCell, World.size_drew, setRow_size] at s1
    obtain ⟨AN, cN, rfl⟩ := hN.slice
    obtain ⟨AD, cD, rfl⟩ := hD.slice
    have hbw : Below w.heap.size w w1 := by (repeat' (first | (with_reducible exact Below.refl _ _) | (with_reducible assumption) | (with_reducible refine Below.alloc ?_ ?_ _) | (with_reducible refine Below.setCell ?_ ?_ _) | (with_reducible refine below_row ?_ ?_ _) | (with_reducible refine Below.drew ?_) | (with_reducible refine below_drewN ?_ _) | (with_reducible refine Below.trans ?_ (Below.mono (by assumption) ?_)) | (first | exact Nat.le_refl _ | omega | (simp; done) | (simp; omega) | (exact Below.size (by assumption)))))
    clear hN hD hb1 HL
    generalize (numbersL xs).length = nn at *
    generalize (chainsL xs (numbersL xs)).length = nc at *
    gi_wp2_with fail
    refine ⟨trivial, (callsIn_wide.2 (issuesOf_any _ _ _ _ _ ⟨A, xs.length, c, rfl⟩)).mono ?_⟩
    rintro e w3 ⟨rfl, rfl⟩
    gi_wp2_with fail
    obtain ⟨wR, hwR⟩ : ∃ W, ((((w1.alloc (.cells #[.slice A xs.length c, .slice AN nn cN, .slice AD nc cD] 118)).alloc (.cells #[.int .i64 0] 3)).alloc (.cells #[.slice A xs.length c, .slice AN nn cN, .slice AD nc cD] 118)).alloc (.cells #[.int .i64 d] 3)) = W := ⟨_, rfl⟩
    have hsR : wR.heap.size = w1.heap.size + 4 := by rw [← hwR]; simp
    have Ml : Lies wR (w1.heap.size + 1) 3 #[.int .i64 0] := by rw [← hwR]; exact ((Lies.new (by simp)).alloc _).alloc _
    have Md : Lies wR (w1.heap.size + 1 + 1) 118 #[.slice A xs.length c, .slice AN nn cN, .slice AD nc cD] := by rw [← hwR]; exact (Lies.new (by simp)).alloc _
    have Mt : Lies wR (w1.heap.size + 1 + 1 + 1) 3 #[.int .i64 d] := by rw [← hwR]; exact Lies.new (by simp)
    have hbR : Below w.heap.size w wR := by rw [← hwR]; (repeat' (first | (with_reducible exact Below.refl _ _) | (with_reducible assumption) | (with_reducible refine Below.alloc ?_ ?_ _) | (with_reducible refine Below.setCell ?_ ?_ _) | (with_reducible refine below_row ?_ ?_ _) | (with_reducible refine Below.drew ?_) | (with_reducible refine below_drewN ?_ _) | (with_reducible refine Below.trans ?_ (Below.mono (by assumption) ?_)) | (first | exact Nat.le_refl _ | omega | (simp; done) | (simp; omega) | (exact Below.size (by assumption)))))
    rw [hwR]
    clear hwR
    have hXb : 0 < xs.length → ¬ (b = w1.heap.size + 1) := fun h => by
      have := World.block_lt_of_cell? w _ (HC.out 0 h).1
      have := hbw.size
      rintro rfl
      exact absurd this (by simp only; omega)
    have hIter := isit_any 4 (by omega) (w1.heap.size + 1 + 1) (w1.heap.size + 1 + 1 + 1) A c b off (.slice AN nn cN) (.slice AD nc cD) xs vi vd d (fun g => g = w1.heap.size + 1) wR hlen HSR.out Md Mt HA.out (HC.out.after hbR) (by show ¬ (_ = _); omega) (by show ¬ (_ = _); omega) hXb
    refine range_own (F := Fence.wide) (X := fun g => g = w1.heap.size + 1) rfl (by omega) (gf := 111) rfl trivial (enters_of Try.func111 (by kernel_rfl) rfl) hIter (Below.refl _ _) (fun _ => rfl)
      (fun pre W => Lies W (w1.heap.size + 1) 3 #[.int .i64 (lastI xs pre)] ∧ Below w.heap.size w W)
      (fun _ _ _ => False) ?_ ?_ ⟨Ml, hbR⟩
      (fun pre x a' W => ∃ B, wR.heap.size ≤ B ∧ a' = { tmps := #[.agg #[.slice A xs.length c], .int .i64 d, .pointer (some ⟨w.heap.size, 0, none⟩), undef, .int .i64 0, .int .i64 0, .pointer (some ⟨w1.heap.size, 0, none⟩), .int .i64 0, .pointer (some ⟨w1.heap.size + 1, 0, none⟩), .pointer (some ⟨B, 0, none⟩), .tuple #[.agg #[.slice A xs.length c, .slice AN nn cN, .slice AD nc cD], .int .i64 0], .agg #[.slice A xs.length c], .tuple #[.agg #[.slice A xs.length c, .slice AN nn cN, .slice AD nc cD], .int .i64 0], .agg #[.slice A xs.length c, .slice AN nn cN, .slice AD nc cD], .int .i64 0, .int .i64 0, .bool false, undef, .agg #[.slice A xs.length c, .slice AN nn cN, .slice AD nc cD], .int .i64 d, .func (.func 111) #[] #[.pointer (some ⟨w1.heap.size + 1 + 1, 0, none⟩), .pointer (some ⟨w1.heap.size + 1 + 1 + 1, 0, none⟩)], .agg #[.int .i64 (xs[x].d), .int .i64 (xs[x].l), .int .u8 (xs[x].k), vi x, vd x], undef, undef, undef, undef, undef], defers := [] } ∧ Lies W B 45 #[.int .i64 (xs[x].d), .int .i64 (xs[x].l), .int .u8 (xs[x].k), vi x, vd x] ∧
        Lies W (w1.heap.size + 1) 3 #[.int .i64 (lastI xs pre)] ∧ Below w.heap.size w W) ?_ ?assign ?body ?done ?stop
    · rintro pre A' B row ⟨i2, i4⟩ hg hr
      exact ⟨i2.turned hg (by omega) hr, i4.grown hg (by have := i4.size; omega) (fun k e => by have := hr k e; have := hbw.size; omega)⟩
    · rintro j pre A' B row h hg hr
      exact h
    · rintro pre x a' W l' o o' ⟨B, hB, rfl, j1, j3, j5⟩ hl' ho hcl
      exact ⟨B, hB, rfl, j1.put o' ho hcl, j3.put o' ho hcl, j5.grown (grown_put o') (by have := j5.size; omega) (fun k e => by injection e with e; have := hbw.size; omega)⟩
    case assign =>
      rintro l' pre x W K ⟨i2, i4⟩ hsW hK
      have HI2 := Lib.hid i2
      have HK := Lib.hid hK
      clear i2 hK
      obtain ⟨e1, e2⟩ := HC.out.slices x.2
      unfold encF
      generalize vi x = v1 at *
      generalize vd x = v2 at *
      obtain ⟨A1, n1, c1, rfl⟩ := e1
      obtain ⟨A2, n2, c2, rfl⟩ := e2
      gi_wp2
      refine HK.out _ _ (KeepsOthers.alloc _ _) ⟨by simp, fun g cs t fr _ e => (Below.heap_alloc _ _ g (Array.getElem?_eq_some_iff.1 e).1).trans e⟩ ⟨W.heap.size, hsW, rfl, Lies.made _ _ _, HI2.out.alloc _, i4.alloc (by have := i4.size; omega) _⟩
    case body =>
      rintro l' pre x a' W ⟨B, hB, rfl, j1, j3, j5⟩ hsW
      have x1 := j1.cell 1
      have q0 := j3.cell 0
      have g0 := j3.free 0
      have z0 := j1.lt
      have z1 := j3.lt
      have J3 := Lib.hid j3
      have HLS := Lib.hid (lastI_snoc xs pre x)
      clear j1 j3
      generalize xs[x].l = lx at *
      gi_wp2
      refine ⟨KeepsOthers.setCell _ _ _, CellsKept.stored (X := fun g => g = w1.heap.size + 1) (CellsKept.refl _ _) rfl 0 _, ?_, j5.setCell (p := ⟨w1.heap.size + 1, 0, none⟩) (by have := hbw.size; show _ ≤ w1.heap.size + 1; omega) _⟩
      rw [HLS.out]
      exact J3.out.store 0 _
    case done =>
      rintro D ks W hD rfl ⟨i3, i4⟩ hK
      have HKK := Lib.hid hK
      have q0 := i3.cell 0
      have z1 := i3.lt
      clear i3 hK
      have hS : lastI xs (idxs xs d) = lastS xs d := rfl
      rw [hS] at q0
      clear hS
      generalize lastS xs d = ls at *
      by_cases hz : ls = 0
      · subst hz
        gi_wp2
        refine ⟨by simp, .inl ⟨_, _, rfl, run_takeDeferred HKK.out, ?_⟩⟩
        have HR2 := HR.out
        simp only [↓reduceIte] at HR2
        injection HR2 with e1 e2
        subst e1 e2
        refine ⟨_, results_tmp2 rfl _ _ _, rfl, ?_⟩
        · exact i4.grown (grown_put _) (by have := i4.size; omega) (fun k e => by injection e with e; have := hbw.size; omega)
      · have hz' : (ls == 0) = false := by rw [beq_eq_false_iff_ne]; exact hz
        have HZ := Lib.hid hz
        clear hz
        gi_wp2
        refine ⟨by simp, .inl ⟨_, _, rfl, run_takeDeferred HKK.out, ?_⟩⟩
        have HR2 := HR.out
        rw [if_neg HZ.out] at HR2
        injection HR2 with e1 e2
        subst e1 e2
        refine ⟨_, results_tmp2 rfl _ _ _, rfl, ?_⟩
        · exact i4.grown (grown_put _) (by have := i4.size; omega) (fun k e => by injection e with e; have := hbw.size; omega)
    case stop =>
      rintro D cd pre W hD hpre h
      exact h.elim
  · have HL := Lib.hid (fun W hW => lay_err (HRG.out W hW) h0)
    rw [if_pos h0]
    have hne : (layE xs == 0) = false := by rw [beq_eq_false_iff_ne]; exact h0
    clear h0
    generalize layE xs = ee at *
    go_enter Try.func21, Try.ntmps21
    go_wp2_with fail
    refine (HL.out _ (by (repeat' (first | (with_reducible exact Below.refl _ _) | (with_reducible assumption) | (with_reducible refine Below.alloc ?_ ?_ _) | (with_reducible refine Below.setCell ?_ ?_ _) | (with_reducible refine below_row ?_ ?_ _) | (with_reducible refine Below.drew ?_) | (with_reducible refine below_drewN ?_ _) | (with_reducible refine Below.trans ?_ (Below.mono (by assumption) ?_)) | (first | exact Nat.le_refl _ | omega | (simp; done) | (simp; omega) | (exact Below.size (by assumption))))))).mono ?_
    rintro e w1 ⟨rfl, hb1⟩
    have s1 := hb1.size; try simp only [World.size_alloc, World.size_setCell, World.size_drew, setRow_size] at s1
    go_wp2
    go_ret2
    exact ⟨rfl, by (repeat' (first | (with_reducible exact Below.refl _ _) | (with_reducible assumption) | (with_reducible refine Below.alloc ?_ ?_ _) | (with_reducible refine Below.setCell ?_ ?_ _) | (with_reducible refine below_row ?_ ?_ _) | (with_reducible refine Below.drew ?_) | (with_reducible refine below_drewN ?_ _) | (with_reducible refine Below.trans ?_ (Below.mono (by assumption) ?_)) | (first | exact Nat.le_refl _ | omega | (simp; done) | (simp; omega) | (exact Below.size (by assumption)))))⟩
end Go.Proofs.Ytngaepgepcnhkaa
