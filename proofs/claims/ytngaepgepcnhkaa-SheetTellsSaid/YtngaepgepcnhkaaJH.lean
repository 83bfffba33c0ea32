/- At. -/
import Derived.Test.YtngaepgepcnhkaaJG
namespace Go.Proofs.Ytngaepgepcnhkaa
set_option linter.unusedVariables false
set_option linter.unusedSimpArgs false
open Go.RowKit

/-- What At tells. -/
def AtP (xs : List Iss) (d l : Int) (w : World) (e : Ending) (w' : World) : Prop :=
  ((layE xs ≠ 0 ∧ e = .returned (.tuple #[zIss, .int .i64 (layE xs)])) ∨ (layE xs = 0 ∧ (∀ k : Fin xs.length, ¬ isN xs d l k) ∧ e = .returned (.tuple #[zIss, .int .i64 6])) ∨
    (layE xs = 0 ∧ ∃ k : Fin xs.length, isN xs d l k ∧ (∀ j : Fin xs.length, j.1 < k.1 → ¬ isN xs d l j) ∧ ∃ v, e = .returned (.tuple #[v, .int .i64 0]) ∧ OwnIss w' w.heap.size v xs[k])) ∧ Below w.heap.size w w'
theorem OwnIss.less {w : World} {base base' : Nat} {v : Value} {x : Iss} (h : OwnIss w base v x) (hb : base' ≤ base) : OwnIss w base' v x := by
  obtain ⟨vi, vd, hv, hk, h1, h2⟩ := h
  exact ⟨vi, vd, hv, hk, own_less h1 hb, own_less h2 hb⟩
set_option maxRecDepth 100000 in
set_option maxHeartbeats 4000000 in
theorem sAt_any {vI : Value} {xs : List Iss} {w : World} (d l : Int) (h : RegAt w vI xs) : Calls Try.prog 26 #[.agg #[vI], .agg #[.int .i64 d, .int .i64 l]] w (AtP xs d l w) := by
  have HRG := Lib.hid (fun W (hW : Below w.heap.size w W) => h.after hW)
  obtain ⟨A, c, b, off, vi, vd, rfl, hA, hc⟩ := h.at_.row
  have HA := Lib.hid hA
  have HC := Lib.hid hc
  have hlen := h.len
  have HSM := Lib.hid h.small
  clear h hA hc
  by_cases h0 : layE xs = 0
  · have HL := Lib.hid (fun W hW => lay_yes (HRG.out W hW) h0)
    have H0 := Lib.hid h0
    have HSR := Lib.hid (right_sorted (layE_ok h0).2.1)
    clear h0
    go_enter Try.func26, Try.ntmps26
    go_wp2_with fail
    refine (HL.out _ (by (repeat' (first | (with_reducible exact Below.refl _ _) | (with_reducible assumption) | (with_reducible refine Below.alloc ?_ ?_ _) | (with_reducible refine Below.setCell ?_ ?_ _) | (with_reducible refine below_row ?_ ?_ _) | (with_reducible refine Below.drew ?_) | (with_reducible refine below_drewN ?_ _) | (with_reducible refine Below.trans ?_ (Below.mono (by assumption) ?_)) | (first | exact Nat.le_refl _ | omega | (simp; done) | (simp; omega) | (exact Below.size (by assumption))))))).mono ?_
    rintro e w1 ⟨⟨vN, vD, rfl, hN, hD⟩, hb1⟩
    have s1 := hb1.size; try simp only [World.size_alloc, World.size_setCell, World.size_drew, setRow_size] at s1
    obtain ⟨AN, cN, rfl⟩ := hN.slice
    obtain ⟨AD, cD, rfl⟩ := hD.slice
    have hbw : Below w.heap.size w w1 := by (repeat' (first | (with_reducible exact Below.refl _ _) | (with_reducible assumption) | (with_reducible refine Below.alloc ?_ ?_ _) | (with_reducible refine Below.setCell ?_ ?_ _) | (with_reducible refine below_row ?_ ?_ _) | (with_reducible refine Below.drew ?_) | (with_reducible refine below_drewN ?_ _) | (with_reducible refine Below.trans ?_ (Below.mono (by assumption) ?_)) | (first | exact Nat.le_refl _ | omega | (simp; done) | (simp; omega) | (exact Below.size (by assumption)))))
    have LF := Lib.hid (((Lies.new (u := w.alloc (.cells #[.slice A xs.length c] 24)) (k := w.heap.size + 1) (t := 26) (cs := #[.int .i64 d, .int .i64 l]) (by simp)).alloc (.cells #[.int .i64 0, .int .i64 0, .int .u8 0, .slice none 0 0, .slice none 0 0] 45)).after hb1)
    have LR := Lib.hid ((Lies.new (u := (w.alloc (.cells #[.slice A xs.length c] 24)).alloc (.cells #[.int .i64 d, .int .i64 l] 26)) (k := w.heap.size + 1 + 1) (t := 45) (cs := #[.int .i64 0, .int .i64 0, .int .u8 0, .slice none 0 0, .slice none 0 0]) (by simp)).after hb1)
    have f0 := LF.out.cell 0
    have f1 := LF.out.cell 1
    have zf := LF.out.lt
    have HF := Lib.hid (find_any A c b off (.slice AN (numbersL xs).length cN) (.slice AD (chainsL xs (numbersL xs)).length cD) xs vi vd d l (w1.alloc (.cells #[.slice A xs.length c, .slice AN (numbersL xs).length cN, .slice AD (chainsL xs (numbersL xs)).length cD] 118)) hlen HSR.out HA.out (HC.out.after (hbw.alloc hbw.size _)))
    clear hN hD hb1 HL
    generalize (numbersL xs).length = nn at *
    generalize (chainsL xs (numbersL xs)).length = nc at *
    go_wp2_with fail
    refine HF.out.mono ?_
    rintro e w2 ⟨⟨k, hk, hfirst, rfl⟩ | ⟨hno, rfl⟩, hb2⟩
    · have s2 := hb2.size; try simp only [World.size_alloc, World.size_setCell, World.size_drew, setRow_size] at s2
      have LR2 := Lib.hid ((LR.out.alloc _).after hb2)
      have hbw2 : Below w.heap.size w w2 := by (repeat' (first | (with_reducible exact Below.refl _ _) | (with_reducible assumption) | (with_reducible refine Below.alloc ?_ ?_ _) | (with_reducible refine Below.setCell ?_ ?_ _) | (with_reducible refine below_row ?_ ?_ _) | (with_reducible refine Below.drew ?_) | (with_reducible refine below_drewN ?_ _) | (with_reducible refine Below.trans ?_ (Below.mono (by assumption) ?_)) | (first | exact Nat.le_refl _ | omega | (simp; done) | (simp; omega) | (exact Below.size (by assumption)))))
      have HK := Lib.hid hk
      have HFI := Lib.hid hfirst
      have hsm := HSM.out xs[k] (List.getElem_mem k.2)
      obtain ⟨-, -, -, -, -, hkk, hit, hdt, hn1, hn2⟩ := (HC.out.after hbw2) k k.2
      have HX : Hid (∀ W, Below w2.heap.size w2 W → Calls Try.prog 70 #[.agg #[.int .i64 (xs[k].d), .int .i64 (xs[k].l), .int .u8 (xs[k].k), vi k, vd k]] W fun e w' => ∃ v, e = .returned v ∧ OwnIss w' W.heap.size v xs[k] ∧ Below W.heap.size W w') :=
        Lib.hid (fun W hW => copied_any xs[k] (vi k) (vd k) W hkk hsm.1 hsm.2 (hit.after hW) (hdt.after hW) hn1 hn2)
      obtain ⟨e1, e2⟩ := HC.out.slices k.2
      clear hk hfirst hb2 f0 f1 zf hkk hit hdt hn1 hn2 hsm HF
      generalize vi k = v1 at *
      generalize vd k = v2 at *
      obtain ⟨A1, n1, c1, rfl⟩ := e1
      obtain ⟨A2, n2, c2, rfl⟩ := e2
      go_wp2_with fail
      refine (HX.out _ (by (repeat' (first | (with_reducible exact Below.refl _ _) | (with_reducible assumption) | (with_reducible refine Below.alloc ?_ ?_ _) | (with_reducible refine Below.setCell ?_ ?_ _) | (with_reducible refine below_row ?_ ?_ _) | (with_reducible refine Below.drew ?_) | (with_reducible refine below_drewN ?_ _) | (with_reducible refine Below.trans ?_ (Below.mono (by assumption) ?_)) | (first | exact Nat.le_refl _ | omega | (simp; done) | (simp; omega) | (exact Below.size (by assumption))))))).mono ?_
      rintro e w3 ⟨v, rfl, hown, hb3⟩
      have s3 := hb3.size; try simp only [World.size_alloc, World.size_setCell, World.size_drew, setRow_size] at s3
      have LR3 := Lib.hid ((LR2.out.alloc _).after hb3)
      have hbw3 : Below w.heap.size w w3 := by (repeat' (first | (with_reducible exact Below.refl _ _) | (with_reducible assumption) | (with_reducible refine Below.alloc ?_ ?_ _) | (with_reducible refine Below.setCell ?_ ?_ _) | (with_reducible refine below_row ?_ ?_ _) | (with_reducible refine Below.drew ?_) | (with_reducible refine below_drewN ?_ _) | (with_reducible refine Below.trans ?_ (Below.mono (by assumption) ?_)) | (first | exact Nat.le_refl _ | omega | (simp; done) | (simp; omega) | (exact Below.size (by assumption)))))
      obtain ⟨vi', vd', rfl, hkk, ho1, ho2⟩ := hown
      have HO1 := Lib.hid (own_less (base' := w.heap.size) ho1 (by simp; have := hbw2.size; omega))
      have HO2 := Lib.hid (own_less (base' := w.heap.size) ho2 (by simp; have := hbw2.size; omega))
      obtain ⟨A3, c3, g3, rfl, -⟩ := own_form ho1
      obtain ⟨A4, c4, g4, rfl, -⟩ := own_form ho2
      have y0 := LR3.out.cell 0
      have y1 := LR3.out.cell 1
      have y2 := LR3.out.cell 2
      have y3 := LR3.out.cell 3
      have y4 := LR3.out.cell 4
      have m0 := LR3.out.free 0
      have m1 := LR3.out.free 1
      have m2 := LR3.out.free 2
      have m3 := LR3.out.free 3
      have m4 := LR3.out.free 4
      have zr := LR3.out.lt
      clear ho1 ho2 hb3 HX
      go_wp2_with fail
      have LF5 := LR3.out.five (.int .i64 (xs[k].d)) (.int .i64 (xs[k].l)) (.int .u8 (xs[k].k)) (.slice A3 xs[k].items.length c3) (.slice A4 xs[k].dims.length c4)
      refine bodyPost_ret (results_cell_tmp rfl _ _ (w.heap.size + 1 + 1) _ _ _ _ rfl rfl LF5 Try.underlying45 rfl (by kernel_rfl)) rfl ⟨.inr (.inr ⟨H0.out, k, HK.out, HFI.out, _, rfl, _, _, rfl, hkk, own_five HO1.out LR3.out (by decide) _ _ _ _ _, own_five HO2.out LR3.out (by decide) _ _ _ _ _⟩), below_five hbw3 (by omega) _ _ _ _ _⟩
    · have s2 := hb2.size; try simp only [World.size_alloc, World.size_setCell, World.size_drew, setRow_size] at s2
      have LR2 := Lib.hid ((LR.out.alloc _).after hb2)
      have hbw2 : Below w.heap.size w w2 := by (repeat' (first | (with_reducible exact Below.refl _ _) | (with_reducible assumption) | (with_reducible refine Below.alloc ?_ ?_ _) | (with_reducible refine Below.setCell ?_ ?_ _) | (with_reducible refine below_row ?_ ?_ _) | (with_reducible refine Below.drew ?_) | (with_reducible refine below_drewN ?_ _) | (with_reducible refine Below.trans ?_ (Below.mono (by assumption) ?_)) | (first | exact Nat.le_refl _ | omega | (simp; done) | (simp; omega) | (exact Below.size (by assumption)))))
      have HNO := Lib.hid hno
      have y0 := LR2.out.cell 0
      have y1 := LR2.out.cell 1
      have y2 := LR2.out.cell 2
      have y3 := LR2.out.cell 3
      have y4 := LR2.out.cell 4
      have m0 := LR2.out.free 0
      have m1 := LR2.out.free 1
      have m2 := LR2.out.free 2
      have m3 := LR2.out.free 3
      have m4 := LR2.out.free 4
      have zr := LR2.out.lt
      clear hno hb2 f0 f1 zf HF
      go_wp2_with fail
      refine bodyPost_ret (results_cell_tmp rfl _ _ (w.heap.size + 1 + 1) _ _ _ _ rfl rfl ((LR2.out.five (.int .i64 0) (.int .i64 0) (.int .u8 0) (.slice none 0 0) (.slice none 0 0)).alloc _) Try.underlying45 rfl (by kernel_rfl)) rfl ⟨.inr (.inl ⟨H0.out, HNO.out, rfl⟩), by (repeat' (first | (with_reducible exact Below.refl _ _) | (with_reducible assumption) | (with_reducible refine Below.alloc ?_ ?_ _) | (with_reducible refine Below.setCell ?_ ?_ _) | (with_reducible refine below_row ?_ ?_ _) | (with_reducible refine Below.drew ?_) | (with_reducible refine below_drewN ?_ _) | (with_reducible refine Below.trans ?_ (Below.mono (by assumption) ?_)) | (first | exact Nat.le_refl _ | omega | (simp; done) | (simp; omega) | (exact Below.size (by assumption)))))⟩
  · have HL := Lib.hid (fun W hW => lay_err (HRG.out W hW) h0)
    have H0 := Lib.hid h0
    have hne : (layE xs == 0) = false := by rw [beq_eq_false_iff_ne]; exact h0
    have HAT : Hid (∀ e w', e = .returned (.tuple #[zIss, .int .i64 (layE xs)]) → Below w.heap.size w w' → AtP xs d l w e w') := Lib.hid (fun e w' he hb => ⟨.inl ⟨h0, he⟩, hb⟩)
    clear h0
    generalize AtP xs d l w = AP at *
    generalize layE xs = ee at *
    go_enter Try.func26, Try.ntmps26
    go_wp2_with fail
    refine (HL.out _ (by (repeat' (first | (with_reducible exact Below.refl _ _) | (with_reducible assumption) | (with_reducible refine Below.alloc ?_ ?_ _) | (with_reducible refine Below.setCell ?_ ?_ _) | (with_reducible refine below_row ?_ ?_ _) | (with_reducible refine Below.drew ?_) | (with_reducible refine below_drewN ?_ _) | (with_reducible refine Below.trans ?_ (Below.mono (by assumption) ?_)) | (first | exact Nat.le_refl _ | omega | (simp; done) | (simp; omega) | (exact Below.size (by assumption))))))).mono ?_
    rintro e w1 ⟨rfl, hb1⟩
    have s1 := hb1.size; try simp only [World.size_alloc, World.size_setCell, World.size_drew, setRow_size] at s1
    have hbw : Below w.heap.size w w1 := by (repeat' (first | (with_reducible exact Below.refl _ _) | (with_reducible assumption) | (with_reducible refine Below.alloc ?_ ?_ _) | (with_reducible refine Below.setCell ?_ ?_ _) | (with_reducible refine below_row ?_ ?_ _) | (with_reducible refine Below.drew ?_) | (with_reducible refine below_drewN ?_ _) | (with_reducible refine Below.trans ?_ (Below.mono (by assumption) ?_)) | (first | exact Nat.le_refl _ | omega | (simp; done) | (simp; omega) | (exact Below.size (by assumption)))))
    have LR := Lib.hid ((Lies.new (u := (w.alloc (.cells #[.slice A xs.length c] 24)).alloc (.cells #[.int .i64 d, .int .i64 l] 26)) (k := w.heap.size + 1 + 1) (t := 45) (cs := #[.int .i64 0, .int .i64 0, .int .u8 0, .slice none 0 0, .slice none 0 0]) (by simp)).after hb1)
    have y0 := LR.out.cell 0
    have y1 := LR.out.cell 1
    have y2 := LR.out.cell 2
    have y3 := LR.out.cell 3
    have y4 := LR.out.cell 4
    have m0 := LR.out.free 0
    have m1 := LR.out.free 1
    have m2 := LR.out.free 2
    have m3 := LR.out.free 3
    have m4 := LR.out.free 4
    have zr := LR.out.lt
    clear hb1 HL
    go_wp2_with fail
    refine bodyPost_ret (results_cell_tmp rfl _ _ (w.heap.size + 1 + 1) _ _ _ _ rfl rfl ((LR.out.five (.int .i64 0) (.int .i64 0) (.int .u8 0) (.slice none 0 0) (.slice none 0 0)).alloc _) Try.underlying45 rfl (by kernel_rfl)) rfl (HAT.out _ _ rfl (by (repeat' (first | (with_reducible exact Below.refl _ _) | (with_reducible assumption) | (with_reducible refine Below.alloc ?_ ?_ _) | (with_reducible refine Below.setCell ?_ ?_ _) | (with_reducible refine below_row ?_ ?_ _) | (with_reducible refine Below.drew ?_) | (with_reducible refine below_drewN ?_ _) | (with_reducible refine Below.trans ?_ (Below.mono (by assumption) ?_)) | (first | exact Nat.le_refl _ | omega | (simp; done) | (simp; omega) | (exact Below.size (by assumption)))))))
end Go.Proofs.Ytngaepgepcnhkaa
