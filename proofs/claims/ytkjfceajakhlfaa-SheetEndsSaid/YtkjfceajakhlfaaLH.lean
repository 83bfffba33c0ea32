/- JH: At. K21: The reference: At. K22: The reference: Twin. K23: What At tells, and its uniqueness. -/
import Derived.Test.YtkjfceajakhlfaaLF
import Derived.Test.YtkjfceajakhlfaaLG
import Derived.Test.YtkjfceajakhlfaaK20
import Derived.Deep.RegionLaw
namespace Go.Proofs.Ytkjfceajakhlfaa
set_option linter.unusedVariables false
set_option linter.unusedSimpArgs false
section
open Go.RowKit

/-- What At tells. -/
def AtP (xs : List Iss) (d l : Int) (w : World) (e : Ending) (w' : World) : Prop :=
  ((layE xs ≠ 0 ∧ e = .returned (.tuple #[zIss, .int .i64 (layE xs)])) ∨ (layE xs = 0 ∧ (∀ k : Fin xs.length, ¬ isN xs d l k) ∧ e = .returned (.tuple #[zIss, .int .i64 6])) ∨
    (layE xs = 0 ∧ ∃ k : Fin xs.length, isN xs d l k ∧ (∀ j : Fin xs.length, j.1 < k.1 → ¬ isN xs d l j) ∧ ∃ v, e = .returned (.tuple #[v, .int .i64 0]) ∧ OwnIss w' w.heap.size v xs[k])) ∧ Below w.heap.size w w'
theorem OwnIss.less {w : World} {base base' : Nat} {v : Value} {x : Iss} (h : OwnIss w base v x) (hb : base' ≤ base) : OwnIss w base' v x := by
  obtain ⟨vi, vd, hv, hk, h1, h2⟩ := h
  exact ⟨vi, vd, hv, hk, own_less h1 hb, own_less h2 hb⟩
set_option maxRecDepth 100000 in
set_option maxHeartbeats 4000000 in
theorem sAt_any {vI : Value} {xs : List Iss} {w : World} (d l : Int) (h : RegAt w vI xs) : Calls Try.prog 26 #[.agg #[vI], .agg #[.int .i64 d, .int .i64 l]] w (AtP xs d l w) := by
  have HRG := Lib.hid (fun W (hW : Below w.heap.size w W) => h.after hW)
  obtain ⟨A, c, b, off, vi, vd, rfl, hA, hc⟩ := h.at_.row
  have HA := Lib.hid hA
  have HC := Lib.hid hc
  have hlen := h.len
  have HSM := Lib.hid h.small
  clear h hA hc
  by_cases h0 : layE xs = 0
  · have HL := Lib.hid (fun W hW => lay_yes (HRG.out W hW) h0)
    have H0 := Lib.hid h0
    have HSR := Lib.hid (right_sorted (layE_ok h0).2.1)
    clear h0
    go_enter Try.func26, Try.ntmps26
    go_wp2_with fail
    refine (HL.out _ (by (repeat' (first | (with_reducible first | exact Below.refl _ _ | assumption | refine Below.alloc ?_ ?_ _ | refine Below.setCell ?_ ?_ _ | refine below_row ?_ ?_ _ | refine Below.drew ?_ | refine below_drewN ?_ _ | refine Below.trans ?_ (Below.mono (by assumption) ?_)) | exact Nat.le_refl _ | omega | (simp; done) | (simp; omega) | exact Below.size (by assumption))))).mono ?_
    rintro e w1 ⟨⟨vN, vD, rfl, hN, hD⟩, hb1⟩
    have s1 := hb1.size; try simp only [World.size_alloc, World.size_setCell, World.size_drew, setRow_size] at s1
    obtain ⟨AN, cN, rfl⟩ := hN.slice
    obtain ⟨AD, cD, rfl⟩ := hD.slice
    have hbw : Below w.heap.size w w1 := by (repeat' (first | (with_reducible first | exact Below.refl _ _ | assumption | refine Below.alloc ?_ ?_ _ | refine Below.setCell ?_ ?_ _ | refine below_row ?_ ?_ _ | refine Below.drew ?_ | refine below_drewN ?_ _ | refine Below.trans ?_ (Below.mono (by assumption) ?_)) | exact Nat.le_refl _ | omega | (simp; done) | (simp; omega) | exact Below.size (by assumption)))
    have LF := Lib.hid (((Lies.new (u := w.alloc (.cells #[.slice A xs.length c] 24)) (k := w.heap.size + 1) (t := 26) (cs := #[.int .i64 d, .int .i64 l]) (by simp)).alloc (.cells #[.int .i64 0, .int .i64 0, .int .u8 0, .slice none 0 0, .slice none 0 0] 45)).after hb1)
    have LR := Lib.hid ((Lies.new (u := (w.alloc (.cells #[.slice A xs.length c] 24)).alloc (.cells #[.int .i64 d, .int .i64 l] 26)) (k := w.heap.size + 1 + 1) (t := 45) (cs := #[.int .i64 0, .int .i64 0, .int .u8 0, .slice none 0 0, .slice none 0 0]) (by simp)).after hb1)
    have f0 := LF.out.cell 0
    have f1 := LF.out.cell 1
    have zf := LF.out.lt
    have HF := Lib.hid (find_any A c b off (.slice AN (numbersL xs).length cN) (.slice AD (chainsL xs (numbersL xs)).length cD) xs vi vd d l (w1.alloc (.cells #[.slice A xs.length c, .slice AN (numbersL xs).length cN, .slice AD (chainsL xs (numbersL xs)).length cD] 118)) hlen HSR.out HA.out (HC.out.after (hbw.alloc hbw.size _)))
    clear hN hD hb1 HL
    generalize (numbersL xs).length = nn at *
    generalize (chainsL xs (numbersL xs)).length = nc at *
    go_wp2_with fail
    refine HF.out.mono ?_
    rintro e w2 ⟨⟨k, hk, hfirst, rfl⟩ | ⟨hno, rfl⟩, hb2⟩
    · have s2 := hb2.size; try simp only [World.size_alloc, World.size_setCell, World.size_drew, setRow_size] at s2
      have LR2 := Lib.hid ((LR.out.alloc _).after hb2)
      have hbw2 : Below w.heap.size w w2 := by (repeat' (first | (with_reducible first | exact Below.refl _ _ | assumption | refine Below.alloc ?_ ?_ _ | refine Below.setCell ?_ ?_ _ | refine below_row ?_ ?_ _ | refine Below.drew ?_ | refine below_drewN ?_ _ | refine Below.trans ?_ (Below.mono (by assumption) ?_)) | exact Nat.le_refl _ | omega | (simp; done) | (simp; omega) | exact Below.size (by assumption)))
      have HK := Lib.hid hk
      have HFI := Lib.hid hfirst
      have hsm := HSM.out xs[k] (List.getElem_mem k.2)
      obtain ⟨-, -, -, -, -, hkk, hit, hdt, hn1, hn2⟩ := (HC.out.after hbw2) k k.2
      have HX : Hid (∀ W, Below w2.heap.size w2 W → Calls Try.prog 70 #[.agg #[.int .i64 (xs[k].d), .int .i64 (xs[k].l), .int .u8 (xs[k].k), vi k, vd k]] W fun e w' => ∃ v, e = .returned v ∧ OwnIss w' W.heap.size v xs[k] ∧ Below W.heap.size W w') :=
        Lib.hid (fun W hW => copied_any xs[k] (vi k) (vd k) W hkk hsm.1 hsm.2 (hit.after hW) (hdt.after hW) hn1 hn2)
      obtain ⟨e1, e2⟩ := HC.out.slices k.2
      clear hk hfirst hb2 f0 f1 zf hkk hit hdt hn1 hn2 hsm HF
      generalize vi k = v1 at *
      generalize vd k = v2 at *
      obtain ⟨A1, n1, c1, rfl⟩ := e1
      obtain ⟨A2, n2, c2, rfl⟩ := e2
      go_wp2_with fail
      refine (HX.out _ (by (repeat' (first | (with_reducible first | exact Below.refl _ _ | assumption | refine Below.alloc ?_ ?_ _ | refine Below.setCell ?_ ?_ _ | refine below_row ?_ ?_ _ | refine Below.drew ?_ | refine below_drewN ?_ _ | refine Below.trans ?_ (Below.mono (by assumption) ?_)) | exact Nat.le_refl _ | omega | (simp; done) | (simp; omega) | exact Below.size (by assumption))))).mono ?_
      rintro e w3 ⟨v, rfl, hown, hb3⟩
      have s3 := hb3.size; try simp only [World.size_alloc, World.size_setCell, World.size_drew, setRow_size] at s3
      have LR3 := Lib.hid ((LR2.out.alloc _).after hb3)
      have hbw3 : Below w.heap.size w w3 := by (repeat' (first | (with_reducible first | exact Below.refl _ _ | assumption | refine Below.alloc ?_ ?_ _ | refine Below.setCell ?_ ?_ _ | refine below_row ?_ ?_ _ | refine Below.drew ?_ | refine below_drewN ?_ _ | refine Below.trans ?_ (Below.mono (by assumption) ?_)) | exact Nat.le_refl _ | omega | (simp; done) | (simp; omega) | exact Below.size (by assumption)))
      obtain ⟨vi', vd', rfl, hkk, ho1, ho2⟩ := hown
      have HO1 := Lib.hid (own_less (base' := w.heap.size) ho1 (by simp; have := hbw2.size; omega))
      have HO2 := Lib.hid (own_less (base' := w.heap.size) ho2 (by simp; have := hbw2.size; omega))
      obtain ⟨A3, c3, g3, rfl, -⟩ := own_form ho1
      obtain ⟨A4, c4, g4, rfl, -⟩ := own_form ho2
      have y0 := LR3.out.cell 0
      have y1 := LR3.out.cell 1
      have y2 := LR3.out.cell 2
      have y3 := LR3.out.cell 3
      have y4 := LR3.out.cell 4
      have m0 := LR3.out.free 0
      have m1 := LR3.out.free 1
      have m2 := LR3.out.free 2
      have m3 := LR3.out.free 3
      have m4 := LR3.out.free 4
      have zr := LR3.out.lt
      clear ho1 ho2 hb3 HX
      go_wp2_with fail
      have LF5 := LR3.out.five (.int .i64 (xs[k].d)) (.int .i64 (xs[k].l)) (.int .u8 (xs[k].k)) (.slice A3 xs[k].items.length c3) (.slice A4 xs[k].dims.length c4)
      refine bodyPost_ret (results_cell_tmp rfl _ _ (w.heap.size + 1 + 1) _ _ _ _ rfl rfl LF5 Try.underlying45 rfl (by kernel_rfl)) rfl ⟨.inr (.inr ⟨H0.out, k, HK.out, HFI.out, _, rfl, _, _, rfl, hkk, own_five HO1.out LR3.out (by decide) _ _ _ _ _, own_five HO2.out LR3.out (by decide) _ _ _ _ _⟩), below_five hbw3 (by omega) _ _ _ _ _⟩
    · have s2 := hb2.size; try simp only [World.size_alloc, World.size_setCell, World.size_drew, setRow_size] at s2
      have LR2 := Lib.hid ((LR.out.alloc _).after hb2)
      have hbw2 : Below w.heap.size w w2 := by (repeat' (first | (with_reducible first | exact Below.refl _ _ | assumption | refine Below.alloc ?_ ?_ _ | refine Below.setCell ?_ ?_ _ | refine below_row ?_ ?_ _ | refine Below.drew ?_ | refine below_drewN ?_ _ | refine Below.trans ?_ (Below.mono (by assumption) ?_)) | exact Nat.le_refl _ | omega | (simp; done) | (simp; omega) | exact Below.size (by assumption)))
      have HNO := Lib.hid hno
      have y0 := LR2.out.cell 0
      have y1 := LR2.out.cell 1
      have y2 := LR2.out.cell 2
      have y3 := LR2.out.cell 3
      have y4 := LR2.out.cell 4
      have m0 := LR2.out.free 0
      have m1 := LR2.out.free 1
      have m2 := LR2.out.free 2
      have m3 := LR2.out.free 3
      have m4 := LR2.out.free 4
      have zr := LR2.out.lt
      clear hno hb2 f0 f1 zf HF
      go_wp2_with fail
      refine bodyPost_ret (results_cell_tmp rfl _ _ (w.heap.size + 1 + 1) _ _ _ _ rfl rfl ((LR2.out.five (.int .i64 0) (.int .i64 0) (.int .u8 0) (.slice none 0 0) (.slice none 0 0)).alloc _) Try.underlying45 rfl (by kernel_rfl)) rfl ⟨.inr (.inl ⟨H0.out, HNO.out, rfl⟩), by (repeat' (first | (with_reducible first | exact Below.refl _ _ | assumption | refine Below.alloc ?_ ?_ _ | refine Below.setCell ?_ ?_ _ | refine below_row ?_ ?_ _ | refine Below.drew ?_ | refine below_drewN ?_ _ | refine Below.trans ?_ (Below.mono (by assumption) ?_)) | exact Nat.le_refl _ | omega | (simp; done) | (simp; omega) | exact Below.size (by assumption)))⟩
  · have HL := Lib.hid (fun W hW => lay_err (HRG.out W hW) h0)
    have H0 := Lib.hid h0
    have hne : (layE xs == 0) = false := by rw [beq_eq_false_iff_ne]; exact h0
    have HAT : Hid (∀ e w', e = .returned (.tuple #[zIss, .int .i64 (layE xs)]) → Below w.heap.size w w' → AtP xs d l w e w') := Lib.hid (fun e w' he hb => ⟨.inl ⟨h0, he⟩, hb⟩)
    clear h0
    generalize AtP xs d l w = AP at *
    generalize layE xs = ee at *
    go_enter Try.func26, Try.ntmps26
    go_wp2_with fail
    refine (HL.out _ (by (repeat' (first | (with_reducible first | exact Below.refl _ _ | assumption | refine Below.alloc ?_ ?_ _ | refine Below.setCell ?_ ?_ _ | refine below_row ?_ ?_ _ | refine Below.drew ?_ | refine below_drewN ?_ _ | refine Below.trans ?_ (Below.mono (by assumption) ?_)) | exact Nat.le_refl _ | omega | (simp; done) | (simp; omega) | exact Below.size (by assumption))))).mono ?_
    rintro e w1 ⟨rfl, hb1⟩
    have s1 := hb1.size; try simp only [World.size_alloc, World.size_setCell, World.size_drew, setRow_size] at s1
    have hbw : Below w.heap.size w w1 := by (repeat' (first | (with_reducible first | exact Below.refl _ _ | assumption | refine Below.alloc ?_ ?_ _ | refine Below.setCell ?_ ?_ _ | refine below_row ?_ ?_ _ | refine Below.drew ?_ | refine below_drewN ?_ _ | refine Below.trans ?_ (Below.mono (by assumption) ?_)) | exact Nat.le_refl _ | omega | (simp; done) | (simp; omega) | exact Below.size (by assumption)))
    have LR := Lib.hid ((Lies.new (u := (w.alloc (.cells #[.slice A xs.length c] 24)).alloc (.cells #[.int .i64 d, .int .i64 l] 26)) (k := w.heap.size + 1 + 1) (t := 45) (cs := #[.int .i64 0, .int .i64 0, .int .u8 0, .slice none 0 0, .slice none 0 0]) (by simp)).after hb1)
    have y0 := LR.out.cell 0
    have y1 := LR.out.cell 1
    have y2 := LR.out.cell 2
    have y3 := LR.out.cell 3
    have y4 := LR.out.cell 4
    have m0 := LR.out.free 0
    have m1 := LR.out.free 1
    have m2 := LR.out.free 2
    have m3 := LR.out.free 3
    have m4 := LR.out.free 4
    have zr := LR.out.lt
    clear hb1 HL
    go_wp2_with fail
    refine bodyPost_ret (results_cell_tmp rfl _ _ (w.heap.size + 1 + 1) _ _ _ _ rfl rfl ((LR.out.five (.int .i64 0) (.int .i64 0) (.int .u8 0) (.slice none 0 0) (.slice none 0 0)).alloc _) Try.underlying45 rfl (by kernel_rfl)) rfl (HAT.out _ _ rfl (by (repeat' (first | (with_reducible first | exact Below.refl _ _ | assumption | refine Below.alloc ?_ ?_ _ | refine Below.setCell ?_ ?_ _ | refine below_row ?_ ?_ _ | refine Below.drew ?_ | refine below_drewN ?_ _ | refine Below.trans ?_ (Below.mono (by assumption) ?_)) | exact Nat.le_refl _ | omega | (simp; done) | (simp; omega) | exact Below.size (by assumption)))))
end
section
open Go.RowKit

theorem rTwin_v {xs : List Iss} {w : World} {b off : Nat} {vi vd : Nat → Value} (hc : IssRow w b off xs vi vd) (hs : ∀ x ∈ xs, x.items.length ≤ 1000 ∧ x.dims.length ≤ 1000) (k : Nat) (hk : k < xs.length) : ∀ W, Below w.heap.size w W → Calls Try.prog 64 #[.agg #[.int .i64 (xs[k].d), .int .i64 (xs[k].l), .int .u8 (xs[k].k), vi k, vd k]] W fun e w' => ∃ v, e = .returned v ∧ OwnIss w' W.heap.size v xs[k] ∧ Below W.heap.size W w' := by
  intro W hW
  obtain ⟨-, -, -, -, -, hkk, hit, hdt, hn1, hn2⟩ := hc k hk
  exact rTwinIssue_any xs[k] (vi k) (vd k) W hkk (hs _ (List.getElem_mem hk)).1 (hs _ (List.getElem_mem hk)).2 (hit.after hW) (hdt.after hW) hn1 hn2
set_option maxRecDepth 100000 in
set_option maxHeartbeats 4000000 in
theorem rAt_any {vI : Value} {xs : List Iss} {w : World} (d l : Int) (h : RegAt w vI xs) : Calls Try.prog 27 #[.agg #[vI], .agg #[.int .i64 d, .int .i64 l]] w (AtP xs d l w) := by
  have HCK := Lib.hid (fun W (hW : Below w.heap.size w W) => rCheck_any (h.after hW))
  obtain ⟨A, c, b, off, vi, vd, rfl, hA, hc⟩ := h.at_.row
  have HFD := Lib.hid (fun W (hW : Below w.heap.size w W) => rFind_any A c b off xs vi vd d l W h.len hA (hc.after hW))
  have HTW := Lib.hid (rTwin_v hc h.small)
  have HC := Lib.hid hc
  clear h hA hc
  by_cases h0 : layE xs = 0
  · have H0 := Lib.hid h0
    rw [h0] at HCK
    clear h0
    go_enter Try.func27, Try.ntmps27
    go_wp2_with fail
    refine (HCK.out _ (by (repeat' (first | (with_reducible first | exact Below.refl _ _ | assumption | refine Below.alloc ?_ ?_ _ | refine Below.setCell ?_ ?_ _ | refine below_row ?_ ?_ _ | refine Below.drew ?_ | refine below_drewN ?_ _ | refine Below.trans ?_ (Below.mono (by assumption) ?_)) | exact Nat.le_refl _ | omega | (simp; done) | (simp; omega) | exact Below.size (by assumption))))).mono ?_
    rintro e w1 ⟨rfl, hb1⟩
    have s1 := hb1.size; try simp only [World.size_alloc, World.size_setCell, World.size_drew, setRow_size] at s1
    have hbw : Below w.heap.size w w1 := by (repeat' (first | (with_reducible first | exact Below.refl _ _ | assumption | refine Below.alloc ?_ ?_ _ | refine Below.setCell ?_ ?_ _ | refine below_row ?_ ?_ _ | refine Below.drew ?_ | refine below_drewN ?_ _ | refine Below.trans ?_ (Below.mono (by assumption) ?_)) | exact Nat.le_refl _ | omega | (simp; done) | (simp; omega) | exact Below.size (by assumption)))
    have LF := Lib.hid (((Lies.new (u := w.alloc (.cells #[.slice A xs.length c] 24)) (k := w.heap.size + 1) (t := 26) (cs := #[.int .i64 d, .int .i64 l]) (by simp)).alloc (.cells #[.int .i64 0, .int .i64 0, .int .u8 0, .slice none 0 0, .slice none 0 0] 45)).after hb1)
    have LR := Lib.hid ((Lies.new (u := (w.alloc (.cells #[.slice A xs.length c] 24)).alloc (.cells #[.int .i64 d, .int .i64 l] 26)) (k := w.heap.size + 1 + 1) (t := 45) (cs := #[.int .i64 0, .int .i64 0, .int .u8 0, .slice none 0 0, .slice none 0 0]) (by simp)).after hb1)
    have LD := Lib.hid ((((Lies.made w 24 #[.slice A xs.length c]).alloc (.cells #[.int .i64 d, .int .i64 l] 26)).alloc (.cells #[.int .i64 0, .int .i64 0, .int .u8 0, .slice none 0 0, .slice none 0 0] 45)).after hb1)
    have f0 := LF.out.cell 0
    have f1 := LF.out.cell 1
    have zf := LF.out.lt
    have d0 := LD.out.cell 0
    have zd := LD.out.lt
    clear hb1 HCK
    go_wp2_with fail
    refine (HFD.out _ (by (repeat' (first | (with_reducible first | exact Below.refl _ _ | assumption | refine Below.alloc ?_ ?_ _ | refine Below.setCell ?_ ?_ _ | refine below_row ?_ ?_ _ | refine Below.drew ?_ | refine below_drewN ?_ _ | refine Below.trans ?_ (Below.mono (by assumption) ?_)) | exact Nat.le_refl _ | omega | (simp; done) | (simp; omega) | exact Below.size (by assumption))))).mono ?_
    rintro e w2 ⟨⟨k, hk, hfirst, rfl⟩ | ⟨hno, rfl⟩, hb2⟩
    · have s2 := hb2.size; try simp only [World.size_alloc, World.size_setCell, World.size_drew, setRow_size] at s2
      have LR2 := Lib.hid (LR.out.after hb2)
      have hbw2 : Below w.heap.size w w2 := by (repeat' (first | (with_reducible first | exact Below.refl _ _ | assumption | refine Below.alloc ?_ ?_ _ | refine Below.setCell ?_ ?_ _ | refine below_row ?_ ?_ _ | refine Below.drew ?_ | refine below_drewN ?_ _ | refine Below.trans ?_ (Below.mono (by assumption) ?_)) | exact Nat.le_refl _ | omega | (simp; done) | (simp; omega) | exact Below.size (by assumption)))
      have HK := Lib.hid hk
      have HFI := Lib.hid hfirst
      have hkk := (HC.out k k.2).2.2.2.2.2.1
      have HX := Lib.hid (HTW.out k k.2)
      obtain ⟨e1, e2⟩ := HC.out.slices k.2
      clear hk hfirst hb2 f0 f1 zf d0 zd HFD
      generalize vi k = v1 at *
      generalize vd k = v2 at *
      obtain ⟨A1, n1, c1, rfl⟩ := e1
      obtain ⟨A2, n2, c2, rfl⟩ := e2
      go_wp2_with fail
      refine (HX.out _ (by (repeat' (first | (with_reducible first | exact Below.refl _ _ | assumption | refine Below.alloc ?_ ?_ _ | refine Below.setCell ?_ ?_ _ | refine below_row ?_ ?_ _ | refine Below.drew ?_ | refine below_drewN ?_ _ | refine Below.trans ?_ (Below.mono (by assumption) ?_)) | exact Nat.le_refl _ | omega | (simp; done) | (simp; omega) | exact Below.size (by assumption))))).mono ?_
      rintro e w3 ⟨v, rfl, hown, hb3⟩
      have s3 := hb3.size; try simp only [World.size_alloc, World.size_setCell, World.size_drew, setRow_size] at s3
      have LR3 := Lib.hid ((LR2.out.alloc _).after hb3)
      have hbw3 : Below w.heap.size w w3 := by (repeat' (first | (with_reducible first | exact Below.refl _ _ | assumption | refine Below.alloc ?_ ?_ _ | refine Below.setCell ?_ ?_ _ | refine below_row ?_ ?_ _ | refine Below.drew ?_ | refine below_drewN ?_ _ | refine Below.trans ?_ (Below.mono (by assumption) ?_)) | exact Nat.le_refl _ | omega | (simp; done) | (simp; omega) | exact Below.size (by assumption)))
      obtain ⟨vi', vd', rfl, -, ho1, ho2⟩ := hown
      have HO1 := Lib.hid (own_less (base' := w.heap.size) ho1 (by simp; have := hbw2.size; omega))
      have HO2 := Lib.hid (own_less (base' := w.heap.size) ho2 (by simp; have := hbw2.size; omega))
      obtain ⟨A3, c3, g3, rfl, -⟩ := own_form ho1
      obtain ⟨A4, c4, g4, rfl, -⟩ := own_form ho2
      have y0 := LR3.out.cell 0
      have y1 := LR3.out.cell 1
      have y2 := LR3.out.cell 2
      have y3 := LR3.out.cell 3
      have y4 := LR3.out.cell 4
      have m0 := LR3.out.free 0
      have m1 := LR3.out.free 1
      have m2 := LR3.out.free 2
      have m3 := LR3.out.free 3
      have m4 := LR3.out.free 4
      have zr := LR3.out.lt
      clear ho1 ho2 hb3 HX
      go_wp2_with fail
      have LF5 := LR3.out.five (.int .i64 (xs[k].d)) (.int .i64 (xs[k].l)) (.int .u8 (xs[k].k)) (.slice A3 xs[k].items.length c3) (.slice A4 xs[k].dims.length c4)
      refine bodyPost_ret (results_cell_tmp rfl _ _ (w.heap.size + 1 + 1) _ _ _ _ rfl rfl LF5 Try.underlying45 rfl (by kernel_rfl)) rfl ⟨.inr (.inr ⟨H0.out, k, HK.out, HFI.out, _, rfl, _, _, rfl, hkk, own_five HO1.out LR3.out (by decide) _ _ _ _ _, own_five HO2.out LR3.out (by decide) _ _ _ _ _⟩), below_five hbw3 (by omega) _ _ _ _ _⟩
    · have s2 := hb2.size; try simp only [World.size_alloc, World.size_setCell, World.size_drew, setRow_size] at s2
      have LR2 := Lib.hid (LR.out.after hb2)
      have hbw2 : Below w.heap.size w w2 := by (repeat' (first | (with_reducible first | exact Below.refl _ _ | assumption | refine Below.alloc ?_ ?_ _ | refine Below.setCell ?_ ?_ _ | refine below_row ?_ ?_ _ | refine Below.drew ?_ | refine below_drewN ?_ _ | refine Below.trans ?_ (Below.mono (by assumption) ?_)) | exact Nat.le_refl _ | omega | (simp; done) | (simp; omega) | exact Below.size (by assumption)))
      have HNO := Lib.hid hno
      have y0 := LR2.out.cell 0
      have y1 := LR2.out.cell 1
      have y2 := LR2.out.cell 2
      have y3 := LR2.out.cell 3
      have y4 := LR2.out.cell 4
      have m0 := LR2.out.free 0
      have m1 := LR2.out.free 1
      have m2 := LR2.out.free 2
      have m3 := LR2.out.free 3
      have m4 := LR2.out.free 4
      have zr := LR2.out.lt
      clear hno hb2 f0 f1 zf d0 zd HFD
      go_wp2_with fail
      refine bodyPost_ret (results_cell_tmp rfl _ _ (w.heap.size + 1 + 1) _ _ _ _ rfl rfl ((LR2.out.five (.int .i64 0) (.int .i64 0) (.int .u8 0) (.slice none 0 0) (.slice none 0 0)).alloc _) Try.underlying45 rfl (by kernel_rfl)) rfl ⟨.inr (.inl ⟨H0.out, HNO.out, rfl⟩), by (repeat' (first | (with_reducible first | exact Below.refl _ _ | assumption | refine Below.alloc ?_ ?_ _ | refine Below.setCell ?_ ?_ _ | refine below_row ?_ ?_ _ | refine Below.drew ?_ | refine below_drewN ?_ _ | refine Below.trans ?_ (Below.mono (by assumption) ?_)) | exact Nat.le_refl _ | omega | (simp; done) | (simp; omega) | exact Below.size (by assumption)))⟩
  · have hne : (layE xs != 0) = true := by simpa using h0
    have HAT : Hid (∀ e w', e = .returned (.tuple #[zIss, .int .i64 (layE xs)]) → Below w.heap.size w w' → AtP xs d l w e w') := Lib.hid (fun e w' he hb => ⟨.inl ⟨h0, he⟩, hb⟩)
    clear h0
    generalize AtP xs d l w = AP at *
    generalize layE xs = ee at *
    go_enter Try.func27, Try.ntmps27
    go_wp2_with fail
    refine (HCK.out _ (by (repeat' (first | (with_reducible first | exact Below.refl _ _ | assumption | refine Below.alloc ?_ ?_ _ | refine Below.setCell ?_ ?_ _ | refine below_row ?_ ?_ _ | refine Below.drew ?_ | refine below_drewN ?_ _ | refine Below.trans ?_ (Below.mono (by assumption) ?_)) | exact Nat.le_refl _ | omega | (simp; done) | (simp; omega) | exact Below.size (by assumption))))).mono ?_
    rintro e w1 ⟨rfl, hb1⟩
    have s1 := hb1.size; try simp only [World.size_alloc, World.size_setCell, World.size_drew, setRow_size] at s1
    have hbw : Below w.heap.size w w1 := by (repeat' (first | (with_reducible first | exact Below.refl _ _ | assumption | refine Below.alloc ?_ ?_ _ | refine Below.setCell ?_ ?_ _ | refine below_row ?_ ?_ _ | refine Below.drew ?_ | refine below_drewN ?_ _ | refine Below.trans ?_ (Below.mono (by assumption) ?_)) | exact Nat.le_refl _ | omega | (simp; done) | (simp; omega) | exact Below.size (by assumption)))
    have LR := Lib.hid ((Lies.new (u := (w.alloc (.cells #[.slice A xs.length c] 24)).alloc (.cells #[.int .i64 d, .int .i64 l] 26)) (k := w.heap.size + 1 + 1) (t := 45) (cs := #[.int .i64 0, .int .i64 0, .int .u8 0, .slice none 0 0, .slice none 0 0]) (by simp)).after hb1)
    have y0 := LR.out.cell 0
    have y1 := LR.out.cell 1
    have y2 := LR.out.cell 2
    have y3 := LR.out.cell 3
    have y4 := LR.out.cell 4
    have m0 := LR.out.free 0
    have m1 := LR.out.free 1
    have m2 := LR.out.free 2
    have m3 := LR.out.free 3
    have m4 := LR.out.free 4
    have zr := LR.out.lt
    clear hb1 HCK
    go_wp2_with fail
    refine bodyPost_ret (results_cell_tmp rfl _ _ (w.heap.size + 1 + 1) _ _ _ _ rfl rfl (LR.out.five (.int .i64 0) (.int .i64 0) (.int .u8 0) (.slice none 0 0) (.slice none 0 0)) Try.underlying45 rfl (by kernel_rfl)) rfl (HAT.out _ _ rfl (by (repeat' (first | (with_reducible first | exact Below.refl _ _ | assumption | refine Below.alloc ?_ ?_ _ | refine Below.setCell ?_ ?_ _ | refine below_row ?_ ?_ _ | refine Below.drew ?_ | refine below_drewN ?_ _ | refine Below.trans ?_ (Below.mono (by assumption) ?_)) | exact Nat.le_refl _ | omega | (simp; done) | (simp; omega) | exact Below.size (by assumption)))))
end
section
open Go.RowKit

theorem infoQ : (Try.prog.info? 45).map (fun i => (i.zero, i.size, i.bytes)) = some (some zIss, 5, 72) := by kernel_rfl
/-- The cells of issues whose rows are told. -/
def cellsQ (xs : List Iss) (tv td : Nat → Value) : Nat → List Value
  | 0 => []
  | k + 1 => cellsQ xs tv td k ++ (if h : k < xs.length then [.int .i64 (xs[k].d), .int .i64 (xs[k].l), .int .u8 xs[k].k, tv k, td k] else [])
theorem cellsQ_len (xs : List Iss) (tv td : Nat → Value) : ∀ k, k ≤ xs.length → (cellsQ xs tv td k).length = k * 5
  | 0, _ => rfl
  | k + 1, h => by rw [cellsQ, List.length_append, cellsQ_len xs tv td k (by omega), dif_pos (by omega)]; simp; omega
theorem cellsQ_at {xs : List Iss} {tv td : Nat → Value} {i t : Nat} (ht : t < 5) : ∀ k (hk : k ≤ xs.length) (hi : i < k), (cellsQ xs tv td k)[i * 5 + t]? = [.int .i64 ((xs[i]'(by omega)).d), .int .i64 ((xs[i]'(by omega)).l), .int .u8 (xs[i]'(by omega)).k, tv i, td i][t]?
  | 0, _, hi => by omega
  | k + 1, hk, hi => by
    have hl := cellsQ_len xs tv td k (by omega)
    rw [cellsQ, dif_pos (by omega)]
    by_cases e : i = k
    · subst e
      rw [List.getElem?_append_right (by omega), hl, show i * 5 + t - i * 5 = t by omega]
    · rw [List.getElem?_append_left (by omega), cellsQ_at ht k (by omega) (by omega)]
theorem cellsQ_congr {xs : List Iss} {tv td tv' td' : Nat → Value} : ∀ k, (∀ j < k, tv j = tv' j ∧ td j = td' j) → cellsQ xs tv td k = cellsQ xs tv' td' k
  | 0, _ => rfl
  | k + 1, h => by rw [cellsQ, cellsQ, cellsQ_congr k (fun j hj => h j (by omega)), (h k (by omega)).1, (h k (by omega)).2]
/-- Rows of issues made so far. -/
def RowsQ (w : World) (base : Nat) (xs : List Iss) (tv td : Nat → Value) (k : Nat) : Prop :=
  ∀ j (h : j < xs.length), j < k → w.ownsRow base 52 2 (tv j) xs[j].items.length (cellsI xs[j].items) ∧ w.ownsRow base 54 3 (td j) xs[j].dims.length (cellsS xs[j].dims)
def putV (tv : Nat → Value) (k : Nat) (v : Value) : Nat → Value := fun j => if j = k then v else tv j
theorem rowsQ_next {w : World} {base : Nat} {xs : List Iss} {tv td : Nat → Value} {k : Nat} {vi vd : Value} (hk : k < xs.length) (h : RowsQ w base xs tv td k) (h1 : w.ownsRow base 52 2 vi xs[k].items.length (cellsI xs[k].items)) (h2 : w.ownsRow base 54 3 vd xs[k].dims.length (cellsS xs[k].dims)) : RowsQ w base xs (putV tv k vi) (putV td k vd) (k + 1) := by
  intro j hj hjk
  unfold putV
  by_cases e : j = k
  · subst e; rw [if_pos rfl, if_pos rfl]; exact ⟨h1, h2⟩
  · rw [if_neg e, if_neg e]; exact h j hj (by omega)
theorem RowsQ.map {w w' : World} {base : Nat} {xs : List Iss} {tv td : Nat → Value} {k : Nat} (h : RowsQ w base xs tv td k) (f : ∀ e s v n cs, (e = 52 ∨ e = 54) → w.ownsRow base e s v n cs → w'.ownsRow base e s v n cs) : RowsQ w' base xs tv td k :=
  fun j hj hjk => ⟨f _ _ _ _ _ (.inl rfl) (h j hj hjk).1, f _ _ _ _ _ (.inr rfl) (h j hj hjk).2⟩
theorem cellsQ_put {xs : List Iss} {tv td : Nat → Value} {k : Nat} {vi vd : Value} (hk : k < xs.length) : cellsQ xs tv td k ++ [.int .i64 (xs[k].d), .int .i64 (xs[k].l), .int .u8 xs[k].k, vi, vd] = cellsQ xs (putV tv k vi) (putV td k vd) (k + 1) := by
  rw [cellsQ, dif_pos hk]
  congr 1
  · exact cellsQ_congr k (fun j hj => by unfold putV; rw [if_neg (by omega), if_neg (by omega)]; exact ⟨rfl, rfl⟩)
  · unfold putV; simp
theorem own_nil {w : World} {base : Nat} {e : TypeId} {size n : Nat} {v : Value} {xs : List Value} (h : w.ownsRow base e size v n xs) : NilOk v := by
  rcases h.2 with ⟨rfl, _⟩ | ⟨g, cap, cur, rfl, _⟩
  · intro n c e; injection e with _ _ e; exact e.symm
  · intro n c e; injection e with e; cases e
theorem issues_of_own {w : World} {base : Nat} {xs : List Iss} {tv td : Nat → Value} {v : Value} (h : w.ownsRow base 45 5 v xs.length (cellsQ xs tv td xs.length)) (hr : RowsQ w base xs tv td xs.length) (hk : ∀ x ∈ xs, 0 ≤ x.k ∧ x.k ≤ 255) : IssuesAt w v xs := by
  obtain ⟨A, c, g, rfl, hf⟩ := own_form h
  refine ⟨A, c, g, 0, rfl, fun h0 => (hf h0).2.1, fun i hi => ?_⟩
  obtain ⟨-, -, cur, hl, hcur⟩ := hf (by omega)
  have hc : ∀ t, t < 5 → w.cell? ⟨g, 0 + i * 5 + t, none⟩ = [.int .i64 (xs[i].d), .int .i64 (xs[i].l), .int .u8 xs[i].k, tv i, td i][t]? := fun t ht => by
    rw [hl.cell, Nat.zero_add, hcur _ (by omega), cellsQ_at ht xs.length (Nat.le_refl _) hi]
  obtain ⟨h1, h2⟩ := hr i hi hi
  exact ⟨tv i, td i, hc 0 (by omega), hc 1 (by omega), hc 2 (by omega), hc 3 (by omega), hc 4 (by omega), hk _ (List.getElem_mem hi), items_of_own h1, dims_of_own h2, own_nil h1, own_nil h2⟩

set_option maxRecDepth 100000 in
set_option maxHeartbeats 16000000 in
theorem rTwin_any {vI : Value} {xs : List Iss} {w : World} (h : RegAt w vI xs) : Calls Try.prog 18 #[.agg #[vI]] w fun e w' => ∃ v, e = .returned (.agg #[v]) ∧ RegAt w' v xs ∧ Below w.heap.size w w' := by
  obtain ⟨A, c, b, off, vi, vd, rfl, hA, hc⟩ := h.at_.row
  have hlen := h.len
  have HTW := Lib.hid (rTwin_v hc h.small)
  have HSM := Lib.hid h.small
  have HKK : Hid (∀ x ∈ xs, 0 ≤ x.k ∧ x.k ≤ 255) := Lib.hid (fun x hx => by
    obtain ⟨i, hi, rfl⟩ := List.getElem_of_mem hx
    exact (hc i hi).2.2.2.2.2.1)
  have HA := Lib.hid hA
  have HC := Lib.hid hc
  clear h hA hc
  obtain ⟨i0, hi0, hz0, hz1, hz2⟩ := info_parts infoQ
  have HD0 := Lib.hid (((Lies.made w 24 #[.slice A xs.length c]).alloc (.cells #[.slice none 0 0] 24)).alloc (.cells #[.slice none 0 0] 24))
  have HR0 := Lib.hid ((Lies.new (u := w.alloc (.cells #[.slice A xs.length c] 24)) (k := w.heap.size + 1) (t := 24) (cs := #[.slice none 0 0]) (by simp)).alloc (.cells #[.slice none 0 0] 24))
  have HU0 := Lib.hid (Lies.new (u := (w.alloc (.cells #[.slice A xs.length c] 24)).alloc (.cells #[.slice none 0 0] 24)) (k := w.heap.size + 1 + 1) (t := 24) (cs := #[.slice none 0 0]) (by simp))
  go_enter Try.func18, Try.ntmps18
  go_wp2_with fail
  go_loopw [4] (fun i wr => ∃ (k : Nat) (AO : Option Addr) (cO : Nat) (tv td : Nat → Value), k ≤ xs.length ∧ i = .int .i64 k ∧ Hid (Lies wr w.heap.size 24 #[.slice A xs.length c]) ∧ Hid (Lies wr (w.heap.size + 1) 24 #[.slice none 0 0]) ∧ Hid (Lies wr (w.heap.size + 1 + 1) 24 #[.slice AO k cO]) ∧ Hid (wr.ownsRow w.heap.size 45 5 (.slice AO k cO) k (cellsQ xs tv td k)) ∧ Hid (RowsQ wr w.heap.size xs tv td k) ∧ Below w.heap.size w wr) (fun i _ => xs.length - (intOf i).toNat)
  case atStart => exact ⟨0, none, 0, fun _ => .slice none 0 0, fun _ => .slice none 0 0, by omega, rfl, HD0, HR0, HU0, Lib.hid (World.ownsRow_nil _ _ _ _), Lib.hid (fun j hj h => by omega), by (repeat' (first | (with_reducible first | exact Below.refl _ _ | assumption | refine Below.alloc ?_ ?_ _ | refine Below.setCell ?_ ?_ _ | refine below_row ?_ ?_ _ | refine Below.drew ?_ | refine below_drewN ?_ _ | refine Below.trans ?_ (Below.mono (by assumption) ?_)) | exact Nat.le_refl _ | omega | (simp; done) | (simp; omega) | exact Below.size (by assumption)))⟩
  case round =>
    obtain ⟨k, AO, cO, tv, td, hk, rfl, HD, HR, HU, HO, HQ, hb⟩ := hrel
    have hz := hb.size
    have d0 := HD.out.cell 0
    have zd := HD.out.lt
    have zr := HR.out.lt
    have zu := HU.out.lt
    by_cases hlt : k < xs.length
    · obtain rfl := HA.out (by omega)
      have u0 := HU.out.cell 0
      have fu := HU.out.free 0
      obtain ⟨q0, q1, q2, q3, q4, -⟩ := (HC.out.after hb) k hlt
      obtain ⟨e1, e2⟩ := HC.out.slices hlt
      have kl1 : (k : Int) < (xs.length : Int) := by omega
      have HX := Lib.hid (HTW.out k hlt)
      have HPUT : Hid (∀ a b, cellsQ xs tv td k ++ [.int .i64 (xs[k].d), .int .i64 (xs[k].l), .int .u8 xs[k].k, a, b] = cellsQ xs (putV tv k a) (putV td k b) (k + 1)) := Lib.hid (fun a b => cellsQ_put hlt)
      have zc := cellsQ_len xs tv td k hk
      generalize vi k = v1 at *
      generalize vd k = v2 at *
      obtain ⟨A1, n1, c1, rfl⟩ := e1
      obtain ⟨A2, n2, c2, rfl⟩ := e2
      obtain ⟨wq, rfl⟩ : ∃ wq : World, wq = wr := ⟨_, rfl⟩
      go_wp2_with fail
      go_region_law (first | (go_simp; go_at_call 64; refine (HX.out _ (by (repeat' (first | (with_reducible first | exact Below.refl _ _ | assumption | refine Below.alloc ?_ ?_ _ | refine Below.setCell ?_ ?_ _ | refine below_row ?_ ?_ _ | refine Below.drew ?_ | refine below_drewN ?_ _ | refine Below.trans ?_ (Below.mono (by assumption) ?_)) | exact Nat.le_refl _ | omega | (simp; done) | (simp; omega) | exact Below.size (by assumption))))).mono ?_; rintro e w2 ⟨v, rfl, hown, hb2⟩; have HD2 := Lib.hid (HD.out.drew.after hb2); have HR2 := Lib.hid (HR.out.drew.after hb2); have HU2 := Lib.hid (HU.out.drew.after hb2); have HO2 := Lib.hid (own_after HO.out.drew hb2); have HQ2 := Lib.hid (HQ.out.map (fun _ _ _ _ _ _ ho => own_after (World.ownsRow.drew ho) hb2)); obtain ⟨vi', vd', rfl, -, ho1, ho2⟩ := hown; have HI2 := Lib.hid (own_less (base' := w.heap.size) ho1 (by first | omega | (simp; omega))); have HS2 := Lib.hid (own_less (base' := w.heap.size) ho2 (by first | omega | (simp; omega))); obtain ⟨A3, c3, g3, rfl, -⟩ := own_form ho1; obtain ⟨A4, c4, g4, rfl, -⟩ := own_form ho2; have hbw2 : Below w.heap.size w w2 := (by (repeat' (first | (with_reducible first | exact Below.refl _ _ | assumption | refine Below.alloc ?_ ?_ _ | refine Below.setCell ?_ ?_ _ | refine below_row ?_ ?_ _ | refine Below.drew ?_ | refine below_drewN ?_ _ | refine Below.trans ?_ (Below.mono (by assumption) ?_)) | exact Nat.le_refl _ | omega | (simp; done) | (simp; omega) | exact Below.size (by assumption)))); have hw2s := hbw2.size; clear ho1 ho2 hb2; have d2 := HD2.out.cell 0; have u2 := HU2.out.cell 0; have f2 := HU2.out.free 0; have zd2 := HD2.out.lt; have zr2 := HR2.out.lt; have zu2 := HU2.out.lt) | (refine step_row (o := ⟨some 21, _, _, _, _, _⟩) (by rfl) (.tmp 13) (.tmp 20) 22 (by rfl) w.heap.size 45 i0 zIss 5 72 Try.underlying22 hi0 hz0 hz1 hz2 rfl (by decide) (.slice AO k cO) k (cellsQ xs tv td k) (by rfl) ?_ (some ⟨_, 0, none⟩) 1 1 [.int .i64 (xs[k].d), .int .i64 (xs[k].l), .int .u8 xs[k].k, .slice A3 xs[k].items.length c3, .slice A4 xs[k].dims.length c4] (by rfl) (fun h => by cases h) (by rfl) ?_ (by simp [Value.oneCell']) (by unfold maxLen; omega) (by omega) (by first | omega | (simp; omega)) ?_; (focus (first | exact HO2.out.alloc _ | exact (HO2.out.alloc _).drew)); (focus (intro ad had; injection had with had; subst had; first | exact World.news_of_block (Lies.made _ _ _) | exact World.news_of_block (Lies.made _ _ _).drew)); intro v3 w3 ho3 hap3 hapo3 hbl3; have HU3 := Lib.hid (hap3 (w.heap.size + 1 + 1) 24 #[.slice AO k cO] (by decide) (HU2.out.alloc _)); have HR3 := Lib.hid (hap3 (w.heap.size + 1) 24 #[.slice none 0 0] (by decide) (HR2.out.alloc _)); have HD3 := Lib.hid (hap3 (w.heap.size) 24 #[.slice (some ⟨b, off, none⟩) xs.length c] (by decide) (HD2.out.alloc _)); have hb3 : Below w.heap.size w w3 := hbl3 w (by (repeat' (first | (with_reducible first | exact Below.refl _ _ | assumption | refine Below.alloc ?_ ?_ _ | refine Below.setCell ?_ ?_ _ | refine below_row ?_ ?_ _ | refine Below.drew ?_ | refine below_drewN ?_ _ | refine Below.trans ?_ (Below.mono (by assumption) ?_)) | exact Nat.le_refl _ | omega | (simp; done) | (simp; omega) | exact Below.size (by assumption)))) (Nat.le_refl _); have HI3 := Lib.hid (hapo3 _ _ _ _ _ _ (by decide) (HI2.out.alloc _)); have HS3 := Lib.hid (hapo3 _ _ _ _ _ _ (by decide) (HS2.out.alloc _)); have HQ3 := Lib.hid (HQ2.out.map (fun e s v n cs he ho => hapo3 _ e s v n cs (by rcases he with rfl | rfl <;> decide) (World.ownsRow.alloc ho _))); rw [HPUT.out] at ho3; have HO3 := Lib.hid ho3; obtain ⟨A5, c5, g5, rfl, -⟩ := own_form ho3; clear ho3 hap3 hapo3 hbl3; have u3 := HU3.out.cell 0; have f3 := HU3.out.free 0; have zu3 := HU3.out.lt))
      all_goals
        go_wp2_with fail
        go_roundw
        case rel =>
          exact ⟨k + 1, A5, c5, _, _, by omega, by go_num, Lib.hid (HD3.out.other (p := ⟨w.heap.size + 1 + 1, 0, none⟩) (by simp only; omega) _), Lib.hid (HR3.out.other (p := ⟨w.heap.size + 1 + 1, 0, none⟩) (by simp only; omega) _), Lib.hid (HU3.out.store 0 _), Lib.hid (own_set HO3.out HU3.out (by decide) 0 _), Lib.hid (rowsQ_next hlt (HQ3.out.map (fun e _ _ _ _ he ho => own_set ho HU3.out (by rcases he with rfl | rfl <;> decide) 0 _)) (own_set HI3.out HU3.out (by decide) 0 _) (own_set HS3.out HU3.out (by decide) 0 _)), by (repeat' (first | (with_reducible first | exact Below.refl _ _ | assumption | refine Below.alloc ?_ ?_ _ | refine Below.setCell ?_ ?_ _ | refine below_row ?_ ?_ _ | refine Below.drew ?_ | refine below_drewN ?_ _ | refine Below.trans ?_ (Below.mono (by assumption) ?_)) | exact Nat.le_refl _ | omega | (simp; done) | (simp; omega) | exact Below.size (by assumption)))⟩
        case measure => simp [intOf]; omega
    · have hke : k = xs.length := by omega
      subst hke
      have u0 := HU.out.cell 0
      have r0 := HR.out.cell 0
      have fr := HR.out.free 0
      have HIA := Lib.hid (issues_of_own (own_set HO.out HR.out (by decide) 0 (.slice AO xs.length cO)) (HQ.out.map (fun e _ _ _ _ he ho => own_set ho HR.out (by rcases he with rfl | rfl <;> decide) 0 (.slice AO xs.length cO))) HKK.out)
      go_wp2_with fail
      exact bodyPost_ret (results_cell_row rfl _ _ (w.heap.size + 1) _ _ (0, 0) _ rfl (HR.out.store 0 _) Try.underlying24 rfl (by kernel_rfl)) rfl ⟨_, rfl, ⟨HIA.out, hlen, HSM.out⟩, by (repeat' (first | (with_reducible first | exact Below.refl _ _ | assumption | refine Below.alloc ?_ ?_ _ | refine Below.setCell ?_ ?_ _ | refine below_row ?_ ?_ _ | refine Below.drew ?_ | refine below_drewN ?_ _ | refine Below.trans ?_ (Below.mono (by assumption) ?_)) | exact Nat.le_refl _ | omega | (simp; done) | (simp; omega) | exact Below.size (by assumption)))⟩
end
section
open Go.RowKit

/-- An issue whose rows may be written, from block B on. -/
def YAt (W : World) (B : Nat) (v : Value) (x : Iss) : Prop :=
  ∃ A3 c3 g3 A4 c4 g4, v = .agg #[.int .i64 x.d, .int .i64 x.l, .int .u8 x.k, .slice A3 x.items.length c3, .slice A4 x.dims.length c4] ∧ ItemsAt W (.slice A3 x.items.length c3) x.items ∧ DimsAt W (.slice A4 x.dims.length c4) x.dims ∧
    (0 < x.items.length → B ≤ g3 ∧ A3 = some ⟨g3, 0, none⟩ ∧ ∃ cur, Lies W g3 52 cur ∧ x.items.length * 2 ≤ cur.size) ∧
    (0 < x.dims.length → B ≤ g4 ∧ A4 = some ⟨g4, 0, none⟩ ∧ ∃ cur, Lies W g4 54 cur ∧ x.dims.length * 3 ≤ cur.size)
theorem own_room {w : World} {base : Nat} {e : TypeId} {size n : Nat} {v : Value} {xs : List Value} (h : w.ownsRow base e size v n xs) (hl : xs.length = n * size) : ∃ A c g, v = .slice A n c ∧ (0 < n → base ≤ g ∧ A = some ⟨g, 0, none⟩ ∧ ∃ cur, Lies w g e cur ∧ n * size ≤ cur.size) := by
  obtain ⟨A, c, g, hv, hf⟩ := own_form h
  refine ⟨A, c, g, hv, fun h0 => ?_⟩
  obtain ⟨h1, h2, cur, h3, h4⟩ := hf h0
  refine ⟨h1, h2, cur, h3, ?_⟩
  apply Classical.byContradiction
  intro hn
  have h5 := h4 cur.size (by omega)
  rw [Array.getElem?_eq_none (Nat.le_refl _)] at h5
  have := List.getElem?_eq_none_iff.1 h5.symm
  omega
theorem OwnIss.yat {W : World} {B base : Nat} {v : Value} {x : Iss} (h : OwnIss W base v x) (hb : B ≤ base) : YAt W B v x := by
  obtain ⟨vi, vd, rfl, hk, h1, h2⟩ := h
  obtain ⟨A3, c3, g3, rfl, r3⟩ := own_room h1 (cellsI_len _)
  obtain ⟨A4, c4, g4, rfl, r4⟩ := own_room h2 (cellsS_len _)
  exact ⟨A3, c3, g3, A4, c4, g4, rfl, items_of_own h1, dims_of_own h2, fun h => by obtain ⟨a, b, c⟩ := r3 h; exact ⟨by omega, b, c⟩, fun h => by obtain ⟨a, b, c⟩ := r4 h; exact ⟨by omega, b, c⟩⟩
theorem zIss_yat (W : World) (B : Nat) : YAt W B zIss zeroI := by
  refine ⟨none, 0, 0, none, 0, 0, rfl, ⟨none, 0, 0, 0, rfl, ?_, ?_⟩, ⟨none, 0, 0, 0, rfl, ?_, ?_⟩, ?_, ?_⟩
  · intro h; exact absurd h (by decide)
  · intro i h; exact absurd h (by simp [zeroI])
  · intro h; exact absurd h (by decide)
  · intro i h; exact absurd h (by simp [zeroI])
  · intro h; exact absurd h (by decide)
  · intro h; exact absurd h (by decide)
/-- What At answers. -/
def AtQ (xs : List Iss) (d l : Int) (x : Iss) (ee : Int) : Prop :=
  (layE xs ≠ 0 ∧ x = zeroI ∧ ee = layE xs) ∨ (layE xs = 0 ∧ (∀ k : Fin xs.length, ¬ isN xs d l k) ∧ x = zeroI ∧ ee = 6) ∨
    (layE xs = 0 ∧ ∃ k : Fin xs.length, isN xs d l k ∧ (∀ j : Fin xs.length, j.1 < k.1 → ¬ isN xs d l j) ∧ x = xs[k] ∧ ee = 0)
theorem AtQ.one {xs : List Iss} {d l : Int} {x x' : Iss} {ee ee' : Int} (h : AtQ xs d l x ee) (h' : AtQ xs d l x' ee') : x' = x ∧ ee' = ee := by
  rcases h with ⟨a, b, c⟩ | ⟨a, b, c, e⟩ | ⟨a, k, b, c, e, f⟩ <;> rcases h' with ⟨a', b', c'⟩ | ⟨a', b', c', e'⟩ | ⟨a', k', b', c', e', f'⟩
  · exact ⟨b'.trans b.symm, c'.trans c.symm⟩
  · exact absurd a' a
  · exact absurd a' a
  · exact absurd a a'
  · exact ⟨c'.trans c.symm, e'.trans e.symm⟩
  · exact absurd b' (b k')
  · exact absurd a a'
  · exact absurd b (b' k)
  · have : k' = k := by
      apply Fin.ext
      rcases Nat.lt_trichotomy k'.1 k.1 with h | h | h
      · exact absurd b' (c k' h)
      · exact h
      · exact absurd b (c' k h)
    subst this
    exact ⟨e'.trans e.symm, f'.trans f.symm⟩
theorem at_yat {xs : List Iss} {d l : Int} {w w' : World} {e : Ending} (h : AtP xs d l w e w') (B : Nat) (hB : B ≤ w.heap.size) : ∃ v x ee, e = .returned (.tuple #[v, .int .i64 ee]) ∧ YAt w' B v x ∧ AtQ xs d l x ee ∧ Below w.heap.size w w' := by
  obtain ⟨h1 | h1 | h1, hb⟩ := h
  · exact ⟨_, _, _, h1.2, zIss_yat _ _, .inl ⟨h1.1, rfl, rfl⟩, hb⟩
  · exact ⟨_, _, _, h1.2.2, zIss_yat _ _, .inr (.inl ⟨h1.1, h1.2.1, rfl, rfl⟩), hb⟩
  · obtain ⟨a, k, b, c, v, rfl, ho⟩ := h1
    exact ⟨v, xs[k], 0, rfl, ho.yat hB, .inr (.inr ⟨a, k, b, c, rfl, rfl⟩), hb⟩
theorem AtQ.small {xs : List Iss} {d l : Int} {x : Iss} {ee : Int} (h : AtQ xs d l x ee) {n : Nat} (hs : ∀ x ∈ xs, x.items.length ≤ n ∧ x.dims.length ≤ n) : x.items.length ≤ n ∧ x.dims.length ≤ n := by
  rcases h with ⟨_, rfl, _⟩ | ⟨_, _, rfl, _⟩ | ⟨_, k, _, _, rfl, _⟩
  · exact ⟨Nat.zero_le _, Nat.zero_le _⟩
  · exact ⟨Nat.zero_le _, Nat.zero_le _⟩
  · exact hs _ (List.getElem_mem k.2)
theorem great_no {xs : List Iss} (h : greatB xs = false) : xs.length ≤ 80 ∧ ∀ x ∈ xs, x.items.length ≤ 16 ∧ x.dims.length ≤ 8 := by
  unfold greatB at h
  rw [Bool.or_eq_false_iff, decide_eq_false_iff_not, List.any_eq_false] at h
  refine ⟨by omega, fun x hx => ?_⟩
  have := h.2 x hx
  unfold bigB at this
  simp at this
  exact ⟨by omega, by omega⟩
end
end Go.Proofs.Ytkjfceajakhlfaa
