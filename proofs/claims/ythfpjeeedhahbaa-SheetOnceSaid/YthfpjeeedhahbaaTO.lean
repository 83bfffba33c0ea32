/-
  SheetOnce, whatever the two registers: the law returns true, and its arguments read behind the call as they read before. No condition.
-/
import Derived.Test.YthfpjeeedhahbaaLO
import Derived.Test.YthfpjeeedhahbaaHS
namespace Go.Proofs.Ythfpjeeedhahbaa
set_option linter.unusedVariables false
set_option linter.unusedSimpArgs false
open Go.ChangeShapes Go.WideShapes Go.ChangeAt Go.RowKit

set_option maxRecDepth 100000 in
set_option maxHeartbeats 4000000 in
theorem once_no (A B : Option Addr) (c b off e b2 off2 : Nat) (xs ys : List Iss) (vi vd ui ud : Nat → Value) (w : World) (hm : xs.length ≤ 9223372036854775807) (hm2 : ∀ x ∈ xs, x.items.length ≤ 9223372036854775807 ∧ x.dims.length ≤ 9223372036854775807) (hm3 : ys.length ≤ 9223372036854775807) (hm4 : ∀ x ∈ ys, x.items.length ≤ 9223372036854775807 ∧ x.dims.length ≤ 9223372036854775807) (hA : 0 < xs.length → A = some ⟨b, off, none⟩) (hB : 0 < ys.length → B = some ⟨b2, off2, none⟩) (hc : IssRow w b off xs vi vd) (hd : IssRow w b2 off2 ys ui ud) (hr : readyB xs = false ∨ readyB ys = false) :
    Calls Try.prog 8 #[.agg #[.slice A xs.length c], .agg #[.slice B ys.length e]] w fun e w' => e = .returned (.bool true) ∧ Below w.heap.size w w' := by
  have HQ1 := Lib.hid (fun W (hW : Below w.heap.size w W) => ready_any A c b off xs vi vd W hm hm2 hA (hc.after hW))
  have HQ2 := Lib.hid (fun W (hW : Below w.heap.size w W) => ready_any B e b2 off2 ys ui ud W hm3 hm4 hB (hd.after hW))
  have LA := Lib.hid ((Lies.made w 24 #[.slice A xs.length c]).alloc (.cells #[.slice B ys.length e] 24))
  have LB : Hid (Lies ((w.alloc (.cells #[.slice A xs.length c] 24)).alloc (.cells #[.slice B ys.length e] 24)) (w.heap.size + 1) 24 #[.slice B ys.length e]) := Lib.hid (Lies.new (by simp))
  clear hA hB hc hd hm2 hm4
  by_cases h1 : readyB xs = true
  · have h2 : readyB ys = false := hr.elim (fun h => by rw [h1] at h; cases h) id
    rw [h1] at HQ1
    rw [h2] at HQ2
    clear hr h1 h2
    go_enter Try.func8, Try.ntmps8
    go_wp2_with fail
    refine (alive_any _).mono ?_
    rintro e1 w1 ⟨rfl, hb1⟩
    have hbw1 : Below w.heap.size w w1 := by (repeat' (first | (with_reducible first | exact Below.refl _ _ | assumption | refine Below.alloc ?_ ?_ _ | refine Below.setCell ?_ ?_ _ | refine below_row ?_ ?_ _ | refine Below.drew ?_ | refine below_drewN ?_ _ | refine Below.trans ?_ (Below.mono (by assumption) ?_)) | exact Nat.le_refl _ | omega | (simp; done) | (simp; omega) | exact Below.size (by assumption)))
    have LA1 := Lib.hid (LA.out.after hb1)
    have LB1 := Lib.hid (LB.out.after hb1)
    have x0 := LA1.out.cell 0
    have zx := LA1.out.lt
    have s1 := hbw1.size
    clear hb1
    go_wp2_with fail
    refine (HQ1.out _ (by (repeat' (first | (with_reducible first | exact Below.refl _ _ | assumption | refine Below.alloc ?_ ?_ _ | refine Below.setCell ?_ ?_ _ | refine below_row ?_ ?_ _ | refine Below.drew ?_ | refine below_drewN ?_ _ | refine Below.trans ?_ (Below.mono (by assumption) ?_)) | exact Nat.le_refl _ | omega | (simp; done) | (simp; omega) | exact Below.size (by assumption))))).mono ?_
    rintro e2 w2 ⟨rfl, hb2⟩
    have hb12 : Below w1.heap.size w1 w2 := by (repeat' (first | (with_reducible first | exact Below.refl _ _ | assumption | refine Below.alloc ?_ ?_ _ | refine Below.setCell ?_ ?_ _ | refine below_row ?_ ?_ _ | refine Below.drew ?_ | refine below_drewN ?_ _ | refine Below.trans ?_ (Below.mono (by assumption) ?_)) | exact Nat.le_refl _ | omega | (simp; done) | (simp; omega) | exact Below.size (by assumption)))
    have hbw2 : Below w.heap.size w w2 := hbw1.trans (hb12.mono s1)
    have LB2 := Lib.hid (LB1.out.after hb12)
    have y0 := LB2.out.cell 0
    have zy := LB2.out.lt
    clear hb2 hb12 x0 zx
    go_wp2_with fail
    refine (HQ2.out _ (by (repeat' (first | (with_reducible first | exact Below.refl _ _ | assumption | refine Below.alloc ?_ ?_ _ | refine Below.setCell ?_ ?_ _ | refine below_row ?_ ?_ _ | refine Below.drew ?_ | refine below_drewN ?_ _ | refine Below.trans ?_ (Below.mono (by assumption) ?_)) | exact Nat.le_refl _ | omega | (simp; done) | (simp; omega) | exact Below.size (by assumption))))).mono ?_
    rintro e3 w3 ⟨rfl, hb3⟩
    go_wp2_with fail
    go_ret
    exact ⟨rfl, by (repeat' (first | (with_reducible first | exact Below.refl _ _ | assumption | refine Below.alloc ?_ ?_ _ | refine Below.setCell ?_ ?_ _ | refine below_row ?_ ?_ _ | refine Below.drew ?_ | refine below_drewN ?_ _ | refine Below.trans ?_ (Below.mono (by assumption) ?_)) | exact Nat.le_refl _ | omega | (simp; done) | (simp; omega) | exact Below.size (by assumption)))⟩
  · rw [Bool.not_eq_true] at h1
    rw [h1] at HQ1
    clear hr h1
    go_enter Try.func8, Try.ntmps8
    go_wp2_with fail
    refine (alive_any _).mono ?_
    rintro e1 w1 ⟨rfl, hb1⟩
    have hbw1 : Below w.heap.size w w1 := by (repeat' (first | (with_reducible first | exact Below.refl _ _ | assumption | refine Below.alloc ?_ ?_ _ | refine Below.setCell ?_ ?_ _ | refine below_row ?_ ?_ _ | refine Below.drew ?_ | refine below_drewN ?_ _ | refine Below.trans ?_ (Below.mono (by assumption) ?_)) | exact Nat.le_refl _ | omega | (simp; done) | (simp; omega) | exact Below.size (by assumption)))
    have LA1 := Lib.hid (LA.out.after hb1)
    have x0 := LA1.out.cell 0
    have zx := LA1.out.lt
    clear hb1
    go_wp2_with fail
    refine (HQ1.out _ (by (repeat' (first | (with_reducible first | exact Below.refl _ _ | assumption | refine Below.alloc ?_ ?_ _ | refine Below.setCell ?_ ?_ _ | refine below_row ?_ ?_ _ | refine Below.drew ?_ | refine below_drewN ?_ _ | refine Below.trans ?_ (Below.mono (by assumption) ?_)) | exact Nat.le_refl _ | omega | (simp; done) | (simp; omega) | exact Below.size (by assumption))))).mono ?_
    rintro e2 w2 ⟨rfl, hb2⟩
    go_wp2_with fail
    go_ret
    exact ⟨rfl, by (repeat' (first | (with_reducible first | exact Below.refl _ _ | assumption | refine Below.alloc ?_ ?_ _ | refine Below.setCell ?_ ?_ _ | refine below_row ?_ ?_ _ | refine Below.drew ?_ | refine below_drewN ?_ _ | refine Below.trans ?_ (Below.mono (by assumption) ?_)) | exact Nat.le_refl _ | omega | (simp; done) | (simp; omega) | exact Below.size (by assumption)))⟩
theorem once_any {vI vJ : Value} {xs ys : List Iss} (w : World) (h : IssuesAt w vI xs) (h2 : IssuesAt w vJ ys) (hcA : CapOk vI) (hcB : CapOk vJ) (hm : xs.length ≤ maxLen) (hm2 : ∀ x ∈ xs, x.items.length ≤ maxLen ∧ x.dims.length ≤ maxLen) (hm3 : ys.length ≤ maxLen) (hm4 : ∀ x ∈ ys, x.items.length ≤ maxLen ∧ x.dims.length ≤ maxLen) :
    Calls Try.prog 8 #[.agg #[vI], .agg #[vJ]] w fun e w' => e = .returned (.bool true) ∧ Below w.heap.size w w' := by
  obtain ⟨A, c, b, off, vi, vd, rfl, hA, hc⟩ := h.row
  obtain ⟨B, e, b2, off2, ui, ud, rfl, hB, hd⟩ := h2.row
  have hx : maxLen = 9223372036854775807 := by decide
  rw [hx] at hm hm3
  have hm5 : ∀ x ∈ xs, x.items.length ≤ 9223372036854775807 ∧ x.dims.length ≤ 9223372036854775807 := fun x h => by rw [← hx]; exact hm2 x h
  have hm6 : ∀ x ∈ ys, x.items.length ≤ 9223372036854775807 ∧ x.dims.length ≤ 9223372036854775807 := fun x h => by rw [← hx]; exact hm4 x h
  cases h1 : readyB xs with
  | false => exact once_no A B c b off e b2 off2 xs ys vi vd ui ud w hm hm5 hm3 hm6 hA hB hc hd (.inl h1)
  | true =>
    cases h2 : readyB ys with
    | false => exact once_no A B c b off e b2 off2 xs ys vi vd ui ud w hm hm5 hm3 hm6 hA hB hc hd (.inr h2)
    | true => exact once_ready w hcA hcB hm hm5 hm3 hm6 hA hB hc hd h1 h2
set_option maxRecDepth 100000 in
theorem once_lifted (os : Os) (started : os.Started) (H : Type) (enc : TypeId × Value → H) :
    ReturnsInHanded {} Try.checked os 8 .any (Rows.sheetOnceSpec.pre6 enc Try.prog Try.f8 Rows.sheetOnceRow.domain false) (Rows.sheetOnceSpec.post enc Try.prog Try.f8 false true false false) := by
  refine returnsInHanded_of_change (C := Try.checked) law_own started (by kernel_rfl) Try.func8
    (ChangeSpec.witness6 (enc := enc) (C := Try.checked) false ⟨#[], #[.agg #[.slice none 0 0], .agg #[.slice none 0 0]], []⟩ 8 (by kernel_rfl) (by kernel_rfl) (by kernel_rfl) (by kernel_rfl)) ?_
  intro W base args ds gs before hval0 hW hcnd _
  have hval : ∀ (j : Nat) t v, Try.f8.params[j]? = some t → args[j]? = some v → Value.okWide Try.prog W .any base t v := hval0
  have hW' := hW
  obtain ⟨p, q, hA0, hV, rfl, hfz, hnd⟩ := hW
  have hA : DataW.TrodAll enc Try.prog W 0 (fun _ => true) true Try.f8.params.toList args.toList ds p := hA0
  rw [Try.params8] at hA hval
  obtain ⟨v0, vs0, d0, ds0, p0, q0, hargs, rfl, rfl, h0, r0⟩ := trodAll_cons hA
  obtain ⟨v1, vs1, d1, ds1, p1, q1, rfl, rfl, rfl, h1, r1⟩ := trodAll_cons r0
  obtain ⟨rfl, rfl, rfl⟩ := trodAll_nil r1
  obtain rfl : args = #[v0, v1] := by cases args; simp_all
  obtain ⟨rfl, rfl⟩ := trodVars_none hV
  have hb : ∀ W' : World, Below W.heap.size W W' → Rows.sheetOnceSpec.post enc Try.prog Try.f8 false true false false W #[v0, v1] (.bool true) W' := fun W' hB => by
    have hlt : ∀ x, x ∈ p0 ∨ x ∈ p1 → x.block < W.heap.size := fun x hx => hW'.lt x (by simpa using hx)
    refine ⟨_, _, _, [], p0 ++ p1, [], hW', ?_, ?_, ?_, hB.frame _, fun h => by cases h⟩
    · exact trodAll_mk1 (shut_bool Try.underlying4 _)
    · exact trodAll_mk2 (Below.trod law_laidOut (by kernel_rfl) (by decide) h0 hB fun x hx => hlt x (by simp [hx])) (Below.trod law_laidOut (by kernel_rfl) (by decide) h1 hB fun x hx => hlt x (by simp [hx]))
    · rfl
  obtain ⟨xs, vI, rfl, hI, hcA, hm, hm2⟩ := open_regC (hval 0 24 v0 rfl rfl) h0
  obtain ⟨ys, vJ, rfl, hJ, hcB, hm3, hm4⟩ := open_regC (hval 1 24 v1 rfl rfl) h1
  refine (once_any W hI hJ hcA hcB hm hm2 hm3 hm4).mono fun e W' ⟨he, hB⟩ => ?_
  subst he
  exact ⟨_, rfl, hb W' hB⟩

/-- The given statement. -/
theorem SheetOnce_proved : Rows.SheetOnceSaid :=
  OpenClaim.holds_of_wide 8 Try.f8 rfl rfl rfl rfl rfl rfl rfl ⟨rfl, rfl, rfl, rfl, rfl⟩ rfl rfl rfl rfl rfl (by kernel_rfl) Try.func8 (by kernel_rfl)
    (of_decide_eq_true (by kernel_rfl)) (by unfold Func.isWrapper; first | (rw [if_pos (by decide +kernel)]; kernel_rfl) | (rw [if_neg (by decide +kernel)]; exact ⟨rfl, rfl⟩))
    (fun os started H enc _ => once_lifted os started H enc)
#print axioms SheetOnce_proved
end Go.Proofs.Ythfpjeeedhahbaa
