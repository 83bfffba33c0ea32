/-
  SheetEnds, whatever its arguments: the law returns true, and its arguments read behind the call as they read before. No condition.
-/
import Derived.Test.YtkjfceajakhlfaaLO
import Derived.Test.YtkjfceajakhlfaaHX
import Derived.Test.YtkjfceajakhlfaaHES
namespace Go.Proofs.Ytkjfceajakhlfaa
set_option linter.unusedVariables false
set_option linter.unusedSimpArgs false
open Go.ChangeShapes Go.WideShapes Go.ChangeAt Go.RowKit

set_option maxRecDepth 100000 in
set_option maxHeartbeats 4000000 in
theorem ends_no {A : Option Addr} {c b off : Nat} {xs : List Iss} {vi vd : Nat → Value} {vB : Value} {by_ : List Int} (n1 : Nat) (w : World) (h1 : n1 ≤ 255) (hm : xs.length ≤ 9223372036854775807) (hm2 : ∀ x ∈ xs, x.items.length ≤ 9223372036854775807 ∧ x.dims.length ≤ 9223372036854775807) (hA : 0 < xs.length → A = some ⟨b, off, none⟩) (hc : IssRow w b off xs vi vd) (hB : ByAt w vB by_) (hbl : by_.length ≤ 9223372036854775807) (hr : readyB xs = false) :
    Calls Try.prog 10 #[.agg #[.slice A xs.length c], vB, .int .u8 (n1 : Int)] w fun e w' => e = .returned (.bool true) ∧ Below w.heap.size w w' := by
  have HQ1 := Lib.hid (fun W (hW : Below w.heap.size w W) => ready_any A c b off xs vi vd W hm hm2 hA (hc.after hW))
  rw [hr] at HQ1
  have LA := Lib.hid (Lies.made w 24 #[.slice A xs.length c])
  obtain ⟨AB, cB, rfl⟩ := hB.slice
  clear hB hbl
  clear hA hc hm2 hr
  go_enter Try.func10, Try.ntmps10
  go_wp2_with fail
  refine (alive_any _).mono ?_
  rintro e1 w1 ⟨rfl, hb1⟩
  have hbw1 : Below w.heap.size w w1 := by exact BeL
  have LA1 := Lib.hid (LA.out.after hb1)
  have x0 := LA1.out.cell 0
  have zx := LA1.out.lt
  clear hb1
  go_wp2_with fail
  refine (HQ1.out _ (by exact BeL)).mono ?_
  rintro e2 w2 ⟨rfl, hb2⟩
  go_wp2_with fail
  go_ret
  exact ⟨rfl, by exact BeL⟩
set_option maxRecDepth 100000 in
theorem ends_lifted (os : Os) (started : os.Started) (H : Type) (enc : TypeId × Value → H) :
    ReturnsInHanded {} Try.checked os 10 .any (Rows.sheetEndsSpec.pre6 enc Try.prog Try.f10 Rows.sheetEndsRow.domain false) (Rows.sheetEndsSpec.post enc Try.prog Try.f10 false true false false) := by
  refine returnsInHanded_of_change (C := Try.checked) law_own started (by kernel_rfl) Try.func10
    (ChangeSpec.witness6 (enc := enc) (C := Try.checked) false ⟨#[], #[.agg #[.slice none 0 0], .slice none 0 0, .int .u8 0], []⟩ 8 (by kernel_rfl) (by kernel_rfl) (by kernel_rfl) (by kernel_rfl)) ?_
  intro W base args ds gs before hval0 hW hcnd _
  have hval : ∀ (j : Nat) t v, Try.f10.params[j]? = some t → args[j]? = some v → Value.okWide Try.prog W .any base t v := hval0
  have hW' := hW
  obtain ⟨p, q, hA0, hV, rfl, hfz, hnd⟩ := hW
  have hA : DataW.TrodAll enc Try.prog W 0 (fun _ => true) true Try.f10.params.toList args.toList ds p := hA0
  rw [Try.params10] at hA hval
  obtain ⟨v0, vs0, d0, ds0, p0, q0, hargs, rfl, rfl, h0, r0⟩ := trodAll_cons hA
  obtain ⟨v1, vs1, d1, ds1, p1, q1, rfl, rfl, rfl, h1, r1⟩ := trodAll_cons r0
  obtain ⟨v2, vs2, d2, ds2, p2, q2, rfl, rfl, rfl, h2, r2⟩ := trodAll_cons r1
  obtain ⟨rfl, rfl, rfl⟩ := trodAll_nil r2
  obtain rfl : args = #[v0, v1, v2] := by cases args; simp_all
  obtain ⟨rfl, rfl⟩ := trodVars_none hV
  have hb : ∀ W' : World, Below W.heap.size W W' → Rows.sheetEndsSpec.post enc Try.prog Try.f10 false true false false W #[v0, v1, v2] (.bool true) W' := fun W' hB => by
    have hlt : ∀ x, x ∈ p0 ∨ x ∈ p1 ∨ x ∈ p2 → x.block < W.heap.size := fun x hx => hW'.lt x (by simpa using hx)
    refine ⟨_, _, _, [], p0 ++ (p1 ++ p2), [], hW', ?_, ?_, ?_, hB.frame _, fun h => by cases h⟩
    · exact trodAll_mk1 (shut_bool Try.underlying4 _)
    · exact trodAll_mk3 (Below.trod law_laidOut (by kernel_rfl) (by decide) h0 hB fun x hx => hlt x (by simp [hx])) (Below.trod law_laidOut (by kernel_rfl) (by decide) h1 hB fun x hx => hlt x (by simp [hx])) (Below.trod law_laidOut (by kernel_rfl) (by decide) h2 hB fun x hx => hlt x (by simp [hx]))
    · rfl
  have hx : maxLen = 9223372036854775807 := by decide
  obtain ⟨xs, vI, rfl, hI, hm, hm2⟩ := open_reg (hval 0 24 v0 rfl rfl) h0
  obtain ⟨by_, hB, -, hbl⟩ := open_by (hval 1 96 v1 rfl rfl) h1
  rw [hx] at hbl
  obtain ⟨y2, rfl, -, -, wy2⟩ := open_int Try.underlying5 (hval 2 5 v2 rfl rfl) h2
  have hy2 : 0 ≤ y2 ∧ y2 ≤ 255 := by simpa [Lit.wf, IntKind.min, IntKind.max, IntKind.signed, IntKind.bits] using wy2
  obtain ⟨m2, rfl⟩ : ∃ m : Nat, y2 = (m : Int) := ⟨y2.toNat, by omega⟩
  obtain ⟨A, c, b, off, vi, vd, rfl, hA1, hc1⟩ := hI.row
  rw [hx] at hm
  have hm5 : ∀ x ∈ xs, x.items.length ≤ 9223372036854775807 ∧ x.dims.length ≤ 9223372036854775807 := fun x h => by rw [← hx]; exact hm2 x h
  cases hr : readyB xs with
  | false =>
    refine (ends_no m2 W (by omega) hm hm5 hA1 hc1 hB hbl hr).mono fun e W' ⟨he, hB⟩ => ?_
    subst he
    exact ⟨_, rfl, hb W' hB⟩
  | true =>
    refine (ends_ready m2 W (by omega) hm hm5 hA1 hc1 hB hbl hr).mono fun e W' ⟨he, hB⟩ => ?_
    subst he
    exact ⟨_, rfl, hb W' hB⟩

/-- The given statement. -/
theorem SheetEnds_proved : Rows.SheetEndsSaid :=
  OpenClaim.holds_of_wide 10 Try.f10 rfl rfl rfl rfl rfl rfl rfl ⟨rfl, rfl, rfl, rfl, rfl⟩ rfl rfl rfl rfl rfl (by kernel_rfl) Try.func10 (by kernel_rfl)
    (of_decide_eq_true (by kernel_rfl)) (by unfold Func.isWrapper; first | (rw [if_pos (by decide +kernel)]; kernel_rfl) | (rw [if_neg (by decide +kernel)]; exact ⟨rfl, rfl⟩))
    (fun os started H enc _ => ends_lifted os started H enc)
#print axioms SheetEnds_proved
end Go.Proofs.Ytkjfceajakhlfaa
