/- The reference: CountOf, Uses. -/
import Derived.Test.YtmhlbdighceogaaGreatUA
import Derived.Test.YtmhlbdighceogaaGreatLG
namespace Go.Proofs.YtmhlbdighceogaaGreat
set_option linter.unusedVariables false
set_option linter.unusedSimpArgs false
open Go.RowKit

/-- How often a drawing is among items. -/
def countI : List (Int × Int) → Int → Int
  | [], _ => 0
  | it :: r, d => if it.1 = d then it.2 else countI r d
theorem countI_at {l : List (Int × Int)} {d : Int} {j : Nat} (hj : j < l.length) (h : l[j].1 = d) (hb : ∀ p (hp : p < j), (l[p]'(by omega)).1 ≠ d) : countI l d = l[j].2 := by
  induction l generalizing j with
  | nil => simp at hj
  | cons it r ih =>
    rw [countI]
    cases j with
    | zero => rw [if_pos (by simpa using h)]; rfl
    | succ j =>
      have h0 := hb 0 (by omega)
      rw [if_neg (by simpa using h0)]
      exact ih (by simpa using hj) (by simpa using h) (fun p hp => by have := hb (p + 1) (by omega); simpa using this)
theorem countI_no {l : List (Int × Int)} {d : Int} (hb : ∀ p (hp : p < l.length), l[p].1 ≠ d) : countI l d = 0 := by
  induction l with
  | nil => rfl
  | cons it r ih =>
    have h0 := hb 0 (by simp)
    rw [countI, if_neg (by simpa using h0)]
    exact ih (fun p hp => by have := hb (p + 1) (by simpa using hp); simpa using this)
theorem countI_has {l : List (Int × Int)} {d : Int} (h : ∀ it ∈ l, 1 ≤ it.2) : decide (0 < countI l d) = l.any fun it => it.1 == d := by
  induction l with
  | nil => rfl
  | cons it r ih =>
    rw [countI, List.any_cons]
    by_cases e : it.1 = d
    · rw [if_pos e]
      have := h it (by simp)
      rw [beq_iff_eq.2 e, Bool.true_or]
      exact decide_eq_true (by omega)
    · rw [if_neg e, beq_eq_false_iff_ne.2 e, Bool.false_or]
      exact ih (fun x hx => h x (List.mem_cons_of_mem _ hx))

set_option maxRecDepth 100000 in
set_option maxHeartbeats 4000000 in
theorem rCountOf_any (x : Iss) (vi vd : Value) (d : Int) (w : World) (hl : x.items.length ≤ 1000) (hi : ItemsAt w vi x.items) (hd : ∃ A n c, vd = .slice A n c) :
    Calls Tryz.prog 10 #[.agg #[.int .i64 x.d, .int .i64 x.l, .int .u8 x.k, vi, vd], .int .i64 d] w fun e w' => e = .returned (.int .i64 (countI x.items d)) ∧ Below w.heap.size w w' := by
  obtain ⟨dx, lx, kx, il, dl⟩ := x
  simp only at hl hi ⊢
  obtain ⟨Ai, ci, bi, oi, rfl, hAi, hci⟩ := hi
  obtain ⟨A2, n2, c2, rfl⟩ := hd
  have HAI := Lib.hid hAi
  have HCI := Lib.hid hci
  have LX := Lib.hid (Lies.made w 40 #[.int .i64 dx, .int .i64 lx, .int .u8 kx, .slice Ai il.length ci, .slice A2 n2 c2])
  clear hAi hci
  go_enter Tryz.func10, Tryz.ntmps10
  go_wp2_with fail
  go_loopw [5] (fun i wr => ∃ j : Nat, j ≤ il.length ∧ i = .int .i64 j ∧ Hid (∀ p (hp : p < il.length), p < j → il[p].1 ≠ d) ∧ Hid (Lies wr w.heap.size 40 #[.int .i64 dx, .int .i64 lx, .int .u8 kx, .slice Ai il.length ci, .slice A2 n2 c2]) ∧ Below w.heap.size w wr) (fun i _ => il.length - (intOf i).toNat)
  case atStart => exact ⟨0, by omega, rfl, Lib.hid (fun p hp h => by omega), LX, by (repeat' (first | (with_reducible first | exact Below.refl _ _ | assumption | refine Below.alloc ?_ ?_ _ | refine Below.setCell ?_ ?_ _ | refine below_row ?_ ?_ _ | refine Below.drew ?_ | refine below_drewN ?_ _ | refine Below.trans ?_ (Below.mono (by assumption) ?_)) | exact Nat.le_refl _ | omega | (simp; done) | (simp; omega) | exact Below.size (by assumption)))⟩
  case round =>
    obtain ⟨j, hj, rfl, HJ, LXj, hb⟩ := hrel
    have hz := hb.size
    have x3 := LXj.out.cell 3
    have zx := LXj.out.lt
    by_cases hlt : j < il.length
    · obtain rfl := HAI.out (by omega)
      have r0 := cell_keep hb (HCI.out j hlt).1
      have r1 := cell_keep hb (HCI.out j hlt).2
      have kl1 : (j : Int) < (il.length : Int) := by omega
      have HX : Hid (∃ it, il[j] = it) := Lib.hid ⟨_, rfl⟩
      obtain ⟨it, hit⟩ := HX.out
      have HIT := Lib.hid hit
      rw [hit] at r0 r1
      clear hit HX
      obtain ⟨d', c'⟩ := it
      simp only at r0 r1
      by_cases e : d' = d
      · have HR : Hid (countI il d = c') := Lib.hid (by have := countI_at hlt (d := d) (by rw [HIT.out]; exact e) (fun p hp => HJ.out p (by omega) hp); rw [this, HIT.out])
        have eb : (d' == d) = true := by simpa using e
        clear e
        go_wp2_with fail
        go_ret
        exact ⟨ret_int HR.out.symm, hb⟩
      · have eb : (d' == d) = false := by simpa using e
        have HJ2 : Hid (∀ p (hp : p < il.length), p < j + 1 → il[p].1 ≠ d) := Lib.hid (fun p hp h => by
          by_cases e2 : p = j
          · subst e2; rw [HIT.out]; exact e
          · exact HJ.out p hp (by omega))
        clear e
        go_wp2_with fail
        go_roundw
        case rel => exact ⟨j + 1, by omega, by go_num, HJ2, LXj, hb⟩
        case measure => simp [intOf]; omega
    · have hje : j = il.length := by omega
      have HR : Hid (countI il d = 0) := Lib.hid (countI_no (fun p hp => HJ.out p hp (by omega)))
      subst hje
      have kl0 : ¬ (il.length : Int) < (il.length : Int) := by omega
      go_wp2_with fail
      go_ret
      exact ⟨ret_int HR.out.symm, hb⟩

end Go.Proofs.YtmhlbdighceogaaGreat
