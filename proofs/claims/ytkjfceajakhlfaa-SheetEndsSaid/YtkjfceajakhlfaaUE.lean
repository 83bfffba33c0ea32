/- The reference: CountOf, Uses. -/
import Derived.Test.YtkjfceajakhlfaaUA
import Derived.Test.YtkjfceajakhlfaaLG
namespace Go.Proofs.Ytkjfceajakhlfaa
set_option linter.unusedVariables false
set_option linter.unusedSimpArgs false
open Go.RowKit

/-- How often a drawing is among items. -/
def countI : List (Int × Int) → Int → Int
  | [], _ => 0
  | it :: r, d => if it.1 = d then it.2 else countI r d
theorem countI_at {l : List (Int × Int)} {d : Int} {j : Nat} (hj : j < l.length) (h : l[j].1 = d) (hb : ∀ p (hp : p < j), (l[p]'(by omega)).1 ≠ d) : countI l d = l[j].2 := by
  induction l generalizing j with
  | nil => simp at hj
  | cons it r ih =>
    rw [countI]
    cases j with
    | zero => rw [if_pos (by simpa using h)]; rfl
    | succ j =>
      have h0 := hb 0 (by omega)
      rw [if_neg (by simpa using h0)]
      exact ih (by simpa using hj) (by simpa using h) (fun p hp => by have := hb (p + 1) (by omega); simpa using this)
theorem countI_no {l : List (Int × Int)} {d : Int} (hb : ∀ p (hp : p < l.length), l[p].1 ≠ d) : countI l d = 0 := by
  induction l with
  | nil => rfl
  | cons it r ih =>
    have h0 := hb 0 (by simp)
    rw [countI, if_neg (by simpa using h0)]
    exact ih (fun p hp => by have := hb (p + 1) (by simpa using hp); simpa using this)
theorem countI_has {l : List (Int × Int)} {d : Int} (h : ∀ it ∈ l, 1 ≤ it.2) : decide (0 < countI l d) = l.any fun it => it.1 == d := by
  induction l with
  | nil => rfl
  | cons it r ih =>
    rw [countI, List.any_cons]
    by_cases e : it.1 = d
    · rw [if_pos e]
      have := h it (by simp)
      rw [beq_iff_eq.2 e, Bool.true_or]
      exact decide_eq_true (by omega)
    · rw [if_neg e, beq_eq_false_iff_ne.2 e, Bool.false_or]
      exact ih (fun x hx => h x (List.mem_cons_of_mem _ hx))

set_option maxRecDepth 100000 in
set_option maxHeartbeats 4000000 in
theorem rCountOf_any (x : Iss) (vi vd : Value) (d : Int) (w : World) (hl : x.items.length ≤ 1000) (hi : ItemsAt w vi x.items) (hd : ∃ A n c, vd = .slice A n c) :
    Calls Try.prog 84 #[.agg #[.int .i64 x.d, .int .i64 x.l, .int .u8 x.k, vi, vd], .int .i64 d] w fun e w' => e = .returned (.int .i64 (countI x.items d)) ∧ Below w.heap.size w w' := by
  obtain ⟨dx, lx, kx, il, dl⟩ := x
  simp only at hl hi ⊢
  obtain ⟨Ai, ci, bi, oi, rfl, hAi, hci⟩ := hi
  obtain ⟨A2, n2, c2, rfl⟩ := hd
  have HAI := Lib.hid hAi
  have HCI := Lib.hid hci
  have LX := Lib.hid (Lies.made w 45 #[.int .i64 dx, .int .i64 lx, .int .u8 kx, .slice Ai il.length ci, .slice A2 n2 c2])
  clear hAi hci
  go_enter Try.func84, Try.ntmps84
  go_wp2_with fail
  go_loopw [5] (fun i wr => ∃ j : Nat, j ≤ il.length ∧ i = .int .i64 j ∧ Hid (∀ p (hp : p < il.length), p < j → il[p].1 ≠ d) ∧ Hid (Lies wr w.heap.size 45 #[.int .i64 dx, .int .i64 lx, .int .u8 kx, .slice Ai il.length ci, .slice A2 n2 c2]) ∧ Below w.heap.size w wr) (fun i _ => il.length - (intOf i).toNat)
  case atStart => exact ⟨0, by omega, rfl, Lib.hid (fun p hp h => by omega), LX, by (repeat' (first | (with_reducible first | exact Below.refl _ _ | assumption | refine Below.alloc ?_ ?_ _ | refine Below.setCell ?_ ?_ _ | refine below_row ?_ ?_ _ | refine Below.drew ?_ | refine below_drewN ?_ _ | refine Below.trans ?_ (Below.mono (by assumption) ?_)) | exact Nat.le_refl _ | omega | (simp; done) | (simp; omega) | exact Below.size (by assumption)))⟩
  case round =>
    obtain ⟨j, hj, rfl, HJ, LXj, hb⟩ := hrel
    have hz := hb.size
    have x3 := LXj.out.cell 3
    have zx := LXj.out.lt
    by_cases hlt : j < il.length
    · obtain rfl := HAI.out (by omega)
      have r0 := cell_keep hb (HCI.out j hlt).1
      have r1 := cell_keep hb (HCI.out j hlt).2
      have kl1 : (j : Int) < (il.length : Int) := by omega
      have HX : Hid (∃ it, il[j] = it) := Lib.hid ⟨_, rfl⟩
      obtain ⟨it, hit⟩ := HX.out
      have HIT := Lib.hid hit
      rw [hit] at r0 r1
      clear hit HX
      obtain ⟨d', c'⟩ := it
      simp only at r0 r1
      by_cases e : d' = d
      · have HR : Hid (countI il d = c') := Lib.hid (by have := countI_at hlt (d := d) (by rw [HIT.out]; exact e) (fun p hp => HJ.out p (by omega) hp); rw [this, HIT.out])
        have eb : (d' == d) = true := by simpa using e
        clear e
        go_wp2_with fail
        go_ret
        exact ⟨ret_int HR.out.symm, hb⟩
      · have eb : (d' == d) = false := by simpa using e
        have HJ2 : Hid (∀ p (hp : p < il.length), p < j + 1 → il[p].1 ≠ d) := Lib.hid (fun p hp h => by
          by_cases e2 : p = j
          · subst e2; rw [HIT.out]; exact e
          · exact HJ.out p hp (by omega))
        clear e
        go_wp2_with fail
        go_roundw
        case rel => exact ⟨j + 1, by omega, by go_num, HJ2, LXj, hb⟩
        case measure => simp [intOf]; omega
    · have hje : j = il.length := by omega
      have HR : Hid (countI il d = 0) := Lib.hid (countI_no (fun p hp => HJ.out p hp (by omega)))
      subst hje
      have kl0 : ¬ (il.length : Int) < (il.length : Int) := by omega
      go_wp2_with fail
      go_ret
      exact ⟨ret_int HR.out.symm, hb⟩

set_option maxRecDepth 100000 in
set_option maxHeartbeats 8000000 in
theorem rUses_any {vI : Value} {xs : List Iss} {w : World} (d : Int) (h : RegAt w vI xs) : Calls Try.prog 39 #[.agg #[vI], .int .i64 d] w (UsesP (usesE xs d) w) := by
  have HCK := Lib.hid (fun W (hW : Below w.heap.size w W) => rCheck_any (h.after hW))
  have HNU := Lib.hid (fun W (hW : Below w.heap.size w W) => rNumbers_v (h.after hW))
  have hnl : (numbersR xs).length ≤ 1000 := Nat.le_trans (numK_le xs xs.length) h.len
  obtain ⟨A, c, b, off, vi, vd, rfl, hA, hc⟩ := h.at_.row
  have hlen := h.len
  have HA := Lib.hid hA
  have HC := Lib.hid hc
  have HSM := Lib.hid (fun x hx => (h.small x hx).1)
  obtain ⟨i0, hi0, hz0, hz1, hz2⟩ := info_parts infoRef
  have HD0 := Lib.hid (Lies.made w 24 #[.slice A xs.length c])
  clear h hA hc
  unfold usesE
  by_cases h0 : layE xs = 0
  · obtain ⟨-, h2, h3, -, -, -⟩ := layE_ok h0
    have hns := numbers_same h2
    have HB1 : Hid (∀ x ∈ xs, ∀ it ∈ x.items, 1 ≤ it.2) := Lib.hid (fun x hx it hit => by
      obtain ⟨-, hm, -⟩ := right_named h2 x hx
      unfold madeB at hm
      by_cases e : x.k = 1
      · rw [if_pos e, Bool.and_eq_true] at hm
        exact (itemsB_bounds hm.2 it hit).1
      · rw [if_neg e, decide_eq_true_eq] at hm
        rw [List.length_eq_zero_iff.1 hm] at hit; cases hit)
    rw [hns] at HNU hnl
    rw [h0] at HCK
    rw [if_neg (by simpa using h0)]
    clear h0 h2 h3 hns
    generalize hr : (if d ∈ numbersL xs then (usesJ xs d xs.length, (0 : Int)) else ([], 6)) = r
    have HR := Lib.hid hr
    clear hr
    generalize numbersL xs = zs at *
    have HMM := Lib.hid (idxL_mem (l := zs) (n := d))
    have hge := idxL_ge zs d
    go_enter Try.func39, Try.ntmps39
    go_wp2_with fail
    refine (HCK.out _ (by (repeat' (first | (with_reducible first | exact Below.refl _ _ | assumption | refine Below.alloc ?_ ?_ _ | refine Below.setCell ?_ ?_ _ | refine below_row ?_ ?_ _ | refine Below.drew ?_ | refine below_drewN ?_ _ | refine Below.trans ?_ (Below.mono (by assumption) ?_)) | exact Nat.le_refl _ | omega | (simp; done) | (simp; omega) | exact Below.size (by assumption))))).mono ?_
    rintro e w1 ⟨rfl, hb1⟩
    have s1 := hb1.size; try simp only [World.size_alloc, World.size_setCell, World.size_drew, setRow_size] at s1
    have HD1 := Lib.hid (HD0.out.after hb1)
    have d1 := HD1.out.cell 0
    have zd1 := HD1.out.lt
    have hbw1 : Below w.heap.size w w1 := by (repeat' (first | (with_reducible first | exact Below.refl _ _ | assumption | refine Below.alloc ?_ ?_ _ | refine Below.setCell ?_ ?_ _ | refine below_row ?_ ?_ _ | refine Below.drew ?_ | refine below_drewN ?_ _ | refine Below.trans ?_ (Below.mono (by assumption) ?_)) | exact Nat.le_refl _ | omega | (simp; done) | (simp; omega) | exact Below.size (by assumption)))
    clear hb1
    go_wp2_with fail
    refine (HNU.out _ (by (repeat' (first | (with_reducible first | exact Below.refl _ _ | assumption | refine Below.alloc ?_ ?_ _ | refine Below.setCell ?_ ?_ _ | refine below_row ?_ ?_ _ | refine Below.drew ?_ | refine below_drewN ?_ _ | refine Below.trans ?_ (Below.mono (by assumption) ?_)) | exact Nat.le_refl _ | omega | (simp; done) | (simp; omega) | exact Below.size (by assumption))))).mono ?_
    rintro e w2 ⟨v, rfl, hown, hb2⟩
    have s2 := hb2.size; try simp only [World.size_alloc, World.size_setCell, World.size_drew, setRow_size] at s2
    have HD2 := Lib.hid (HD1.out.after hb2)
    have hbw2 : Below w.heap.size w w2 := by (repeat' (first | (with_reducible first | exact Below.refl _ _ | assumption | refine Below.alloc ?_ ?_ _ | refine Below.setCell ?_ ?_ _ | refine below_row ?_ ?_ _ | refine Below.drew ?_ | refine below_drewN ?_ _ | refine Below.trans ?_ (Below.mono (by assumption) ?_)) | exact Nat.le_refl _ | omega | (simp; done) | (simp; omega) | exact Below.size (by assumption)))
    have hs2 := hbw2.size
    have HIX := Lib.hid (rIndex_v d (ints_of_own hown) hnl)
    obtain ⟨A6, c6, g6, rfl, -⟩ := own_form hown
    clear hown hb2 HNU d1 zd1
    generalize idxL zs d = ix at *
    go_wp2_with fail
    refine HIX.out.mono ?_
    rintro e w3 ⟨rfl, rfl⟩
    by_cases hi : ix < 0
    · have HRR : Hid (r = ([], 6)) := Lib.hid (by rw [← HR.out, if_neg (fun hm => by have := HMM.out.2 hm; omega)])
      go_wp2_with fail
      go_ret2
      exact ⟨.slice none 0 0, by rw [HRR.out]; rfl, by rw [HRR.out]; exact refs_nil _, hbw2⟩
    · have HRR : Hid (r = (usesJ xs d xs.length, 0)) := Lib.hid (by rw [← HR.out, if_pos (HMM.out.1 (by omega))])
      clear HR
      go_wp2_with fail
      go_loopw [7, 8] (fun v i wr => ∃ (k : Nat) (AO : Option Addr) (cO : Nat), k ≤ xs.length ∧ i = .int .i64 k ∧ v = .slice AO (usesJ xs d k).length cO ∧ Hid (wr.ownsRow w2.heap.size 26 2 (.slice AO (usesJ xs d k).length cO) (usesJ xs d k).length (cellsI (usesJ xs d k))) ∧ Below w2.heap.size w2 wr) (fun _ i _ => xs.length - (intOf i).toNat)
      case atStart => exact ⟨0, none, 0, by omega, rfl, rfl, Lib.hid (World.ownsRow_nil _ _ _ _), Below.refl _ _⟩
      case round =>
        obtain ⟨k, AO, cO, hk, rfl, rfl, HO, hb⟩ := hrel
        have hzz := hb.size
        have hle := usesJ_le xs d k
        have hbwr : Below w.heap.size w wr := hbw2.trans (hb.mono hs2)
        have HD3 := HD2.out.after hb
        have d3 := HD3.cell 0
        have zd3 := HD3.lt
        have HD3H := Lib.hid HD3
        clear HD3
        by_cases hlt : k < xs.length
        · obtain rfl := HA.out (by omega)
          obtain ⟨q0, q1, q2, q3, q4, -, hit, -⟩ := (HC.out.after hbwr) k hlt
          obtain ⟨e3, e4⟩ := HC.out.slices hlt
          have hsm := HSM.out xs[k] (List.getElem_mem hlt)
          have HST2 := Lib.hid (usesJ_step (d := d) hlt)
          have kl1 : (k : Int) < (xs.length : Int) := by omega
          have HCO := Lib.hid (fun W (hW : Below wr.heap.size wr W) => rCountOf_any xs[k] (vi k) (vd k) d W hsm (hit.after hW) e4)
          have HCH : Hid (decide (0 < countI xs[k].items d) = hasB d xs[k]) := Lib.hid (countI_has (HB1.out xs[k] (List.getElem_mem hlt)))
          clear hit
          generalize vi k = vx at *
          generalize vd k = ve at *
          obtain ⟨A1, n1, c1, rfl⟩ := e3
          obtain ⟨A2, n2, c2, rfl⟩ := e4
          generalize hasB d xs[k] = hh at *
          generalize countI xs[k].items d = ct at *
          generalize xs[k].d = dx at *
          generalize xs[k].l = lx at *
          generalize xs[k].k = kx at *
          generalize usesJ xs d k = uj at *
          have zc := cellsI_len uj
          go_wp2_with fail
          refine (HCO.out _ (by (repeat' (first | (with_reducible first | exact Below.refl _ _ | assumption | refine Below.alloc ?_ ?_ _ | refine Below.setCell ?_ ?_ _ | refine below_row ?_ ?_ _ | refine Below.drew ?_ | refine below_drewN ?_ _ | refine Below.trans ?_ (Below.mono (by assumption) ?_)) | exact Nat.le_refl _ | omega | (simp; done) | (simp; omega) | exact Below.size (by assumption))))).mono ?_
          rintro e w3 ⟨rfl, hb3⟩
          have s3 := hb3.size; try simp only [World.size_alloc, World.size_setCell, World.size_drew, setRow_size] at s3
          have HX3 := Lib.hid ((Lies.made wr 45 #[.int .i64 dx, .int .i64 lx, .int .u8 kx, .slice A1 n1 c1, .slice A2 n2 c2]).after hb3)
          have HO3 := Lib.hid (own_after (HO.out.alloc _) hb3)
          have hb23 : Below w2.heap.size w2 w3 := (hb.alloc hzz _).trans (hb3.mono (by simp; omega))
          have x0 := HX3.out.cell 0
          have x1 := HX3.out.cell 1
          have zx := HX3.out.lt
          have hs23 := hb23.size
          clear hb3 q0 q1 q2 q3 q4 d3 zd3
          cases hh
          · have hct : ¬ 0 < ct := by have := HCH.out; simpa using this
            have HST3 : Hid (usesJ xs d (k + 1) = uj) := Lib.hid (by rw [HST2.out]; simp)
            go_wp2_with fail
            go_roundw
            case rel => exact ⟨k + 1, AO, cO, by omega, by go_num, by rw [HST3.out], Lib.hid (by rw [HST3.out]; exact HO3.out), hb23⟩
            case measure => simp [intOf]; omega
          · have hct : 0 < ct := by have := HCH.out; simpa using this
            have HST3 : Hid (usesJ xs d (k + 1) = uj ++ [(dx, lx)]) := Lib.hid (by rw [HST2.out]; simp)
            have HCI : Hid (cellsI uj ++ [.int .i64 dx, .int .i64 lx] = cellsI (uj ++ [(dx, lx)])) := Lib.hid (by simp [cellsI])
            go_wp2_with (at_builtin; refine wpList_append_own _ rfl _ _ 69 rfl w2.heap.size 26 i0 (.agg #[.int .i64 0, .int .i64 0]) 2 16 Try.underlying69 hi0 hz0 hz1 hz2 rfl (by decide) _ _ _ rfl (HO3.out.alloc _) ⟨_, 0, none⟩ 1 1 [.int .i64 dx, .int .i64 lx] rfl rfl (World.news_of_block (cs := #[.int .i64 dx, .int .i64 lx]) (t := 26) (fr := (0, 0)) (Lies.new (by simp))) (by simp [Value.oneCell']) (by unfold maxLen; omega) (by omega) (by simp; omega) ?_; intro v' w5 hown' hgrow _; have HB5 := Lib.hid (below_own (w0 := w2) (B := w2.heap.size) (by (repeat' (first | (with_reducible first | exact Below.refl _ _ | assumption | refine Below.alloc ?_ ?_ _ | refine Below.setCell ?_ ?_ _ | refine below_row ?_ ?_ _ | refine Below.drew ?_ | refine below_drewN ?_ _ | refine Below.trans ?_ (Below.mono (by assumption) ?_)) | exact Nat.le_refl _ | omega | (simp; done) | (simp; omega) | exact Below.size (by assumption)))) (HO3.out.alloc (.cells #[.int .i64 dx, .int .i64 lx] 26)) hgrow (Nat.le_refl _) (by simp; omega)); rw [HCI.out] at hown'; have HO5 := Lib.hid hown'; obtain ⟨A5, c5, g5, rfl, -⟩ := own_form hown'; clear hown' hgrow)
            go_roundw
            case rel => exact ⟨k + 1, A5, c5, by omega, by go_num, by rw [HST3.out]; simp, Lib.hid (by rw [HST3.out]; simpa using HO5.out), HB5.out⟩
            case measure => simp [intOf]; omega
        · have hke : k = xs.length := by omega
          have HRE := Lib.hid (refs_of_own HO.out)
          have HR2 := Lib.hid HRR.out
          subst hke
          have kl0 : ¬ (xs.length : Int) < (xs.length : Int) := by omega
          go_wp2_with fail
          go_ret2
          exact ⟨.slice AO (usesJ xs d xs.length).length cO, by rw [HR2.out]; rfl, by rw [HR2.out]; exact HRE.out, hbwr⟩
  · rw [if_pos h0]
    have hne : (layE xs != 0) = true := by simpa using h0
    clear h0 HNU
    generalize layE xs = ee at *
    go_enter Try.func39, Try.ntmps39
    go_wp2_with fail
    refine (HCK.out _ (by (repeat' (first | (with_reducible first | exact Below.refl _ _ | assumption | refine Below.alloc ?_ ?_ _ | refine Below.setCell ?_ ?_ _ | refine below_row ?_ ?_ _ | refine Below.drew ?_ | refine below_drewN ?_ _ | refine Below.trans ?_ (Below.mono (by assumption) ?_)) | exact Nat.le_refl _ | omega | (simp; done) | (simp; omega) | exact Below.size (by assumption))))).mono ?_
    rintro e w1 ⟨rfl, hb1⟩
    have s1 := hb1.size; try simp only [World.size_alloc, World.size_setCell, World.size_drew, setRow_size] at s1
    go_wp2_with fail
    go_ret2
    exact ⟨_, rfl, refs_nil _, by (repeat' (first | (with_reducible first | exact Below.refl _ _ | assumption | refine Below.alloc ?_ ?_ _ | refine Below.setCell ?_ ?_ _ | refine below_row ?_ ?_ _ | refine Below.drew ?_ | refine below_drewN ?_ _ | refine Below.trans ?_ (Below.mono (by assumption) ?_)) | exact Nat.le_refl _ | omega | (simp; done) | (simp; omega) | exact Below.size (by assumption)))⟩
end Go.Proofs.Ytkjfceajakhlfaa
