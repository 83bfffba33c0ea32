/- Merge of the package. -/
import Derived.Test.YtkjfceajakhlfaaVE
import Derived.Test.YtkjfceajakhlfaaVH
namespace Go.Proofs.Ytkjfceajakhlfaa
set_option linter.unusedVariables false
set_option linter.unusedSimpArgs false
open Go.RowKit

/-- What Merge tells. -/
def mergeE (xs ys : List Iss) : List Iss × Int := if bothE xs ys ≠ 0 then ([], bothE xs ys) else if clashR xs ys xs.length ≠ [] then ([], 23) else if layE (joinL xs ys) ≠ 0 then ([], layE (joinL xs ys)) else (joinL xs ys, 0)
def MergeP (z : List Iss × Int) (w : World) (e : Ending) (w' : World) : Prop :=
  ∃ v rs, e = .returned (.tuple #[.agg #[v], .int .i64 z.2]) ∧ OwnReg w' w.heap.size v rs ∧ rs.map (·.1) = z.1 ∧ Below w.heap.size w w'
theorem mergeP_none {ee : Int} {w w' : World} (h : Below w.heap.size w w') : MergeP ([], ee) w (.returned (.tuple #[.agg #[.slice none 0 0], .int .i64 ee])) w' := ⟨_, [], rfl, OwnReg.nil _ _, rfl, h⟩
theorem clash_len {P : List (Int × Int) × Int} {f : FuncId} {args : Array Value} {w : World} (h : Calls Try.prog f args w (UsesP P w)) : Calls Try.prog f args w fun e w' => (∃ A c, e = .returned (.tuple #[.slice A P.1.length c, .int .i64 P.2])) ∧ Below w.heap.size w w' :=
  h.mono fun e w' ⟨v, he, ⟨A, c, b, off, hv, _⟩, hb⟩ => ⟨⟨A, c, by rw [he, hv]⟩, hb⟩
theorem join_small {xs ys : List Iss} {n : Nat} (hx : ∀ x ∈ xs, x.items.length ≤ n ∧ x.dims.length ≤ n) (hy : ∀ x ∈ ys, x.items.length ≤ n ∧ x.dims.length ≤ n) : ∀ x ∈ joinL xs ys, x.items.length ≤ n ∧ x.dims.length ≤ n := fun x h =>
  (mem_joinL xs ys x h).elim (hx x) (hy x)
theorem map_len {rs : List (Iss × Value × Value)} {l : List Iss} (h : rs.map (·.1) = l) : rs.length ≤ l.length := by rw [← h, List.length_map]; exact Nat.le_refl _
theorem lay_len {xs : List Iss} (h : layE xs = 0) : xs.length ≤ 60 := (layE_ok h).1.2

set_option maxRecDepth 100000 in
set_option maxHeartbeats 16000000 in
theorem sMerge_any {vI vJ : Value} {xs ys : List Iss} {w : World} (h : RegAt w vI xs) (h2 : RegAt w vJ ys) (c1 : CapOk vI) (c2 : CapOk vJ) : Calls Try.prog 48 #[.agg #[vI], .agg #[vJ]] w (MergeP (mergeE xs ys) w) := by
  have HCL := Lib.hid (fun W (hW : Below w.heap.size w W) => clash_len (sClash_any (h.after hW) (h2.after hW)))
  obtain ⟨A, c, b, off, vi, vd, rfl, hA, hc⟩ := h.at_.row
  obtain ⟨B, e, b2, off2, ui, ud, rfl, hB, hd⟩ := h2.at_.row
  have hcx := c1 _ _ _ rfl
  have hcy := c2 _ _ _ rfl
  have HJN := Lib.hid (fun W (hW : Below w.heap.size w W) => joined_any h.len h2.len hcx hcy h.small h2.small hA hB (hc.after hW) (hd.after hW))
  have HSM := Lib.hid (join_small h.small h2.small)
  have LI := Lib.hid (((Lies.made w 24 #[.slice A xs.length c]).alloc (.cells #[.slice B ys.length e] 24)).alloc (.cells #[.slice none 0 0] 24))
  have LJ := Lib.hid ((Lies.new (u := w.alloc (.cells #[.slice A xs.length c] 24)) (k := w.heap.size + 1) (t := 24) (cs := #[.slice B ys.length e]) (by simp)).alloc (.cells #[.slice none 0 0] 24))
  have LR := Lib.hid (Lies.new (u := (w.alloc (.cells #[.slice A xs.length c] 24)).alloc (.cells #[.slice B ys.length e] 24)) (k := w.heap.size + 1 + 1) (t := 24) (cs := #[.slice none 0 0]) (by simp))
  clear h h2 hA hB hc hd c1 c2 hcx hcy
  unfold mergeE clashE at *
  by_cases h0 : bothE xs ys = 0
  · have hb0 : ¬ bothE xs ys ≠ 0 := by simpa using h0
    rw [if_neg hb0]
    rw [if_neg hb0] at HCL
    have hlx : xs.length ≤ 60 := lay_len (by unfold bothE at h0; split at h0 <;> simp_all)
    have hly : ys.length ≤ 60 := lay_len (by unfold bothE at h0; split at h0 <;> simp_all)
    have hjl := joinL_len xs ys
    clear h0 hb0
    by_cases h1 : clashR xs ys xs.length = []
    · rw [if_neg (by simpa using h1)]
      rw [h1] at HCL
      clear h1
      by_cases h3 : layE (joinL xs ys) = 0
      all_goals
        obtain ⟨MM, hMM⟩ : ∃ MM : List Iss × Int, (if layE (joinL xs ys) ≠ 0 then (([], layE (joinL xs ys)) : List Iss × Int) else (joinL xs ys, 0)) = MM := ⟨_, rfl⟩
        rw [hMM]
        first | rw [if_neg (by simpa using h3)] at hMM | rw [if_pos h3] at hMM
        have HMM := Lib.hid hMM
        clear hMM
        go_enter Try.func48, Try.ntmps48
        go_wp2_with fail
        refine (HCL.out _ (by (repeat' (first | (with_reducible first | exact Below.refl _ _ | assumption | refine Below.alloc ?_ ?_ _ | refine Below.setCell ?_ ?_ _ | refine below_row ?_ ?_ _ | refine Below.drew ?_ | refine below_drewN ?_ _ | refine Below.trans ?_ (Below.mono (by assumption) ?_)) | exact Nat.le_refl _ | omega | (simp; done) | (simp; omega) | exact Below.size (by assumption))))).mono ?_
        rintro e1 w1 ⟨⟨A1, c1, rfl⟩, hb1⟩
        have hbw1 : Below w.heap.size w w1 := by (repeat' (first | (with_reducible first | exact Below.refl _ _ | assumption | refine Below.alloc ?_ ?_ _ | refine Below.setCell ?_ ?_ _ | refine below_row ?_ ?_ _ | refine Below.drew ?_ | refine below_drewN ?_ _ | refine Below.trans ?_ (Below.mono (by assumption) ?_)) | exact Nat.le_refl _ | omega | (simp; done) | (simp; omega) | exact Below.size (by assumption)))
        have LI1 := Lib.hid (LI.out.after hb1)
        have LJ1 := Lib.hid (LJ.out.after hb1)
        have LR1 := Lib.hid (LR.out.after hb1)
        have x0 := LI1.out.cell 0
        have y0 := LJ1.out.cell 0
        have zi := LI1.out.lt
        have zj := LJ1.out.lt
        have hs1 := hbw1.size
        clear hb1 HCL LI LJ LR
        go_wp2_with fail
        refine (HJN.out _ (by (repeat' (first | (with_reducible first | exact Below.refl _ _ | assumption | refine Below.alloc ?_ ?_ _ | refine Below.setCell ?_ ?_ _ | refine below_row ?_ ?_ _ | refine Below.drew ?_ | refine below_drewN ?_ _ | refine Below.trans ?_ (Below.mono (by assumption) ?_)) | exact Nat.le_refl _ | omega | (simp; done) | (simp; omega) | exact Below.size (by assumption))))).mono ?_
        rintro e2 w2 ⟨v2, rs, rfl, ho2, hm2, hb2⟩
        have hbw2 : Below w.heap.size w w2 := by (repeat' (first | (with_reducible first | exact Below.refl _ _ | assumption | refine Below.alloc ?_ ?_ _ | refine Below.setCell ?_ ?_ _ | refine below_row ?_ ?_ _ | refine Below.drew ?_ | refine below_drewN ?_ _ | refine Below.trans ?_ (Below.mono (by assumption) ?_)) | exact Nat.le_refl _ | omega | (simp; done) | (simp; omega) | exact Below.size (by assumption)))
        have LR2 := Lib.hid (LR1.out.after hb2)
        have hb12 : Below w1.heap.size w1 w2 := by (repeat' (first | (with_reducible first | exact Below.refl _ _ | assumption | refine Below.alloc ?_ ?_ _ | refine Below.setCell ?_ ?_ _ | refine below_row ?_ ?_ _ | refine Below.drew ?_ | refine below_drewN ?_ _ | refine Below.trans ?_ (Below.mono (by assumption) ?_)) | exact Nat.le_refl _ | omega | (simp; done) | (simp; omega) | exact Below.size (by assumption)))
        have hs2 := hbw2.size
        have hrl : rs.length ≤ 1000 := Nat.le_trans (map_len hm2) (by omega)
        have HO2 := Lib.hid (ho2.less hs1)
        obtain ⟨A2, c2, g2, rfl, -, -⟩ := ho2.form
        have HCK := Lib.hid (fun W (hW : Below w2.heap.size w2 W) => sCheck_any (xs := rs.map (·.1)) ((HO2.out.after hW).reg (by omega) (by rw [hm2]; exact HSM.out)))
        rw [hm2] at HCK
        have HM2 := Lib.hid hm2
        clear ho2 hm2 hb2 x0 y0 zi zj LI1 LJ1 LR1 HJN
        go_wp2_with fail
        refine (HCK.out _ (by (repeat' (first | (with_reducible first | exact Below.refl _ _ | assumption | refine Below.alloc ?_ ?_ _ | refine Below.setCell ?_ ?_ _ | refine below_row ?_ ?_ _ | refine Below.drew ?_ | refine below_drewN ?_ _ | refine Below.trans ?_ (Below.mono (by assumption) ?_)) | exact Nat.le_refl _ | omega | (simp; done) | (simp; omega) | exact Below.size (by assumption))))).mono ?_
        rintro e3 w3 ⟨rfl, hb3⟩
        obtain ⟨wS, hwS⟩ : ∃ W, w2.alloc (.cells #[.slice A2 rs.length c2] 24) = W := ⟨_, rfl⟩
        have hb2S : Below w2.heap.size w2 wS := by rw [← hwS]; (repeat' (first | (with_reducible first | exact Below.refl _ _ | assumption | refine Below.alloc ?_ ?_ _ | refine Below.setCell ?_ ?_ _ | refine below_row ?_ ?_ _ | refine Below.drew ?_ | refine below_drewN ?_ _ | refine Below.trans ?_ (Below.mono (by assumption) ?_)) | exact Nat.le_refl _ | omega | (simp; done) | (simp; omega) | exact Below.size (by assumption)))
        have LS : Hid (Lies wS w2.heap.size 24 #[.slice A2 rs.length c2]) := Lib.hid (by rw [← hwS]; exact Lies.made w2 24 #[.slice A2 rs.length c2])
        rw [hwS] at hb3
        clear hwS HCK
        have hb23 : Below w2.heap.size w2 w3 := hb2S.trans (hb3.mono hb2S.size)
        have hbw3 : Below w.heap.size w w3 := hbw2.trans (hb23.mono hs2)
        have HO3 := Lib.hid (HO2.out.after hb23)
        have LS3 := Lib.hid (LS.out.after hb3)
        have LR3 := Lib.hid (LR2.out.after hb23)
        have s0 := LS3.out.cell 0
        have zs := LS3.out.lt
        have r0 := LR3.out.cell 0
        have fr := LR3.out.free 0
        have zr := LR3.out.lt
        clear hb3 LS HO2 LR2
      · have HF := Lib.hid (HO3.out.set LR3.out (by decide) (by decide) (by decide) 0 (.slice A2 rs.length c2))
        rw [h3]
        go_wp2_with fail
        obtain rfl := HMM.out
        exact bodyPost_ret (results_cell_tmp rfl _ _ (w.heap.size + 1 + 1) _ _ _ _ rfl rfl (LR3.out.store 0 _) Try.underlying24 rfl (by kernel_rfl)) rfl ⟨_, rs, rfl, HF.out, HM2.out, by (repeat' (first | (with_reducible first | exact Below.refl _ _ | assumption | refine Below.alloc ?_ ?_ _ | refine Below.setCell ?_ ?_ _ | refine below_row ?_ ?_ _ | refine Below.drew ?_ | refine below_drewN ?_ _ | refine Below.trans ?_ (Below.mono (by assumption) ?_)) | exact Nat.le_refl _ | omega | (simp; done) | (simp; omega) | exact Below.size (by assumption)))⟩
      · have hne : (layE (joinL xs ys) != 0) = true := by simpa using h3
        generalize layE (joinL xs ys) = ej at *
        go_wp2_with fail
        obtain rfl := HMM.out
        exact bodyPost_ret (results_cell_tmp rfl _ _ (w.heap.size + 1 + 1) _ _ _ _ rfl rfl (LR3.out.store 0 (.slice none 0 0)) Try.underlying24 rfl (by kernel_rfl)) rfl (mergeP_none (by (repeat' (first | (with_reducible first | exact Below.refl _ _ | assumption | refine Below.alloc ?_ ?_ _ | refine Below.setCell ?_ ?_ _ | refine below_row ?_ ?_ _ | refine Below.drew ?_ | refine below_drewN ?_ _ | refine Below.trans ?_ (Below.mono (by assumption) ?_)) | exact Nat.le_refl _ | omega | (simp; done) | (simp; omega) | exact Below.size (by assumption)))))
    · rw [if_pos h1]
      have hn : 0 < (clashR xs ys xs.length).length := List.length_pos_iff.2 h1
      have kn : (0 : Int) < ((clashR xs ys xs.length).length : Int) := by omega
      obtain ⟨MM, hMM⟩ : ∃ MM : List Iss × Int, (([], 23) : List Iss × Int) = MM := ⟨_, rfl⟩
      rw [hMM]
      have HMM := Lib.hid hMM
      clear hMM h1 hn
      generalize (clashR xs ys xs.length).length = cn at *
      go_enter Try.func48, Try.ntmps48
      go_wp2_with fail
      refine (HCL.out _ (by (repeat' (first | (with_reducible first | exact Below.refl _ _ | assumption | refine Below.alloc ?_ ?_ _ | refine Below.setCell ?_ ?_ _ | refine below_row ?_ ?_ _ | refine Below.drew ?_ | refine below_drewN ?_ _ | refine Below.trans ?_ (Below.mono (by assumption) ?_)) | exact Nat.le_refl _ | omega | (simp; done) | (simp; omega) | exact Below.size (by assumption))))).mono ?_
      rintro e1 w1 ⟨⟨A1, c1, rfl⟩, hb1⟩
      have hbw1 : Below w.heap.size w w1 := by (repeat' (first | (with_reducible first | exact Below.refl _ _ | assumption | refine Below.alloc ?_ ?_ _ | refine Below.setCell ?_ ?_ _ | refine below_row ?_ ?_ _ | refine Below.drew ?_ | refine below_drewN ?_ _ | refine Below.trans ?_ (Below.mono (by assumption) ?_)) | exact Nat.le_refl _ | omega | (simp; done) | (simp; omega) | exact Below.size (by assumption)))
      have LR1 := Lib.hid (LR.out.after hb1)
      have r0 := LR1.out.cell 0
      have fr := LR1.out.free 0
      have zr := LR1.out.lt
      clear hb1 HCL LI LJ LR HJN
      go_wp2_with fail
      obtain rfl := HMM.out
      exact bodyPost_ret (results_cell_tmp rfl _ _ (w.heap.size + 1 + 1) _ _ _ _ rfl rfl (LR1.out.store 0 (.slice none 0 0)) Try.underlying24 rfl (by kernel_rfl)) rfl (mergeP_none (by (repeat' (first | (with_reducible first | exact Below.refl _ _ | assumption | refine Below.alloc ?_ ?_ _ | refine Below.setCell ?_ ?_ _ | refine below_row ?_ ?_ _ | refine Below.drew ?_ | refine below_drewN ?_ _ | refine Below.trans ?_ (Below.mono (by assumption) ?_)) | exact Nat.le_refl _ | omega | (simp; done) | (simp; omega) | exact Below.size (by assumption)))))
  · rw [if_pos h0]
    rw [if_pos h0] at HCL
    have hne : (bothE xs ys != 0) = true := by simpa using h0
    clear h0
    generalize bothE xs ys = be at *
    obtain ⟨MM, hMM⟩ : ∃ MM : List Iss × Int, (([], be) : List Iss × Int) = MM := ⟨_, rfl⟩
    rw [hMM]
    have HMM := Lib.hid hMM
    clear hMM
    go_enter Try.func48, Try.ntmps48
    go_wp2_with fail
    refine (HCL.out _ (by (repeat' (first | (with_reducible first | exact Below.refl _ _ | assumption | refine Below.alloc ?_ ?_ _ | refine Below.setCell ?_ ?_ _ | refine below_row ?_ ?_ _ | refine Below.drew ?_ | refine below_drewN ?_ _ | refine Below.trans ?_ (Below.mono (by assumption) ?_)) | exact Nat.le_refl _ | omega | (simp; done) | (simp; omega) | exact Below.size (by assumption))))).mono ?_
    rintro e1 w1 ⟨⟨A1, c1, rfl⟩, hb1⟩
    have hbw1 : Below w.heap.size w w1 := by (repeat' (first | (with_reducible first | exact Below.refl _ _ | assumption | refine Below.alloc ?_ ?_ _ | refine Below.setCell ?_ ?_ _ | refine below_row ?_ ?_ _ | refine Below.drew ?_ | refine below_drewN ?_ _ | refine Below.trans ?_ (Below.mono (by assumption) ?_)) | exact Nat.le_refl _ | omega | (simp; done) | (simp; omega) | exact Below.size (by assumption)))
    have LR1 := Lib.hid (LR.out.after hb1)
    have r0 := LR1.out.cell 0
    have fr := LR1.out.free 0
    have zr := LR1.out.lt
    clear hb1 HCL LI LJ LR HJN
    go_wp2_with fail
    obtain rfl := HMM.out
    exact bodyPost_ret (results_cell_tmp rfl _ _ (w.heap.size + 1 + 1) _ _ _ _ rfl rfl (LR1.out.store 0 (.slice none 0 0)) Try.underlying24 rfl (by kernel_rfl)) rfl (mergeP_none (by (repeat' (first | (with_reducible first | exact Below.refl _ _ | assumption | refine Below.alloc ?_ ?_ _ | refine Below.setCell ?_ ?_ _ | refine below_row ?_ ?_ _ | refine Below.drew ?_ | refine below_drewN ?_ _ | refine Below.trans ?_ (Below.mono (by assumption) ?_)) | exact Nat.le_refl _ | omega | (simp; done) | (simp; omega) | exact Below.size (by assumption)))))
end Go.Proofs.Ytkjfceajakhlfaa
