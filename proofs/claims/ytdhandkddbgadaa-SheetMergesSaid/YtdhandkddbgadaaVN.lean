/- Merge of the reference. -/
import Derived.Test.YtdhandkddbgadaaVM
namespace Go.Proofs.Ytdhandkddbgadaa
set_option linter.unusedVariables false
set_option linter.unusedSimpArgs false
open Go.RowKit

set_option maxRecDepth 100000 in
set_option maxHeartbeats 16000000 in
theorem rMerge_any {vI vJ : Value} {xs ys : List Iss} {w : World} (h : RegAt w vI xs) (h2 : RegAt w vJ ys) : Calls Try.prog 49 #[.agg #[vI], .agg #[vJ]] w (MergeP (mergeE xs ys) w) := by
  have HBO := Lib.hid (fun W (hW : Below w.heap.size w W) => rBoth_any (h.after hW) (h2.after hW))
  have HCL := Lib.hid (fun W (hW : Below w.heap.size w W) => rclash_any (h.after hW) (h2.after hW))
  obtain ⟨A, c, b, off, vi, vd, rfl, hA, hc⟩ := h.at_.row
  obtain ⟨B, e, b2, off2, ui, ud, rfl, hB, hd⟩ := h2.at_.row
  have LI := Lib.hid (((Lies.made w 24 #[.slice A xs.length c]).alloc (.cells #[.slice B ys.length e] 24)).alloc (.cells #[.slice none 0 0] 24))
  have LJ := Lib.hid ((Lies.new (u := w.alloc (.cells #[.slice A xs.length c] 24)) (k := w.heap.size + 1) (t := 24) (cs := #[.slice B ys.length e]) (by simp)).alloc (.cells #[.slice none 0 0] 24))
  have LR := Lib.hid (Lies.new (u := (w.alloc (.cells #[.slice A xs.length c] 24)).alloc (.cells #[.slice B ys.length e] 24)) (k := w.heap.size + 1 + 1) (t := 24) (cs := #[.slice none 0 0]) (by simp))
  by_cases h0 : bothE xs ys = 0
  · have hx0 : layE xs = 0 := by unfold bothE at h0; split at h0 <;> simp_all
    have hy0 : layE ys = 0 := by unfold bothE at h0; split at h0 <;> simp_all
    by_cases h1 : clashR xs ys xs.length = []
    · exact rMerge_go h h2 hA hB hc hd hx0 hy0 h1
    · have HMM : Hid (mergeE xs ys = (([], 23) : List Iss × Int)) := Lib.hid (by unfold mergeE; rw [if_neg (by simpa using h0), if_pos h1])
      obtain ⟨MM, hMM⟩ : ∃ MM, mergeE xs ys = MM := ⟨_, rfl⟩
      rw [hMM] at HMM ⊢
      clear hMM
      rw [h0] at HBO
      have hn : 0 < (clashR xs ys xs.length).length := List.length_pos_iff.2 h1
      have kn : (0 : Int) < ((clashR xs ys xs.length).length : Int) := by omega
      clear h h2 hA hB hc hd h0 hx0 hy0 h1 hn
      generalize clashR xs ys xs.length = CL at *
      go_enter Try.func49, Try.ntmps49
      go_wp2_with fail
      refine (HBO.out _ (by (repeat' (first | (with_reducible exact Below.refl _ _) | (with_reducible assumption) | (with_reducible refine Below.alloc ?_ ?_ _) | (with_reducible refine Below.setCell ?_ ?_ _) | (with_reducible refine below_row ?_ ?_ _) | (with_reducible refine Below.drew ?_) | (with_reducible refine below_drewN ?_ _) | (with_reducible refine Below.trans ?_ (Below.mono (by assumption) ?_)) | (first | exact Nat.le_refl _ | omega | (simp; done) | (simp; omega) | (exact Below.size (by assumption))))))).mono ?_
      rintro e1 w1 ⟨rfl, hb1⟩
      have hbw1 : Below w.heap.size w w1 := by (repeat' (first | (with_reducible exact Below.refl _ _) | (with_reducible assumption) | (with_reducible refine Below.alloc ?_ ?_ _) | (with_reducible refine Below.setCell ?_ ?_ _) | (with_reducible refine below_row ?_ ?_ _) | (with_reducible refine Below.drew ?_) | (with_reducible refine below_drewN ?_ _) | (with_reducible refine Below.trans ?_ (Below.mono (by assumption) ?_)) | (first | exact Nat.le_refl _ | omega | (simp; done) | (simp; omega) | (exact Below.size (by assumption)))))
      have LI1 := Lib.hid (LI.out.after hb1)
      have LJ1 := Lib.hid (LJ.out.after hb1)
      have LR1 := Lib.hid (LR.out.after hb1)
      have x0 := LI1.out.cell 0
      have y0 := LJ1.out.cell 0
      have zi := LI1.out.lt
      have zj := LJ1.out.lt
      clear hb1 HBO LI LJ LR
      go_wp2_with fail
      refine (HCL.out _ (by (repeat' (first | (with_reducible exact Below.refl _ _) | (with_reducible assumption) | (with_reducible refine Below.alloc ?_ ?_ _) | (with_reducible refine Below.setCell ?_ ?_ _) | (with_reducible refine below_row ?_ ?_ _) | (with_reducible refine Below.drew ?_) | (with_reducible refine below_drewN ?_ _) | (with_reducible refine Below.trans ?_ (Below.mono (by assumption) ?_)) | (first | exact Nat.le_refl _ | omega | (simp; done) | (simp; omega) | (exact Below.size (by assumption))))))).mono ?_
      rintro e2 w2 ⟨v2, rfl, ho2, hb2⟩
      obtain ⟨A2, c2, g2, rfl, -⟩ := own_form ho2
      have hb12 : Below w1.heap.size w1 w2 := by (repeat' (first | (with_reducible exact Below.refl _ _) | (with_reducible assumption) | (with_reducible refine Below.alloc ?_ ?_ _) | (with_reducible refine Below.setCell ?_ ?_ _) | (with_reducible refine below_row ?_ ?_ _) | (with_reducible refine Below.drew ?_) | (with_reducible refine below_drewN ?_ _) | (with_reducible refine Below.trans ?_ (Below.mono (by assumption) ?_)) | (first | exact Nat.le_refl _ | omega | (simp; done) | (simp; omega) | (exact Below.size (by assumption)))))
      have hbw2 : Below w.heap.size w w2 := hbw1.trans (hb12.mono hbw1.size)
      have LR2 := Lib.hid (LR1.out.after hb12)
      have r0 := LR2.out.cell 0
      have fr := LR2.out.free 0
      have zr := LR2.out.lt
      clear ho2 hb2 HCL x0 y0 zi zj LI1 LJ1 LR1 hb12
      go_wp2_with fail
      obtain rfl := HMM.out
      exact bodyPost_ret (results_cell_tmp rfl _ _ (w.heap.size + 1 + 1) _ _ _ _ rfl rfl (LR2.out.store 0 (.slice none 0 0)) Try.underlying24 rfl (by kernel_rfl)) rfl (mergeP_none (by (repeat' (first | (with_reducible exact Below.refl _ _) | (with_reducible assumption) | (with_reducible refine Below.alloc ?_ ?_ _) | (with_reducible refine Below.setCell ?_ ?_ _) | (with_reducible refine below_row ?_ ?_ _) | (with_reducible refine Below.drew ?_) | (with_reducible refine below_drewN ?_ _) | (with_reducible refine Below.trans ?_ (Below.mono (by assumption) ?_)) | (first | exact Nat.le_refl _ | omega | (simp; done) | (simp; omega) | (exact Below.size (by assumption)))))))
  · have HMM : Hid (mergeE xs ys = (([], bothE xs ys) : List Iss × Int)) := Lib.hid (by unfold mergeE; rw [if_pos h0])
    obtain ⟨MM, hMM⟩ : ∃ MM, mergeE xs ys = MM := ⟨_, rfl⟩
    rw [hMM] at HMM ⊢
    have hne : (bothE xs ys != 0) = true := by simpa using h0
    clear hMM h h2 hA hB hc hd h0 HCL
    generalize bothE xs ys = be at *
    go_enter Try.func49, Try.ntmps49
    go_wp2_with fail
    refine (HBO.out _ (by (repeat' (first | (with_reducible exact Below.refl _ _) | (with_reducible assumption) | (with_reducible refine Below.alloc ?_ ?_ _) | (with_reducible refine Below.setCell ?_ ?_ _) | (with_reducible refine below_row ?_ ?_ _) | (with_reducible refine Below.drew ?_) | (with_reducible refine below_drewN ?_ _) | (with_reducible refine Below.trans ?_ (Below.mono (by assumption) ?_)) | (first | exact Nat.le_refl _ | omega | (simp; done) | (simp; omega) | (exact Below.size (by assumption))))))).mono ?_
    rintro e1 w1 ⟨rfl, hb1⟩
    have hbw1 : Below w.heap.size w w1 := by (repeat' (first | (with_reducible exact Below.refl _ _) | (with_reducible assumption) | (with_reducible refine Below.alloc ?_ ?_ _) | (with_reducible refine Below.setCell ?_ ?_ _) | (with_reducible refine below_row ?_ ?_ _) | (with_reducible refine Below.drew ?_) | (with_reducible refine below_drewN ?_ _) | (with_reducible refine Below.trans ?_ (Below.mono (by assumption) ?_)) | (first | exact Nat.le_refl _ | omega | (simp; done) | (simp; omega) | (exact Below.size (by assumption)))))
    have LR1 := Lib.hid (LR.out.after hb1)
    have r0 := LR1.out.cell 0
    have fr := LR1.out.free 0
    have zr := LR1.out.lt
    clear hb1 HBO LI LJ LR
    go_wp2_with fail
    obtain rfl := HMM.out
    exact bodyPost_ret (results_cell_tmp rfl _ _ (w.heap.size + 1 + 1) _ _ _ _ rfl rfl (LR1.out.store 0 (.slice none 0 0)) Try.underlying24 rfl (by kernel_rfl)) rfl (mergeP_none (by (repeat' (first | (with_reducible exact Below.refl _ _) | (with_reducible assumption) | (with_reducible refine Below.alloc ?_ ?_ _) | (with_reducible refine Below.setCell ?_ ?_ _) | (with_reducible refine below_row ?_ ?_ _) | (with_reducible refine Below.drew ?_) | (with_reducible refine below_drewN ?_ _) | (with_reducible refine Below.trans ?_ (Below.mono (by assumption) ?_)) | (first | exact Nat.le_refl _ | omega | (simp; done) | (simp; omega) | (exact Below.size (by assumption)))))))
end Go.Proofs.Ytdhandkddbgadaa
