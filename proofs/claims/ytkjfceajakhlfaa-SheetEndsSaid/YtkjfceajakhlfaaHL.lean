/- letters: letters of a register, by choices. -/
import Derived.Test.YtkjfceajakhlfaaHX
import Derived.Test.YtkjfceajakhlfaaHT
namespace Go.Proofs.Ytkjfceajakhlfaa
set_option linter.unusedVariables false
set_option linter.unusedSimpArgs false
section
open Go.RowKit

theorem take_letters {xs : List Iss} (by_ : List Int) {k : Nat} (hk : k < (numbersL xs).length) : (lettersF xs by_).take (k + 1) = (lettersF xs by_).take k ++ [letterF xs by_ k (numbersL xs)[k]] := by
  rw [List.take_succ_eq_append_getElem (by rw [letters_len]; exact hk)]
  congr 2
  simp [lettersF, hk]
set_option maxRecDepth 100000 in
set_option maxHeartbeats 4000000 in
theorem letters_any {w : World} {vI v : Value} {xs : List Iss} {by_ : List Int} (h : RegAt w vI xs) (hB : ByAt w v by_) (h0 : layE xs = 0) (hl : by_.length ≤ 9223372036854775807) :
    Calls Try.prog 57 #[.agg #[vI], v] w fun e w' => ∃ A c, e = .returned (.slice A (lettersF xs by_).length c) ∧ IntsAt w' (.slice A (lettersF xs by_).length c) (lettersF xs by_) ∧ Below w.heap.size w w' := by
  have HN := Lib.hid (fun W (hW : Below w.heap.size w W) => rNumbers_v (h.after hW))
  have HLO := Lib.hid (fun d W (hW : Below w.heap.size w W) => rLastOf_v d (h.after hW))
  have HCH := Lib.hid (fun W k (hW : Below w.heap.size w W) (hk : k ≤ 1000) => lchoose_any k hk (hB.after hW) hl)
  have HCB := Lib.hid (fun k => choose_bd hB.2 k)
  have HLP := Lib.hid (fun d (hd : d ∈ numbersL xs) => last_pos h0 hd)
  have hsm := (layE_ok h0).2.2.1
  have hns := numbers_same (layE_ok h0).2.1
  rw [hns] at HN
  have HTL := Lib.hid (fun k (hk : k < (numbersL xs).length) => take_letters by_ hk)
  have HLF : Hid (∀ k d, letterF xs by_ k d = 1 + (chooseF by_ k).tmod (lastOfR d 0 xs)) := Lib.hid (fun _ _ => rfl)
  have hln := letters_len xs by_
  have HLN := Lib.hid hln
  have hall : (lettersF xs by_).take (numbersL xs).length = lettersF xs by_ := by rw [← hln]; exact List.take_length
  have HALL := Lib.hid hall
  rw [hln]
  obtain ⟨AI, cI, rfl⟩ := h.slice
  obtain ⟨AB, cB, rfl⟩ := hB.slice
  obtain ⟨i0, hi, iz0, iz1, iz2⟩ := info_parts infoN
  have HD0 := Lib.hid (Lies.made w 24 #[.slice AI xs.length cI])
  clear h hB h0 hns hl hln hall
  generalize lettersF xs by_ = ls at *
  generalize numbersL xs = zs at *
  go_enter Try.func57, Try.ntmps57
  go_wp2_with fail
  refine (HN.out _ (by (repeat' (first | (with_reducible first | exact Below.refl _ _ | assumption | refine Below.alloc ?_ ?_ _ | refine Below.setCell ?_ ?_ _ | refine below_row ?_ ?_ _ | refine Below.drew ?_ | refine below_drewN ?_ _ | refine Below.trans ?_ (Below.mono (by assumption) ?_)) | exact Nat.le_refl _ | omega | (simp; done) | (simp; omega) | exact Below.size (by assumption))))).mono ?_
  rintro e1 w1 ⟨vN, rfl, ho, hb1⟩
  have hin := ints_of_own ho
  have hq1 : Below w.heap.size w w1 := by (repeat' (first | (with_reducible first | exact Below.refl _ _ | assumption | refine Below.alloc ?_ ?_ _ | refine Below.setCell ?_ ?_ _ | refine below_row ?_ ?_ _ | refine Below.drew ?_ | refine below_drewN ?_ _ | refine Below.trans ?_ (Below.mono (by assumption) ?_)) | exact Nat.le_refl _ | omega | (simp; done) | (simp; omega) | exact Below.size (by assumption)))
  have s1 := hq1.size
  have HD1 := Lib.hid (HD0.out.after hb1)
  obtain ⟨AN, cN, bN, oN, rfl, hAN, hcN⟩ := hin
  have HAN := Lib.hid hAN
  have HCN := Lib.hid hcN
  clear ho hb1 hAN hcN HN HD0
  go_wp2_with fail
  go_loopw [5, 11] (fun v i wr => ∃ (k : Nat) (AO : Option Addr) (cO : Nat), k ≤ zs.length ∧ i = .int .i64 k ∧ v = .slice AO k cO ∧ Hid (wr.ownsRow w1.heap.size 3 1 (.slice AO k cO) k (cellsN (ls.take k))) ∧ Below w1.heap.size w1 wr) (fun _ i _ => zs.length - (intOf i).toNat)
  case atStart => exact ⟨0, none, 0, by omega, rfl, rfl, Lib.hid (World.ownsRow_nil _ _ _ _), by (repeat' (first | (with_reducible first | exact Below.refl _ _ | assumption | refine Below.alloc ?_ ?_ _ | refine Below.setCell ?_ ?_ _ | refine below_row ?_ ?_ _ | refine Below.drew ?_ | refine below_drewN ?_ _ | refine Below.trans ?_ (Below.mono (by assumption) ?_)) | exact Nat.le_refl _ | omega | (simp; done) | (simp; omega) | exact Below.size (by assumption)))⟩
  case round =>
    obtain ⟨k, AO, cO, hk, rfl, rfl, HO, hb⟩ := hrel
    by_cases hlt : k < zs.length
    · have kl1 : (k : Int) < (zs.length : Int) := by omega
      obtain rfl := HAN.out (by omega)
      have r0 : wr.cell? ⟨bN, oN + k, none⟩ = some (.int .i64 (zs[k])) := cell_keep hb (HCN.out k hlt)
      have HZ := Lib.hid (HLP.out zs[k] (List.getElem_mem hlt))
      have HTK := Lib.hid (HTL.out k hlt)
      rw [HLF.out] at HTK
      generalize zs[k] = z at *
      have hbw : Below w.heap.size w wr := hq1.trans (hb.mono s1)
      have HC := Lib.hid (fun W (hW : Below wr.heap.size wr W) => HCH.out W k (hbw.trans (hW.mono hbw.size)) (by omega))
      have HL := Lib.hid (fun W (hW : Below wr.heap.size wr W) => HLO.out z W (hbw.trans (hW.mono hbw.size)))
      obtain ⟨c0, c1⟩ := HCB.out k
      have l0 := HZ.out
      generalize chooseF by_ k = c at *
      generalize lastOfR z 0 xs = L at *
      have t0 : 0 ≤ c.tmod L := by rw [Int.tmod_eq_emod_of_nonneg c0]; exact Int.emod_nonneg _ (by omega)
      have t1 : c.tmod L ≤ c := by rw [Int.tmod_eq_emod_of_nonneg c0]; exact emod_le c0 (by omega)
      have k1 : IntKind.i64.wrap (c.tmod L) = c.tmod L := IntWalk.i64_in _ (by omega)
      have k2 : IntKind.i64.wrap (1 + c.tmod L) = 1 + c.tmod L := IntWalk.i64_in _ (by omega)
      have hz2 : (L == 0) = false := by rw [beq_eq_false_iff_ne]; omega
      have hz3 : ¬ L = 0 := by omega
      have HD2 := Lib.hid (HD1.out.after hb)
      have x0 := HD2.out.cell 0
      have zx := HD2.out.lt
      go_upto_region 5 with fail
      refine wp_region_held_drew (S := fun W => W.cell? ⟨w.heap.size, 0, none⟩ = some (.slice AI xs.length cI)) (by kernel_rfl) x0 (fun hHeld => ?_)
      refine take_at (i := 0) (v := ?_) rfl (by kernel_rfl) (by kernel_rfl) (by kernel_rfl) (fun _ _ _ h => h) (Or.inl ⟨by rfl, ?_⟩) (by assumption) ?_
      rotate_left
      · (intro w hSw; (try dsimp only at hSw); go_simp; (try with_reducible rfl))
      try simp only [Act.put, List.setIfInBounds_toArray, List.set_cons_zero, List.set_cons_succ]
      refine take_at (i := 1) (v := ?_) rfl (by kernel_rfl) (by kernel_rfl) (by kernel_rfl) (fun _ _ _ h => h) (Or.inl ⟨by rfl, ?_⟩) (by assumption) ?_
      rotate_left
      · (intro w hSw; (try dsimp only at hSw); go_simp; (try with_reducible rfl))
      try simp only [Act.put, List.setIfInBounds_toArray, List.set_cons_zero, List.set_cons_succ]
      refine take_at (i := 2) (v := ?_) rfl (by kernel_rfl) (by kernel_rfl) (by kernel_rfl) (fun _ _ _ h => h) (Or.inl ⟨by rfl, ?_⟩) (by assumption) ?_
      rotate_left
      · (intro w hSw; (try dsimp only at hSw); go_simp; (try with_reducible rfl))
      try simp only [Act.put, List.setIfInBounds_toArray, List.set_cons_zero, List.set_cons_succ]
      refine take_at (i := 4) (v := ?_) rfl (by kernel_rfl) (by kernel_rfl) (by kernel_rfl) (fun _ _ _ h => h) (Or.inl ⟨by rfl, ?_⟩) (by assumption) ?_
      rotate_left
      · (intro w hSw; (try dsimp only at hSw); go_simp; (try with_reducible rfl))
      try simp only [Act.put, List.setIfInBounds_toArray, List.set_cons_zero, List.set_cons_succ]
      refine take_at (i := 5) (v := ?_) rfl (by kernel_rfl) (by kernel_rfl) (by kernel_rfl) (fun _ _ _ h => h) (Or.inl ⟨by rfl, ?_⟩) (by assumption) ?_
      rotate_left
      · (intro w hSw; (try dsimp only at hSw); go_simp; (try with_reducible rfl))
      try simp only [Act.put, List.setIfInBounds_toArray, List.set_cons_zero, List.set_cons_succ]
      refine wpAnyH_ready (rs := [3]) (by kernel_rfl) (by simp) ?_
      refine cons_at rfl (fun K hK => ?_) AllReadyH.nil
      (first | (go_at_call 102; refine (HC.out _ (by (repeat' (first | (with_reducible first | exact Below.refl _ _ | assumption | refine Below.alloc ?_ ?_ _ | refine Below.setCell ?_ ?_ _ | refine below_row ?_ ?_ _ | refine Below.drew ?_ | refine below_drewN ?_ _ | refine Below.trans ?_ (Below.mono (by assumption) ?_)) | exact Nat.le_refl _ | omega | (simp; done) | (simp; omega) | exact Below.size (by assumption))))).mono ?_; rintro e3 w3 ⟨rfl, hb3⟩; have hv3 : Below wr.heap.size wr w3 := (by (repeat' (first | (with_reducible first | exact Below.refl _ _ | assumption | refine Below.alloc ?_ ?_ _ | refine Below.setCell ?_ ?_ _ | refine below_row ?_ ?_ _ | refine Below.drew ?_ | refine below_drewN ?_ _ | refine Below.trans ?_ (Below.mono (by assumption) ?_)) | exact Nat.le_refl _ | omega | (simp; done) | (simp; omega) | exact Below.size (by assumption)))); have HD3 := Lib.hid (HD2.out.after hv3); have x3 := HD3.out.cell 0; have z3 := HD3.out.lt; clear hb3) | (go_simp; go_at_call 102; refine (HC.out _ (by (repeat' (first | (with_reducible first | exact Below.refl _ _ | assumption | refine Below.alloc ?_ ?_ _ | refine Below.setCell ?_ ?_ _ | refine below_row ?_ ?_ _ | refine Below.drew ?_ | refine below_drewN ?_ _ | refine Below.trans ?_ (Below.mono (by assumption) ?_)) | exact Nat.le_refl _ | omega | (simp; done) | (simp; omega) | exact Below.size (by assumption))))).mono ?_; rintro e3 w3 ⟨rfl, hb3⟩; have hv3 : Below wr.heap.size wr w3 := (by (repeat' (first | (with_reducible first | exact Below.refl _ _ | assumption | refine Below.alloc ?_ ?_ _ | refine Below.setCell ?_ ?_ _ | refine below_row ?_ ?_ _ | refine Below.drew ?_ | refine below_drewN ?_ _ | refine Below.trans ?_ (Below.mono (by assumption) ?_)) | exact Nat.le_refl _ | omega | (simp; done) | (simp; omega) | exact Below.size (by assumption)))); have HD3 := Lib.hid (HD2.out.after hv3); have x3 := HD3.out.cell 0; have z3 := HD3.out.lt; clear hb3))
      refine hK.out _ _ ?_ (fun hHeld => ?_)
      · exact x3
      clear hK K
      try simp only [Act.put, List.setIfInBounds_toArray, List.set_cons_zero, List.set_cons_succ]
      refine wpAnyH_ready (rs := [6]) (by kernel_rfl) (by simp) ?_
      refine cons_at rfl (fun K hK => ?_) AllReadyH.nil
      (first | (go_at_call 62; refine (HL.out _ (by (repeat' (first | (with_reducible first | exact Below.refl _ _ | assumption | refine Below.alloc ?_ ?_ _ | refine Below.setCell ?_ ?_ _ | refine below_row ?_ ?_ _ | refine Below.drew ?_ | refine below_drewN ?_ _ | refine Below.trans ?_ (Below.mono (by assumption) ?_)) | exact Nat.le_refl _ | omega | (simp; done) | (simp; omega) | exact Below.size (by assumption))))).mono ?_; rintro e4 w4 ⟨rfl, hb4⟩; have hv4 : Below wr.heap.size wr w4 := (by (repeat' (first | (with_reducible first | exact Below.refl _ _ | assumption | refine Below.alloc ?_ ?_ _ | refine Below.setCell ?_ ?_ _ | refine below_row ?_ ?_ _ | refine Below.drew ?_ | refine below_drewN ?_ _ | refine Below.trans ?_ (Below.mono (by assumption) ?_)) | exact Nat.le_refl _ | omega | (simp; done) | (simp; omega) | exact Below.size (by assumption)))); have HD4 := Lib.hid (HD2.out.after hv4); have x4 := HD4.out.cell 0; have z4 := HD4.out.lt; clear hb4) | (go_simp; go_at_call 62; refine (HL.out _ (by (repeat' (first | (with_reducible first | exact Below.refl _ _ | assumption | refine Below.alloc ?_ ?_ _ | refine Below.setCell ?_ ?_ _ | refine below_row ?_ ?_ _ | refine Below.drew ?_ | refine below_drewN ?_ _ | refine Below.trans ?_ (Below.mono (by assumption) ?_)) | exact Nat.le_refl _ | omega | (simp; done) | (simp; omega) | exact Below.size (by assumption))))).mono ?_; rintro e4 w4 ⟨rfl, hb4⟩; have hv4 : Below wr.heap.size wr w4 := (by (repeat' (first | (with_reducible first | exact Below.refl _ _ | assumption | refine Below.alloc ?_ ?_ _ | refine Below.setCell ?_ ?_ _ | refine below_row ?_ ?_ _ | refine Below.drew ?_ | refine below_drewN ?_ _ | refine Below.trans ?_ (Below.mono (by assumption) ?_)) | exact Nat.le_refl _ | omega | (simp; done) | (simp; omega) | exact Below.size (by assumption)))); have HD4 := Lib.hid (HD2.out.after hv4); have x4 := HD4.out.cell 0; have z4 := HD4.out.lt; clear hb4))
      refine hK.out _ _ ?_ (fun hHeld => ?_)
      · exact x4
      clear hK K
      try simp only [Act.put, List.setIfInBounds_toArray, List.set_cons_zero, List.set_cons_succ]
      refine take_at (i := 7) (v := ?_) rfl (by kernel_rfl) (by kernel_rfl) (by kernel_rfl) (fun _ _ _ h => h) (Or.inl ⟨by rfl, ?_⟩) (by assumption) ?_
      rotate_left
      · (intro w hSw; (try dsimp only at hSw); go_simp; (try with_reducible rfl))
      try simp only [Act.put, List.setIfInBounds_toArray, List.set_cons_zero, List.set_cons_succ]
      refine take_at (i := 8) (v := ?_) rfl (by kernel_rfl) (by kernel_rfl) (by kernel_rfl) (fun _ _ _ h => h) (Or.inl ⟨by rfl, ?_⟩) (by assumption) ?_
      rotate_left
      · (intro w hSw; (try dsimp only at hSw); go_simp; (try with_reducible rfl))
      try simp only [Act.put, List.setIfInBounds_toArray, List.set_cons_zero, List.set_cons_succ]
      refine wpAnyH_ready (rs := [9]) (by kernel_rfl) (by simp) ?_
      refine cons_at rfl (fun K hK => ?_) AllReadyH.nil
      go_simp
      refine hK.out _ _ ?_ (fun hHeld => ?_)
      · exact (keep_nw x4)
      clear hK K
      try simp only [Act.put, List.setIfInBounds_toArray, List.set_cons_zero, List.set_cons_succ]
      refine wpAnyH_ready (rs := [10]) (by kernel_rfl) (by simp) ?_
      refine cons_at rfl (fun K hK => ?_) AllReadyH.nil
      (refine wp_append_own _ _ _ 29 rfl w1.heap.size 3 i0 (.int .i64 0) 1 8 Try.underlying29 hi iz0 iz1 iz2 rfl (by decide) _ _ _ rfl ((own_after HO.out hv4).alloc _) ⟨w4.heap.size, 0, none⟩ 1 1 [.int .i64 (1 + c.tmod L)] rfl rfl (World.news_of_block (cs := #[.int .i64 (1 + c.tmod L)]) (t := 3) (fr := (0, 0)) (Lies.new (by simp))) (by simp [Value.oneCell']) (by unfold maxLen; omega) (by omega) (by have := hb.size; have := hv4.size; simp; omega) ?_; intro v' w5 hown' hgrow _; have hgrow2 : (w4.alloc (.cells #[.int .i64 (1 + c.tmod L)] 3)).grownBy w5 (Value.slice AO k cO).ownBlock := hgrow; have hb14 : Below w1.heap.size w1 w4 := hb.trans (hv4.mono hb.size); have hb5 : Below w1.heap.size w1 w5 := (below_own (w0 := w1) (B := w1.heap.size) (by (repeat' (first | (with_reducible first | exact Below.refl _ _ | assumption | refine Below.alloc ?_ ?_ _ | refine Below.setCell ?_ ?_ _ | refine below_row ?_ ?_ _ | refine Below.drew ?_ | refine below_drewN ?_ _ | refine Below.trans ?_ (Below.mono (by assumption) ?_)) | exact Nat.le_refl _ | omega | (simp; done) | (simp; omega) | exact Below.size (by assumption)))) ((own_after HO.out hv4).alloc _) hgrow2 (Nat.le_refl _) (by have := hb14.size; simp; omega)); have x5 := (HD1.out.after hb5).cell 0; have hn5 : Hid (w5.ownsRow w1.heap.size 3 1 v' (k + 1) (cellsN (ls.take (k + 1)))) := Lib.hid (by rw [HTK.out]; simpa [cellsN] using hown'); obtain ⟨A5, c5, g5, rfl, -⟩ := own_form hown'; clear hown' hgrow hgrow2)
      refine hK.out _ _ ?_ (fun hHeld => ?_)
      · exact x5
      clear hK K
      try simp only [Act.put, List.setIfInBounds_toArray, List.set_cons_zero, List.set_cons_succ]
      refine take_at (i := 11) (v := ?_) rfl (by kernel_rfl) (by kernel_rfl) (by kernel_rfl) (fun _ _ _ h => h) (Or.inl ⟨by rfl, ?_⟩) (by assumption) ?_
      rotate_left
      · (intro w hSw; (try dsimp only at hSw); go_simp; (try with_reducible rfl))
      try simp only [Act.put, List.setIfInBounds_toArray, List.set_cons_zero, List.set_cons_succ]
      refine wpAnyH_done (by kernel_rfl) ?_ _
      go_wp2_with fail
      go_roundw
      case rel => exact ⟨k + 1, A5, c5, by omega, by go_num, rfl, hn5, hb5⟩
      case measure => simp [intOf]; omega
    · have hke : k = zs.length := by omega
      have HR : Hid (wr.ownsRow w1.heap.size 3 1 (.slice AO ls.length cO) ls.length (cellsN ls)) := Lib.hid (by have := HO.out; rw [hke, HALL.out, ← HLN.out] at this; exact this)
      rw [← HLN.out] at hke
      subst hke
      clear HO
      go_wp2
      go_ret
      exact ⟨AO, cO, by rw [← HLN.out]; rfl, by rw [← HLN.out]; exact ints_of_own HR.out, hq1.trans (hb.mono s1)⟩
end
end Go.Proofs.Ytkjfceajakhlfaa
