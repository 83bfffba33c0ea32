/- SheetBelow: the law's body. -/
import Derived.Test.YtmhlbdighceogaaRD
import Derived.Test.YtmhlbdighceogaaRE
import Derived.Test.YtmhlbdighceogaaHX
import Derived.Test.YtmhlbdighceogaaHL
import Derived.Test.YtmhlbdighceogaaHY
import Derived.Test.YtmhlbdighceogaaHF
namespace Go.Proofs.Ytmhlbdighceogaa
set_option linter.unusedVariables false
set_option linter.unusedSimpArgs false
open Go.RowKit

/-- All cells are as they were. -/
def CB (w w' : World) : Prop := ∀ (a : Addr) (v : Value), w.cell? a = some v → w'.cell? a = some v
theorem CB.refl (w : World) : CB w w := fun _ _ h => h
theorem CB.alloc {w w1 : World} (h : CB w w1) (o : Obj) : CB w (w1.alloc o) := fun _ _ e => keep_nw (h _ _ e)
theorem cell_nobmap {w : World} {b n : Nat} {S : Int → Bool} (h : BMap w b n S) {a : Addr} {v : Value} (ha : w.cell? a = some v) : a.block ≠ b := by
  intro e
  obtain ⟨D, ⟨es, cl, h1, -⟩, -⟩ := h
  unfold World.cell? at ha
  rw [e, h1] at ha
  split at ha <;> (first | cases ha | (rename_i hq; cases hq))
theorem CB.turned {w w1 w2 : World} {b n : Nat} {S : Int → Bool} (h : CB w w1) (hm : BMap w1 b n S) (ht : w1.mapTurned w2 b) : CB w w2 := fun a v e => by
  rw [cell_turned ht (cell_nobmap hm (h a v e))]
  exact h a v e
set_option maxRecDepth 100000 in
set_option maxHeartbeats 16000000 in
theorem below_ready {A : Option Addr} {c b off : Nat} {xs : List Iss} {vi vd : Nat → Value} {vB : Value} {by_ : List Int} (n : Nat) (w : World) (hn : n ≤ 255) (hm : xs.length ≤ 9223372036854775807) (hm2 : ∀ x ∈ xs, x.items.length ≤ 9223372036854775807 ∧ x.dims.length ≤ 9223372036854775807) (hA : 0 < xs.length → A = some ⟨b, off, none⟩) (hc : IssRow w b off xs vi vd) (hB : ByAt w vB by_) (hbl : by_.length ≤ 9223372036854775807) (hr1 : readyB xs = true) :
    Calls Try.prog 15 #[.agg #[.slice A xs.length c], vB, .int .u8 (n : Int)] w fun e w' => e = .returned (.bool true) ∧ Below w.heap.size w w' := by
  obtain ⟨hg1, h01⟩ := ready_parts hr1
  obtain ⟨hlen, hsml⟩ := great_no hg1
  have hr : RegAt w (.slice A xs.length c) xs := ⟨⟨A, c, b, off, rfl, hA, fun i hi => ⟨vi i, vd i, hc i hi⟩⟩, by omega, fun x hx => ⟨by have := (hsml x hx).1; omega, by have := (hsml x hx).2; omega⟩⟩
  have HQ1 := Lib.hid (fun W (hW : Below w.heap.size w W) => ready_any A c b off xs vi vd W hm hm2 hA (hc.after hW))
  rw [hr1] at HQ1
  have hsm := (layE_ok h01).2.2.1
  have hns := numbers_same (layE_ok h01).2.1
  have hps := numbers_strict (layE_ok h01).2.1
  have HLT := Lib.hid (fun W (h1 : RegAt W (.slice A xs.length c) xs) (h2 : ByAt W vB by_) => letters_any h1 h2 h01 hbl)
  have HDR := Lib.hid (fun W (h1 : RegAt W (.slice A xs.length c) xs) => drawing_any n hn h1 h01)
  have HNU := Lib.hid (fun W (h1 : RegAt W (.slice A xs.length c) xs) => rNumbers_v h1)
  rw [hns] at HNU
  have hls := letters_ok h01 hB.2
  have hlp := letters_len xs by_
  have hd := draw_mem h01 n
  obtain ⟨hcl, hdB⟩ := low_closed h01 hd
  have htold := less_told h01 hcl hls hd hdB
  have hax := ask_ok h01 hls hd
  have HNB := Lib.hid (fun z (hz : z ∈ numbersL xs) => numbers_in (layE_ok h01).2.1 z hz)
  have HXN := Lib.hid (fun (x : Iss) (hx : x ∈ xs) => numbers_has (layE_ok h01).2.1 x hx)
  have HIN := Lib.hid (fun (x : Iss) (hx : x ∈ xs) it (hit : it ∈ x.items) => complete_mem (layE_ok h01).2.2.2.1 x hx it hit)
  have HEL := Lib.hid (fun z => el_len xs (lettersF xs by_) z)
  have HTL := Lib.hid htold
  generalize hdd : drawF xs n = d at *
  generalize hlsd : lettersF xs by_ = ls at *
  have hll : ls.length ≤ 20 := by omega
  have HAX := Lib.hid hax
  have HDZ := Lib.hid hd
  have HRG := Lib.hid hr
  have H00 := Lib.hid h01
  have HLP := Lib.hid hlp
  have HSM := Lib.hid hsml
  have hbl0 : b < w.heap.size ∨ xs.length = 0 := by
    by_cases e : xs.length = 0
    · exact .inr e
    · exact .inl (World.block_lt_of_cell? w _ (hc 0 (by omega)).1)
  have HA0 := Lib.hid hA
  have HC0 := Lib.hid hc
  have LB_0 := Lib.hid (Lies.made w 24 #[.slice A xs.length c])
  have RA_0 := Lib.hid (hr.after ((Below.refl _ w).alloc (Nat.le_refl _) (.cells #[.slice A xs.length c] 24)))
  obtain ⟨AB, cB, rfl⟩ := hB.slice
  have RB_0 := Lib.hid (hB.after ((Below.refl _ w).alloc (Nat.le_refl _) (.cells #[.slice A xs.length c] 24)))
  have hb0 : Below w.heap.size w (w.alloc (.cells #[.slice A xs.length c] 24)) := by (repeat' (first | (with_reducible first | exact Below.refl _ _ | assumption | refine Below.alloc ?_ ?_ _ | refine Below.setCell ?_ ?_ _ | refine below_row ?_ ?_ _ | refine Below.drew ?_ | refine below_drewN ?_ _ | refine Below.trans ?_ (Below.mono (by assumption) ?_)) | exact Nat.le_refl _ | omega | (simp; done) | (simp; omega) | exact Below.size (by assumption)))
  clear hA hc hm2 hm hsml hr hg1 h01 hr1 hB hbl hlp hls hns htold hax hcl hdB hd hdd hlsd
  go_enter Try.func15, Try.ntmps15
  go_wp2_with fail
  refine (alive_any _).mono ?_
  rintro e1 w1 ⟨rfl, hb⟩
  have hq1 : Below (w.alloc (.cells #[.slice A xs.length c] 24)).heap.size (w.alloc (.cells #[.slice A xs.length c] 24)) w1 := by (repeat' (first | (with_reducible first | exact Below.refl _ _ | assumption | refine Below.alloc ?_ ?_ _ | refine Below.setCell ?_ ?_ _ | refine below_row ?_ ?_ _ | refine Below.drew ?_ | refine below_drewN ?_ _ | refine Below.trans ?_ (Below.mono (by assumption) ?_)) | exact Nat.le_refl _ | omega | (simp; done) | (simp; omega) | exact Below.size (by assumption)))
  have LB_1 := Lib.hid (LB_0.out.after hq1)
  clear LB_0
  have RA_1 := Lib.hid (RA_0.out.after hq1)
  clear RA_0
  have RB_1 := Lib.hid (RB_0.out.after hq1)
  clear RB_0
  have hb1 : Below w.heap.size w w1 := hb0.trans (hq1.mono hb0.size)
  clear hb hq1
  have LBc := LB_1.out.cell 0
  have LBz := LB_1.out.lt
  go_wp2_with fail
  refine (HQ1.out _ (by (repeat' (first | (with_reducible first | exact Below.refl _ _ | assumption | refine Below.alloc ?_ ?_ _ | refine Below.setCell ?_ ?_ _ | refine below_row ?_ ?_ _ | refine Below.drew ?_ | refine below_drewN ?_ _ | refine Below.trans ?_ (Below.mono (by assumption) ?_)) | exact Nat.le_refl _ | omega | (simp; done) | (simp; omega) | exact Below.size (by assumption))))).mono ?_
  rintro e2 w2 ⟨rfl, hb⟩
  have hq2 : Below w1.heap.size w1 w2 := by (repeat' (first | (with_reducible first | exact Below.refl _ _ | assumption | refine Below.alloc ?_ ?_ _ | refine Below.setCell ?_ ?_ _ | refine below_row ?_ ?_ _ | refine Below.drew ?_ | refine below_drewN ?_ _ | refine Below.trans ?_ (Below.mono (by assumption) ?_)) | exact Nat.le_refl _ | omega | (simp; done) | (simp; omega) | exact Below.size (by assumption)))
  clear LBc LBz
  have LB_2 := Lib.hid (LB_1.out.after hq2)
  clear LB_1
  have RA_2 := Lib.hid (RA_1.out.after hq2)
  clear RA_1
  have RB_2 := Lib.hid (RB_1.out.after hq2)
  clear RB_1
  have hb2 : Below w.heap.size w w2 := hb1.trans (hq2.mono hb1.size)
  clear hb hq2
  have LBc := LB_2.out.cell 0
  have LBz := LB_2.out.lt
  go_upto_region 4 with fail
  refine wp_region_held_drew (S := fun W => W.cell? ⟨w.heap.size, 0, none⟩ = some (.slice A xs.length c)) (by kernel_rfl) LBc (fun hHeld => ?_)
  refine take_at (i := 0) (v := ?_) rfl (by kernel_rfl) (by kernel_rfl) (by kernel_rfl) (fun _ _ _ h => h) (Or.inl ⟨by rfl, ?_⟩) (by assumption) ?_
  rotate_left
  · (intro w hSw; (try dsimp only at hSw); go_simp; (try with_reducible rfl))
  try simp only [Act.put, List.setIfInBounds_toArray, List.set_cons_zero, List.set_cons_succ]
  refine take_at (i := 1) (v := ?_) rfl (by kernel_rfl) (by kernel_rfl) (by kernel_rfl) (fun _ _ _ h => h) (Or.inl ⟨by rfl, ?_⟩) (by assumption) ?_
  rotate_left
  · (intro w hSw; (try dsimp only at hSw); go_simp; (try with_reducible rfl))
  try simp only [Act.put, List.setIfInBounds_toArray, List.set_cons_zero, List.set_cons_succ]
  refine take_at (i := 3) (v := ?_) rfl (by kernel_rfl) (by kernel_rfl) (by kernel_rfl) (fun _ _ _ h => h) (Or.inl ⟨by rfl, ?_⟩) (by assumption) ?_
  rotate_left
  · (intro w hSw; (try dsimp only at hSw); go_simp; (try with_reducible rfl))
  try simp only [Act.put, List.setIfInBounds_toArray, List.set_cons_zero, List.set_cons_succ]
  refine take_at (i := 4) (v := ?_) rfl (by kernel_rfl) (by kernel_rfl) (by kernel_rfl) (fun _ _ _ h => h) (Or.inl ⟨by rfl, ?_⟩) (by assumption) ?_
  rotate_left
  · (intro w hSw; (try dsimp only at hSw); go_simp; (try with_reducible rfl))
  try simp only [Act.put, List.setIfInBounds_toArray, List.set_cons_zero, List.set_cons_succ]
  refine wpAnyH_ready (rs := [2]) (by kernel_rfl) (by simp) ?_
  refine cons_at rfl (fun K hK => ?_) AllReadyH.nil
  (first | (go_at_call 57; refine (HLT.out _ (RA_2.out.after (by (repeat' (first | (with_reducible first | exact Below.refl _ _ | assumption | refine Below.alloc ?_ ?_ _ | refine Below.setCell ?_ ?_ _ | refine below_row ?_ ?_ _ | refine Below.drew ?_ | refine below_drewN ?_ _ | refine Below.trans ?_ (Below.mono (by assumption) ?_)) | exact Nat.le_refl _ | omega | (simp; done) | (simp; omega) | exact Below.size (by assumption))))) (RB_2.out.after (by (repeat' (first | (with_reducible first | exact Below.refl _ _ | assumption | refine Below.alloc ?_ ?_ _ | refine Below.setCell ?_ ?_ _ | refine below_row ?_ ?_ _ | refine Below.drew ?_ | refine below_drewN ?_ _ | refine Below.trans ?_ (Below.mono (by assumption) ?_)) | exact Nat.le_refl _ | omega | (simp; done) | (simp; omega) | exact Below.size (by assumption)))))).mono ?_; rintro e3 w3 ⟨AL, cL, rfl, hil, ga3⟩; have hv3 : Below w2.heap.size w2 w3 := (by (repeat' (first | (with_reducible first | exact Below.refl _ _ | assumption | refine Below.alloc ?_ ?_ _ | refine Below.setCell ?_ ?_ _ | refine below_row ?_ ?_ _ | refine Below.drew ?_ | refine below_drewN ?_ _ | refine Below.trans ?_ (Below.mono (by assumption) ?_)) | exact Nat.le_refl _ | omega | (simp; done) | (simp; omega) | exact Below.size (by assumption)))); have LB3 := Lib.hid (LB_2.out.after hv3); have x3 := LB3.out.cell 0; have z3 := LB3.out.lt; have HS3 := Lib.hid hil; clear hil) | (go_simp; go_at_call 57; refine (HLT.out _ (RA_2.out.after (by (repeat' (first | (with_reducible first | exact Below.refl _ _ | assumption | refine Below.alloc ?_ ?_ _ | refine Below.setCell ?_ ?_ _ | refine below_row ?_ ?_ _ | refine Below.drew ?_ | refine below_drewN ?_ _ | refine Below.trans ?_ (Below.mono (by assumption) ?_)) | exact Nat.le_refl _ | omega | (simp; done) | (simp; omega) | exact Below.size (by assumption))))) (RB_2.out.after (by (repeat' (first | (with_reducible first | exact Below.refl _ _ | assumption | refine Below.alloc ?_ ?_ _ | refine Below.setCell ?_ ?_ _ | refine below_row ?_ ?_ _ | refine Below.drew ?_ | refine below_drewN ?_ _ | refine Below.trans ?_ (Below.mono (by assumption) ?_)) | exact Nat.le_refl _ | omega | (simp; done) | (simp; omega) | exact Below.size (by assumption)))))).mono ?_; rintro e3 w3 ⟨AL, cL, rfl, hil, ga3⟩; have hv3 : Below w2.heap.size w2 w3 := (by (repeat' (first | (with_reducible first | exact Below.refl _ _ | assumption | refine Below.alloc ?_ ?_ _ | refine Below.setCell ?_ ?_ _ | refine below_row ?_ ?_ _ | refine Below.drew ?_ | refine below_drewN ?_ _ | refine Below.trans ?_ (Below.mono (by assumption) ?_)) | exact Nat.le_refl _ | omega | (simp; done) | (simp; omega) | exact Below.size (by assumption)))); have LB3 := Lib.hid (LB_2.out.after hv3); have x3 := LB3.out.cell 0; have z3 := LB3.out.lt; have HS3 := Lib.hid hil; clear hil))
  refine hK.out _ _ ?_ (fun hHeld => ?_)
  · exact x3
  clear hK K
  try simp only [Act.put, List.setIfInBounds_toArray, List.set_cons_zero, List.set_cons_succ]
  refine wpAnyH_ready (rs := [5]) (by kernel_rfl) (by simp) ?_
  refine cons_at rfl (fun K hK => ?_) AllReadyH.nil
  (first | (go_at_call 58; refine (HDR.out _ (RA_2.out.after hv3)).mono ?_; rintro e4 w4 ⟨rfl, ga4⟩; have hv4 : Below w2.heap.size w2 w4 := (by (repeat' (first | (with_reducible first | exact Below.refl _ _ | assumption | refine Below.alloc ?_ ?_ _ | refine Below.setCell ?_ ?_ _ | refine below_row ?_ ?_ _ | refine Below.drew ?_ | refine below_drewN ?_ _ | refine Below.trans ?_ (Below.mono (by assumption) ?_)) | exact Nat.le_refl _ | omega | (simp; done) | (simp; omega) | exact Below.size (by assumption)))); have LB4 := Lib.hid (LB_2.out.after hv4); have x4 := LB4.out.cell 0; have z4 := LB4.out.lt) | (go_simp; go_at_call 58; refine (HDR.out _ (RA_2.out.after hv3)).mono ?_; rintro e4 w4 ⟨rfl, ga4⟩; have hv4 : Below w2.heap.size w2 w4 := (by (repeat' (first | (with_reducible first | exact Below.refl _ _ | assumption | refine Below.alloc ?_ ?_ _ | refine Below.setCell ?_ ?_ _ | refine below_row ?_ ?_ _ | refine Below.drew ?_ | refine below_drewN ?_ _ | refine Below.trans ?_ (Below.mono (by assumption) ?_)) | exact Nat.le_refl _ | omega | (simp; done) | (simp; omega) | exact Below.size (by assumption)))); have LB4 := Lib.hid (LB_2.out.after hv4); have x4 := LB4.out.cell 0; have z4 := LB4.out.lt))
  refine hK.out _ _ ?_ (fun hHeld => ?_)
  · exact x4
  clear hK K
  try simp only [Act.put, List.setIfInBounds_toArray, List.set_cons_zero, List.set_cons_succ]
  refine take_at (i := 6) (v := ?_) rfl (by kernel_rfl) (by kernel_rfl) (by kernel_rfl) (fun _ _ _ h => h) (Or.inl ⟨by rfl, ?_⟩) (by assumption) ?_
  rotate_left
  · (intro w hSw; (try dsimp only at hSw); go_simp; (try with_reducible rfl))
  try simp only [Act.put, List.setIfInBounds_toArray, List.set_cons_zero, List.set_cons_succ]
  refine take_at (i := 7) (v := ?_) rfl (by kernel_rfl) (by kernel_rfl) (by kernel_rfl) (fun _ _ _ h => h) (Or.inl ⟨by rfl, ?_⟩) (by assumption) ?_
  rotate_left
  · (intro w hSw; (try dsimp only at hSw); go_simp; (try with_reducible rfl))
  try simp only [Act.put, List.setIfInBounds_toArray, List.set_cons_zero, List.set_cons_succ]
  refine wpAnyH_done (by kernel_rfl) ?_ _
  have hq4 : Below w2.heap.size w2 w4 := hv4
  clear LBc LBz
  have LB_4 := Lib.hid (LB_2.out.after hq4)
  clear LB_2
  have RA_4 := Lib.hid (RA_2.out.after hq4)
  clear RA_2
  have RB_4 := Lib.hid (RB_2.out.after hq4)
  clear RB_2
  have HS_4 := Lib.hid (HS3.out.after ga4)
  have hb4 : Below w.heap.size w w4 := hb2.trans (hq4.mono hb2.size)
  clear hv3 hv4 ga3 ga4 LB3 x3 z3 LB4 x4 z4 HS3 hq4
  clear RB_4
  go_upto_region 5 with fail
  have hmm := @run_makeMap Try.prog
  have hnd := HNB.out d HDZ.out
  have hNd : NIn d := by unfold NIn; omega
  obtain ⟨w5, hrun5, hm5, ht5⟩ := (BMap.made w4).put (by omega) hNd true
  have hb5 : Below w4.heap.size w4 w5 := turned_below ht5 (Nat.le_refl _) w4 (by (repeat' (first | (with_reducible first | exact Below.refl _ _ | assumption | refine Below.alloc ?_ ?_ _ | refine Below.setCell ?_ ?_ _ | refine below_row ?_ ?_ _ | refine Below.drew ?_ | refine below_drewN ?_ _ | refine Below.trans ?_ (Below.mono (by assumption) ?_)) | exact Nat.le_refl _ | omega | (simp; done) | (simp; omega) | exact Below.size (by assumption)))) (by simp)
  have HM5 : Hid (BMap w5 w4.heap.size 1 (lowK xs d 0)) := Lib.hid (hm5.ext fun y _ => by
    show (if y = d then true else false) = decide (y = d)
    split <;> simp_all)
  clear hm5 ht5
  have k0 := LB_4.out.cell 0
  have z0 := LB_4.out.lt
  go_wp2_with fail
  clear hmm
  go_loopw [51] (fun i ws => ∃ ii n : Nat, i = .int .i64 ii ∧ ii ≤ 6 ∧ n ≤ 1 + ii * 80000 ∧ Hid (BMap ws w4.heap.size n (lowK xs d ii)) ∧ Below w4.heap.size w4 ws) (fun i _ => 6 - (intOf i).toNat)
  case atStart => exact ⟨0, 1, rfl, by omega, by omega, HM5, hb5⟩
  case round =>
    obtain ⟨ii, n, rfl, hii, hn, HM, hb⟩ := hrel
    have k1 := cell_keep hb k0
    have z1 := World.block_lt_of_cell? _ _ k1
    simp only at z1
    by_cases hit : ii < 6
    · have kl0 : (ii : Int) < 6 := by omega
      go_wp2_with fail
      go_loopw [56] (fun j ws => ∃ jj m : Nat, j = .int .i64 jj ∧ jj ≤ xs.length ∧ m ≤ 1 + ii * 80000 + jj * 1000 ∧ Hid (BMap ws w4.heap.size m ((xs.take jj).foldl lowX (lowK xs d ii))) ∧ Below w4.heap.size w4 ws) (fun j _ => xs.length - (intOf j).toNat)
      case atStart => exact ⟨0, n, rfl, by omega, by omega, HM, hb⟩
      case round =>
        clear hn HM hb k1 z1
        obtain ⟨jj, m, rfl, hjj, hm, HM2, hb2⟩ := hrel
        by_cases hjt : jj < xs.length
        · have kl1 : (jj : Int) < (xs.length : Int) := by omega
          obtain rfl := HA0.out (by omega)
          have hw4 : Below w.heap.size w wr := hb4.trans (hb2.mono hb4.size)
          obtain ⟨c0, c1, c2, c3, c4, -, HIT, ⟨A4, c44, b4, o4, hvd, -⟩, -, -⟩ := HC0.out jj hjt
          rw [hvd] at c4
          have c0 := cell_keep hw4 c0
          have c1 := cell_keep hw4 c1
          have c2 := cell_keep hw4 c2
          have c3 := cell_keep hw4 c3
          have c4 := cell_keep hw4 c4
          have hI4 := HIT.after hw4
          have hxm := List.getElem_mem hjt
          have hNx := HNB.out _ (HXN.out _ hxm)
          have HIX := Lib.hid (HIN.out _ hxm)
          have hsx := (HSM.out _ hxm).1
          have HSP : Hid ((xs.take (jj + 1)).foldl lowX (lowK xs d ii) = xs[jj].items.foldl (lowI xs[jj].d) ((xs.take jj).foldl lowX (lowK xs d ii))) := Lib.hid (by
            rw [List.take_succ_eq_append_getElem hjt, List.foldl_append]; rfl)
          generalize (xs.take jj).foldl lowX (lowK xs d ii) = S at *
          generalize xs[jj] = x at *
          generalize hvi : vi jj = vij at *
          obtain ⟨A3, c33, b3, o3, rfl, hA3, hC3⟩ := hI4
          have HA3 := Lib.hid hA3
          have HC3 := Lib.hid hC3
          clear hA3 hC3 HIT hvi hxm hvd
          have HMA := Lib.hid (BMap.alloc HM2.out (.cells #[.int .i64 x.d, .int .i64 x.l, .int .u8 x.k, .slice A3 x.items.length c33, .slice A4 x.dims.length c44] 45))
          have q1 := (Lies.made wr 45 #[.int .i64 x.d, .int .i64 x.l, .int .u8 x.k, .slice A3 x.items.length c33, .slice A4 x.dims.length c44]).cell 0
          have q2 := (Lies.made wr 45 #[.int .i64 x.d, .int .i64 x.l, .int .u8 x.k, .slice A3 x.items.length c33, .slice A4 x.dims.length c44]).lt
          have hbA : Below w4.heap.size w4 (wr.alloc (.cells #[.int .i64 x.d, .int .i64 x.l, .int .u8 x.k, .slice A3 x.items.length c33, .slice A4 x.dims.length c44] 45)) := hb2.alloc hb2.size _
          have hg : w4.heap.size < wr.heap.size := by have := HM2.out.lt; omega
          have HCI := Lib.hid (show CB wr (wr.alloc (.cells #[.int .i64 x.d, .int .i64 x.l, .int .u8 x.k, .slice A3 x.items.length c33, .slice A4 x.dims.length c44] 45)) from (CB.refl wr).alloc _)
          go_wp2_with fail
          go_loopw [63] (fun k ws => ∃ kk m2 : Nat, k = .int .i64 kk ∧ kk ≤ x.items.length ∧ m2 ≤ m + kk ∧ Hid (BMap ws w4.heap.size m2 ((x.items.take kk).foldl (lowI x.d) S)) ∧ Hid (CB wr ws) ∧ ws.cell? ⟨wr.heap.size, 0, none⟩ = some (.int .i64 x.d) ∧ Below w4.heap.size w4 ws) (fun k _ => x.items.length - (intOf k).toNat)
          case atStart => exact ⟨0, m, rfl, by omega, by omega, HMA, HCI, q1, hbA⟩
          case round =>
            clear q1 q2 hbA HMA HCI
            obtain ⟨kk, m2, rfl, hkk, hm2, HM3, HCK, p1, hb3⟩ := hrel
            by_cases hkt : kk < x.items.length
            · have kl2 : (kk : Int) < (x.items.length : Int) := by omega
              obtain rfl := HA3.out (by omega)
              have j0 := HCK.out _ _ (HC3.out kk hkt).1
              have j1 := HCK.out _ _ (HC3.out kk hkt).2
              have pz := World.block_lt_of_cell? _ _ p1
              simp only at pz
              have hnz := HNB.out _ (HIX.out _ (List.getElem_mem hkt))
              have HST : Hid ((x.items.take (kk + 1)).foldl (lowI x.d) S = lowI x.d ((x.items.take kk).foldl (lowI x.d) S) x.items[kk]) := Lib.hid (by
                rw [List.take_succ_eq_append_getElem hkt, List.foldl_append]; rfl)
              generalize (x.items.take kk).foldl (lowI x.d) S = T at *
              generalize x.items[kk] = it at *
              obtain ⟨za, zc⟩ := it
              simp only at j0 j1 hnz
              have hNz : NIn za := by unfold NIn; omega
              have hNd : NIn x.d := by unfold NIn; omega
              have HMW := Lib.hid (BMap.alloc HM3.out (.cells #[.int .i64 za, .int .i64 zc] 52))
              have hlk := HMW.out.look hNz
              have hlx := HMW.out.look hNd
              obtain ⟨w9, hrun, hm9, ht9⟩ := HMW.out.put (by omega) hNz (T za || T x.d)
              have hc9 := CB.turned ((CB.refl wr).alloc _) HMW.out ht9
              have HC9 : Hid (CB _ w9) := Lib.hid (fun a v e => hc9 a v (HCK.out a v e))
              have p9 := hc9 _ _ p1
              have hb9 : Below w4.heap.size w4 w9 := turned_below ht9 (Nat.le_refl _) w4 (hb3.alloc hb3.size _) (by have := hb3.size; simp; omega)
              have HM9 : Hid (BMap w9 w4.heap.size (m2 + 1) ((x.items.take (kk + 1)).foldl (lowI x.d) S)) := Lib.hid (by
                rw [HST.out]
                refine hm9.ext fun y _ => ?_
                unfold lowI
                by_cases e : y = za
                · subst e; simp
                · simp [e])
              clear hm9 ht9 hc9 HMW HST HM3
              by_cases hz : T za = true
              · rw [hz] at hlk hrun
                rw [Bool.true_or] at hrun
                go_wp2_with fail
                go_roundw
                case rel => exact ⟨kk + 1, m2 + 1, by go_num, by omega, by omega, HM9, HC9, p9, hb9⟩
                case measure => simp [intOf]; omega
              · rw [Bool.not_eq_true] at hz
                rw [hz] at hlk hrun
                rw [Bool.false_or] at hrun
                generalize T x.d = tx at *
                go_wp2_with fail
                go_roundw
                case rel => exact ⟨kk + 1, m2 + 1, by go_num, by omega, by omega, HM9, HC9, p9, hb9⟩
                case measure => simp [intOf]; omega
            · have hke : kk = x.items.length := by omega
              have kl2 : ¬ (kk : Int) < (x.items.length : Int) := by omega
              have HME : Hid (BMap wr w4.heap.size m2 ((xs.take (jj + 1)).foldl lowX (lowK xs d ii))) := Lib.hid (by have := HM3.out; rw [hke, List.take_length] at this; rw [HSP.out]; exact this)
              go_wp2_with fail
              go_roundw
              case rel => exact ⟨jj + 1, m2, by go_num, by omega, by omega, HME, hb3⟩
              case measure => simp [intOf]; omega
        · have hje : jj = xs.length := by omega
          have kl1 : ¬ (jj : Int) < (xs.length : Int) := by omega
          have HME : Hid (BMap wr w4.heap.size m (lowK xs d (ii + 1))) := Lib.hid (by have := HM2.out; rw [hje, List.take_length] at this; exact this)
          go_wp2_with fail
          go_roundw
          case rel => exact ⟨ii + 1, m, by go_num, by omega, by omega, HME, hb2⟩
          case measure => simp [intOf]; omega
    · have kl0 : ¬ (ii : Int) < 6 := by omega
      obtain rfl : ii = 6 := by omega
      generalize lowK xs d 6 = B at *
      obtain ⟨wz, rfl⟩ : ∃ z, z = wr := ⟨_, rfl⟩
      have hz1 := HM.out.lt
      go_wp2_with fail
      go_loopw [86] (fun j ws => ∃ (jj : Nat) (v : Value), j = .int .i64 jj ∧ jj ≤ xs.length ∧ Hid (Lies ws wz.heap.size 24 #[v]) ∧ Hid (LentReg ws (wz.heap.size + 1) v (lentR B xs vi vd jj)) ∧ Below wz.heap.size wz ws) (fun j _ => xs.length - (intOf j).toNat)
      case atStart => exact ⟨0, .slice none 0 0, rfl, by omega, Lib.hid (Lies.made _ _ _), Lib.hid (LentReg.nil _ _), by (repeat' (first | (with_reducible first | exact Below.refl _ _ | assumption | refine Below.alloc ?_ ?_ _ | refine Below.setCell ?_ ?_ _ | refine below_row ?_ ?_ _ | refine Below.drew ?_ | refine below_drewN ?_ _ | refine Below.trans ?_ (Below.mono (by assumption) ?_)) | exact Nat.le_refl _ | omega | (simp; done) | (simp; omega) | exact Below.size (by assumption)))⟩
      case round =>
        obtain ⟨jj, v, rfl, hjj, HL, HR, hb2⟩ := hrel
        have hwz : Below w.heap.size w wz := hb4.trans (hb.mono hb4.size)
        have hw4 : Below w.heap.size w wr := hwz.trans (hb2.mono hwz.size)
        by_cases hjt : jj < xs.length
        · have kl1 : (jj : Int) < (xs.length : Int) := by omega
          obtain rfl := HA0.out (by omega)
          obtain ⟨c0, c1, c2, c3, c4, hkk, hIT, hDT, hn1, hn2⟩ := HC0.out jj hjt
          have hLT : LentT wr (xs[jj], vi jj, vd jj) := ⟨hkk, hIT.after hw4, hDT.after hw4, hn1, hn2⟩
          obtain ⟨A3, c33, b3, o3, hvi, -⟩ := hIT
          obtain ⟨A4, c44, b4, o4, hvd, -⟩ := hDT
          rw [hvi] at c3
          rw [hvd] at c4
          have c0 := cell_keep hw4 c0
          have c1 := cell_keep hw4 c1
          have c2 := cell_keep hw4 c2
          have c3 := cell_keep hw4 c3
          have c4 := cell_keep hw4 c4
          have hxm := List.getElem_mem hjt
          have hNx := HNB.out _ (HXN.out _ hxm)
          have hNd : NIn xs[jj].d := by unfold NIn; omega
          have HLE : Hid (lentR B xs vi vd (jj + 1) = lentR B xs vi vd jj ++ if B xs[jj].d = true then [(xs[jj], vi jj, vd jj)] else []) := Lib.hid (by
            rw [lentR, show xs.getD jj zeroI = xs[jj] by simp [List.getD_eq_getElem?_getD, hjt]])
          have hlk := (BMap.alloc (BMap.keep HM.out hb2 hz1) (.cells #[.int .i64 (xs[jj].d), .int .i64 (xs[jj].l), .int .u8 xs[jj].k, .slice A3 xs[jj].items.length c33, .slice A4 xs[jj].dims.length c44] 45)).look hNd
          have HLT := Lib.hid hLT
          have hg0 := HL.out.cell 0
          have hgz := HL.out.lt
          generalize xs[jj] = x at *
          clear hxm
          by_cases hB : B x.d = true
          · rw [hB] at hlk
            obtain ⟨i0, hi0, hz0, hz1', hz2⟩ := info_parts infoQ
            have hrl := lentR_len B xs vi vd jj
            have HLE2 : Hid (lentR B xs vi vd (jj + 1) = lentR B xs vi vd jj ++ [(x, vi jj, vd jj)]) := Lib.hid (by rw [HLE.out, if_pos hB])
            have HVI := Lib.hid hvi
            have HVD := Lib.hid hvd
            have hwzs := hb2.size
            clear hvi hvd
            go_wp2_with (at_builtin; go_loud (refine wpList_append_own _ rfl _ _ 22 rfl (wz.heap.size + 1) 45 i0 zIss 5 72 Try.underlying22 hi0 hz0 hz1' hz2 rfl (by decide) _ _ _ rfl ((HR.out.1.alloc _).alloc _) ⟨_, 0, none⟩ 1 1 [.int .i64 x.d, .int .i64 x.l, .int .u8 x.k, .slice A3 x.items.length c33, .slice A4 x.dims.length c44] rfl rfl (World.news_of_block (cs := #[.int .i64 x.d, .int .i64 x.l, .int .u8 x.k, .slice A3 x.items.length c33, .slice A4 x.dims.length c44]) (t := 45) (fr := (0, 0)) (Lies.new (by simp))) (by simp [Value.oneCell']) (by unfold maxLen; omega) (by omega) (by simp; omega) ?_; intro v' w5' hown' hgrow _; have HB5 := Lib.hid (below_own (w0 := wz) (B := wz.heap.size) ((hb2.alloc hwzs _).alloc (by simp; omega) _) ((HR.out.1.alloc _).alloc _) hgrow (by omega) (by simp; omega)); have HD5 := Lib.hid (lies_apart ((HL.out.alloc _).alloc _) ((HR.out.1.alloc _).alloc _) (by decide) hgrow); have HO5 := Lib.hid hown'; obtain ⟨A6, c6, g6, rfl, -⟩ := own_form hown'; have g5 := HD5.out.cell 0; have gz5 := HD5.out.lt; have gf5 := HD5.out.free 0; clear hown' hgrow))
            go_roundw
            case rel =>
              have hbS := HB5.out.setCell (p := ⟨wz.heap.size, 0, none⟩) (Nat.le_refl _) (.slice A6 ((lentR B xs vi vd jj).length + 1) c6)
              have hbW : Below w.heap.size w _ := hwz.trans (hbS.mono hwz.size)
              refine ⟨jj + 1, _, by go_num, by omega, Lib.hid (HD5.out.store 0 _), Lib.hid ?_, hbS⟩
              rw [HLE2.out]
              refine LentReg.snoc (fun q hq => (lentR_all HC0.out (jj + 1) (by omega) q (by rw [HLE2.out]; exact hq)).after hbW) ?_
              have h1 := own_set HO5.out HD5.out (by decide) 0 (.slice A6 ((lentR B xs vi vd jj).length + 1) c6)
              unfold cellT
              simp only [HVI.out, HVD.out]
              exact h1
            case measure => simp [intOf]; omega
          · rw [Bool.not_eq_true] at hB
            rw [hB] at hlk
            have HRE : Hid (LentReg wr (wz.heap.size + 1) v (lentR B xs vi vd (jj + 1))) := Lib.hid (by rw [HLE.out, if_neg (by rw [hB]; simp), List.append_nil]; exact HR.out)
            go_wp2_with fail
            go_roundw
            case rel => exact ⟨jj + 1, v, by go_num, by omega, Lib.hid (HL.out.alloc _), Lib.hid (HRE.out.after (by (repeat' (first | (with_reducible first | exact Below.refl _ _ | assumption | refine Below.alloc ?_ ?_ _ | refine Below.setCell ?_ ?_ _ | refine below_row ?_ ?_ _ | refine Below.drew ?_ | refine below_drewN ?_ _ | refine Below.trans ?_ (Below.mono (by assumption) ?_)) | exact Nat.le_refl _ | omega | (simp; done) | (simp; omega) | exact Below.size (by assumption))))), hb2.alloc hb2.size _⟩
            case measure => simp [intOf]; omega
        · have kl1 : ¬ (jj : Int) < (xs.length : Int) := by omega
          obtain rfl : jj = xs.length := by omega
          have k2 := cell_keep hb2 k1
          have z2 := World.block_lt_of_cell? _ _ k2
          simp only at z2
          go_wp2_with fail
          refine (HNU.out _ (RA_4.out.after (hb.trans (hb2.mono hb.size)))).mono ?_
          rintro e5 w5 ⟨vN, rfl, ho, gb5⟩
          have hin := ints_of_own ho
          obtain ⟨AN, cN, bN, oN, rfl, hAN, hcN⟩ := hin
          have HAN := Lib.hid hAN
          have HCN := Lib.hid hcN
          have hv5 : Below w4.heap.size w4 w5 := (hb.trans (hb2.mono hb.size)).trans (gb5.mono (hb.trans (hb2.mono hb.size)).size)
          have hz5 : Below wz.heap.size wz w5 := hb2.trans (gb5.mono hb2.size)
          have HM5 := Lib.hid (BMap.keep HM.out hz5 hz1)
          have HL5 := Lib.hid (HL.out.after gb5)
          have HR5 : Hid (RegAt w5 v (lessL B xs)) := Lib.hid (by
            have h1 := (HR.out.after gb5).reg (Nat.le_trans (lentR_len B xs vi vd xs.length) (by omega)) (fun x hx => by
              rw [lessL_all] at hx
              obtain ⟨h2, -⟩ := less_mem.1 hx
              have := HSM.out x h2
              omega)
            rw [lessL_all] at h1
            exact h1)
          obtain ⟨AL', cL', bL, oL, eL, hAL, hcL⟩ := HS_4.out
          injection eL with e1 e2 e3
          subst e1 e3
          have HAL := Lib.hid hAL
          have HCL := Lib.hid hcL
          obtain ⟨i0, hi, iz0, iz1, iz2⟩ := info_parts infoN
          have HOL := Lib.hid (fun k h1 h2 => ownL_step (B := B) (zs := numbersL xs) (ls := ls) (j := k) h1 h2)
          have hbw5 : Below w.heap.size w w5 := hb4.trans (hv5.mono hb4.size)
          have LB_5 := Lib.hid (LB_4.out.after hv5)
          have RA_5 := Lib.hid (RA_4.out.after hv5)
          have HS_5 := Lib.hid (HS_4.out.after hv5)
          have hlz : (numbersL xs).length = ls.length := HLP.out.symm
          have HDS := Lib.hid (fun W (h1 : RegAt W (.slice A xs.length c) xs) => depth_s h1 H00.out HDZ.out)
          clear hAN hcN hAL hcL HL HR HM ho gb5 hz5 hb2 k2 z2 k1 z1 hb kl1 kl0
          generalize hzs : numbersL xs = zs at *
          go_wp2_with fail
          go_loopw [18, 104] (fun u i ws => ∃ (k : Nat) (AO : Option Addr) (cO : Nat), k ≤ zs.length ∧ i = .int .i64 k ∧ u = .slice AO (ownL B (zs.take k) (ls.take k)).length cO ∧ Hid (ws.ownsRow w5.heap.size 3 1 (.slice AO (ownL B (zs.take k) (ls.take k)).length cO) (ownL B (zs.take k) (ls.take k)).length (cellsN (ownL B (zs.take k) (ls.take k)))) ∧ Below w5.heap.size w5 ws) (fun _ i _ => zs.length - (intOf i).toNat)
          case atStart => exact ⟨0, none, 0, by omega, rfl, by simp [ownL], Lib.hid (World.ownsRow_nil _ _ _ _), by (repeat' (first | (with_reducible first | exact Below.refl _ _ | assumption | refine Below.alloc ?_ ?_ _ | refine Below.setCell ?_ ?_ _ | refine below_row ?_ ?_ _ | refine Below.drew ?_ | refine below_drewN ?_ _ | refine Below.trans ?_ (Below.mono (by assumption) ?_)) | exact Nat.le_refl _ | omega | (simp; done) | (simp; omega) | exact Below.size (by assumption)))⟩
          case round =>
            obtain ⟨k, AO, cO, hk, rfl, rfl, HO, hb⟩ := hrel
            by_cases hkt : k < zs.length
            · have hkl : k < ls.length := by omega
              have kl1 : (k : Int) < (zs.length : Int) := by omega
              have kl2 : (k : Int) < (ls.length : Int) := by omega
              obtain rfl := HAN.out (by omega)
              obtain rfl := HAL.out (by omega)
              have hbs := hb.size
              have r0 := cell_keep hb (HCN.out k hkt)
              have r1 := cell_keep (hv5.trans (hb.mono hv5.size)) (HCL.out k hkl)
              have hnz := HNB.out _ (List.getElem_mem hkt)
              have HST := Lib.hid (HOL.out k hkt hkl)
              have hlen : (ownL B (zs.take k) (ls.take k)).length ≤ 1000 := by rw [own_len (by simp; omega)]; exact Nat.le_trans (List.length_filter_le _ _) (by simp; omega)
              generalize ownL B (zs.take k) (ls.take k) = ow at *
              generalize ls[k] = lz at *
              generalize zs[k] = z at *
              have hNz : NIn z := by unfold NIn; omega
              have hlk := (BMap.keep HM5.out hb (by have := HM5.out.lt; exact this)).look hNz
              by_cases hB : B z = true
              · rw [hB] at hlk
                have HS2 : Hid (ownL B (zs.take (k + 1)) (ls.take (k + 1)) = ow ++ [lz]) := Lib.hid (by rw [HST.out, if_pos hB])
                go_wp2_with (at_builtin; go_loud (refine wpList_append_own _ rfl _ _ 29 rfl w5.heap.size 3 i0 (.int .i64 0) 1 8 Try.underlying29 hi iz0 iz1 iz2 rfl (by decide) _ _ _ rfl (HO.out.alloc _) ⟨wr.heap.size, 0, none⟩ 1 1 [.int .i64 lz] rfl rfl (World.news_of_block (cs := #[.int .i64 lz]) (t := 3) (fr := (0, 0)) (Lies.new (by simp))) (by simp [Value.oneCell']) (by unfold maxLen; omega) (by omega) (by simp; omega) ?_; intro v' w6 hown' hgrow _; have HB6 := Lib.hid (below_own (w0 := w5) (B := w5.heap.size) (by (repeat' (first | (with_reducible first | exact Below.refl _ _ | assumption | refine Below.alloc ?_ ?_ _ | refine Below.setCell ?_ ?_ _ | refine below_row ?_ ?_ _ | refine Below.drew ?_ | refine below_drewN ?_ _ | refine Below.trans ?_ (Below.mono (by assumption) ?_)) | exact Nat.le_refl _ | omega | (simp; done) | (simp; omega) | exact Below.size (by assumption)))) (HO.out.alloc (.cells #[.int .i64 lz] 3)) hgrow (Nat.le_refl _) (by simp; omega)); obtain ⟨A6, c6, g6, rfl, -⟩ := own_form hown'; have HO6 := Lib.hid hown'; clear hown' hgrow))
                go_roundw
                case rel => exact ⟨k + 1, A6, c6, by omega, by go_num, by rw [HS2.out, List.length_append]; rfl, Lib.hid (by rw [HS2.out, List.length_append]; unfold cellsN; rw [List.map_append]; exact HO6.out), HB6.out⟩
                case measure => simp [intOf]; omega
              · rw [Bool.not_eq_true] at hB
                rw [hB] at hlk
                have HS2 : Hid (ownL B (zs.take (k + 1)) (ls.take (k + 1)) = ow) := Lib.hid (by rw [HST.out, if_neg (by rw [hB]; simp), List.append_nil])
                go_wp2_with fail
                go_roundw
                case rel => exact ⟨k + 1, AO, cO, by omega, by go_num, by rw [HS2.out], Lib.hid (by rw [HS2.out]; exact HO.out), hb⟩
                case measure => simp [intOf]; omega
            · obtain rfl : k = zs.length := by omega
              have kl1 : ¬ (zs.length : Int) < (zs.length : Int) := by omega
              have hlen : (ownL B zs ls).length ≤ 1000 := by rw [own_len (by omega)]; exact Nat.le_trans (List.length_filter_le _ _) (by omega)
              have HO2 := Lib.hid (ints_of_own HO.out)
              rw [List.take_length, hlz, List.take_length] at HO2
              rw [List.take_length, hlz, List.take_length]
              obtain ⟨t1, t2, t3, t4, t5, t6, t7⟩ := HTL.out
              have hpl := el_len xs ls d
              have htl := tl_len xs ls d
              obtain ⟨pl, hpe⟩ : ∃ l, explL xs ls d = l := ⟨_, rfl⟩
              obtain ⟨tl, tq, hte⟩ : ∃ l q, treeE xs ls d = (l, q) := ⟨_, _, rfl⟩
              obtain ⟨dp, hdp⟩ : ∃ p, dpt xs d = p := ⟨_, rfl⟩
              rw [hpe] at hpl t6
              rw [hte] at htl t7
              rw [hdp] at t4
              simp only at htl
              generalize ownL B zs ls = ow at *
              have hqq : (tq == tq) = true := by simp
              have hdd : (dp == dp) = true := by simp
              have T1 := Lib.hid t1
              have T2 := Lib.hid t2
              have T4 := Lib.hid t4
              have T5 := Lib.hid t5
              have T6 := Lib.hid t6
              have T7 := Lib.hid t7
              have HPE := Lib.hid hpe
              have HTE := Lib.hid hte
              have HDP := Lib.hid hdp
              have LB_6 := Lib.hid (LB_5.out.after hb)
              have LL_6 := Lib.hid (HL5.out.after hb)
              have RA_6 := Lib.hid (RA_5.out.after hb)
              have RL_6 := Lib.hid (HR5.out.after hb)
              have HS_6 := Lib.hid (HS_5.out.after hb)
              have OW_6 := HO2
              have hb6 : Below w.heap.size w wr := hbw5.trans (hb.mono hbw5.size)
              clear t1 t2 t3 t4 t5 t6 t7 hpe hte hdp HO HO2 hb LB_5 HL5 RA_5 HR5 HS_5 HTL HOL HM5 HAN HCN HAL HCL hzs HNB HXN HIN HEL
              have LBc := LB_6.out.cell 0
              have LBz := LB_6.out.lt
              go_wp2_with fail
              refine (expl_s RA_6.out HS_6.out (by omega) HAX.out HPE.out).mono ?_
              rintro e7 w7 ⟨A7, c7, rfl, hr, hb⟩
              have hq7 : Below wr.heap.size wr w7 := by (repeat' (first | (with_reducible first | exact Below.refl _ _ | assumption | refine Below.alloc ?_ ?_ _ | refine Below.setCell ?_ ?_ _ | refine below_row ?_ ?_ _ | refine Below.drew ?_ | refine below_drewN ?_ _ | refine Below.trans ?_ (Below.mono (by assumption) ?_)) | exact Nat.le_refl _ | omega | (simp; done) | (simp; omega) | exact Below.size (by assumption)))
              clear LBc LBz
              have LB_7 := Lib.hid (LB_6.out.after hq7)
              clear LB_6
              have LL_7 := Lib.hid (LL_6.out.after hq7)
              clear LL_6
              have RA_7 := Lib.hid (RA_6.out.after hq7)
              clear RA_6
              have RL_7 := Lib.hid (RL_6.out.after hq7)
              clear RL_6
              have HS_7 := Lib.hid (HS_6.out.after hq7)
              clear HS_6
              have OW_7 := Lib.hid (OW_6.out.after hq7)
              clear OW_6
              have EA_7 := Lib.hid hr
              have hb7 : Below w.heap.size w w7 := hb6.trans (hq7.mono hb6.size)
              clear hr hb hq7
              have LLc := LL_7.out.cell 0
              have LLz := LL_7.out.lt
              go_wp2_with fail
              refine (expl_s RL_7.out OW_7.out (by omega) T5.out T6.out).mono ?_
              rintro e8 w8 ⟨A8, c8, rfl, hr, hb⟩
              have hq8 : Below w7.heap.size w7 w8 := by (repeat' (first | (with_reducible first | exact Below.refl _ _ | assumption | refine Below.alloc ?_ ?_ _ | refine Below.setCell ?_ ?_ _ | refine below_row ?_ ?_ _ | refine Below.drew ?_ | refine below_drewN ?_ _ | refine Below.trans ?_ (Below.mono (by assumption) ?_)) | exact Nat.le_refl _ | omega | (simp; done) | (simp; omega) | exact Below.size (by assumption)))
              clear LLc LLz
              have LB_8 := Lib.hid (LB_7.out.after hq8)
              clear LB_7
              have LL_8 := Lib.hid (LL_7.out.after hq8)
              clear LL_7
              have RA_8 := Lib.hid (RA_7.out.after hq8)
              clear RA_7
              have RL_8 := Lib.hid (RL_7.out.after hq8)
              clear RL_7
              have HS_8 := Lib.hid (HS_7.out.after hq8)
              clear HS_7
              have OW_8 := Lib.hid (OW_7.out.after hq8)
              clear OW_7
              have EA_8 := Lib.hid (EA_7.out.after hq8)
              clear EA_7
              have EB_8 := Lib.hid hr
              have hb8 : Below w.heap.size w w8 := hb7.trans (hq8.mono hb7.size)
              clear hr hb hq8
              have LBc := LB_8.out.cell 0
              have LBz := LB_8.out.lt
              go_wp2_with fail
              refine (tree_s RA_8.out HS_8.out (by omega) HTE.out).mono ?_
              rintro e9 w9 ⟨A9, c9, rfl, hr, hb⟩
              have hq9 : Below w8.heap.size w8 w9 := by (repeat' (first | (with_reducible first | exact Below.refl _ _ | assumption | refine Below.alloc ?_ ?_ _ | refine Below.setCell ?_ ?_ _ | refine below_row ?_ ?_ _ | refine Below.drew ?_ | refine below_drewN ?_ _ | refine Below.trans ?_ (Below.mono (by assumption) ?_)) | exact Nat.le_refl _ | omega | (simp; done) | (simp; omega) | exact Below.size (by assumption)))
              clear LBc LBz
              have LB_9 := Lib.hid (LB_8.out.after hq9)
              clear LB_8
              have LL_9 := Lib.hid (LL_8.out.after hq9)
              clear LL_8
              have RA_9 := Lib.hid (RA_8.out.after hq9)
              clear RA_8
              have RL_9 := Lib.hid (RL_8.out.after hq9)
              clear RL_8
              have HS_9 := Lib.hid (HS_8.out.after hq9)
              clear HS_8
              have OW_9 := Lib.hid (OW_8.out.after hq9)
              clear OW_8
              have EA_9 := Lib.hid (EA_8.out.after hq9)
              clear EA_8
              have EB_9 := Lib.hid (EB_8.out.after hq9)
              clear EB_8
              have TA_9 := Lib.hid hr
              have hb9 : Below w.heap.size w w9 := hb8.trans (hq9.mono hb8.size)
              clear hr hb hq9
              have LLc := LL_9.out.cell 0
              have LLz := LL_9.out.lt
              go_wp2_with fail
              refine (tree_s RL_9.out OW_9.out (by omega) T7.out).mono ?_
              rintro e10 w10 ⟨A10, c10, rfl, hr, hb⟩
              have hq10 : Below w9.heap.size w9 w10 := by (repeat' (first | (with_reducible first | exact Below.refl _ _ | assumption | refine Below.alloc ?_ ?_ _ | refine Below.setCell ?_ ?_ _ | refine below_row ?_ ?_ _ | refine Below.drew ?_ | refine below_drewN ?_ _ | refine Below.trans ?_ (Below.mono (by assumption) ?_)) | exact Nat.le_refl _ | omega | (simp; done) | (simp; omega) | exact Below.size (by assumption)))
              clear LLc LLz
              have LB_10 := Lib.hid (LB_9.out.after hq10)
              clear LB_9
              have LL_10 := Lib.hid (LL_9.out.after hq10)
              clear LL_9
              have RA_10 := Lib.hid (RA_9.out.after hq10)
              clear RA_9
              have RL_10 := Lib.hid (RL_9.out.after hq10)
              clear RL_9
              have HS_10 := Lib.hid (HS_9.out.after hq10)
              clear HS_9
              have OW_10 := Lib.hid (OW_9.out.after hq10)
              clear OW_9
              have EA_10 := Lib.hid (EA_9.out.after hq10)
              clear EA_9
              have EB_10 := Lib.hid (EB_9.out.after hq10)
              clear EB_9
              have TA_10 := Lib.hid (TA_9.out.after hq10)
              clear TA_9
              have TB_10 := Lib.hid hr
              have hb10 : Below w.heap.size w w10 := hb9.trans (hq10.mono hb9.size)
              clear hr hb hq10
              have hds := HDS.out _ RA_10.out
              rw [HDP.out] at hds
              have LBc := LB_10.out.cell 0
              have LBz := LB_10.out.lt
              go_wp2_with fail
              refine (hds).mono ?_
              rintro e11 w11 ⟨rfl, hb⟩
              have hq11 : Below w10.heap.size w10 w11 := by (repeat' (first | (with_reducible first | exact Below.refl _ _ | assumption | refine Below.alloc ?_ ?_ _ | refine Below.setCell ?_ ?_ _ | refine below_row ?_ ?_ _ | refine Below.drew ?_ | refine below_drewN ?_ _ | refine Below.trans ?_ (Below.mono (by assumption) ?_)) | exact Nat.le_refl _ | omega | (simp; done) | (simp; omega) | exact Below.size (by assumption)))
              clear LBc LBz
              have LB_11 := Lib.hid (LB_10.out.after hq11)
              clear LB_10
              have LL_11 := Lib.hid (LL_10.out.after hq11)
              clear LL_10
              have RA_11 := Lib.hid (RA_10.out.after hq11)
              clear RA_10
              have RL_11 := Lib.hid (RL_10.out.after hq11)
              clear RL_10
              have HS_11 := Lib.hid (HS_10.out.after hq11)
              clear HS_10
              have OW_11 := Lib.hid (OW_10.out.after hq11)
              clear OW_10
              have EA_11 := Lib.hid (EA_10.out.after hq11)
              clear EA_10
              have EB_11 := Lib.hid (EB_10.out.after hq11)
              clear EB_10
              have TA_11 := Lib.hid (TA_10.out.after hq11)
              clear TA_10
              have TB_11 := Lib.hid (TB_10.out.after hq11)
              clear TB_10
              have hb11 : Below w.heap.size w w11 := hb10.trans (hq11.mono hb10.size)
              clear hb hds hq11
              have hds := depth_s RL_11.out T1.out T2.out
              rw [T4.out] at hds
              have LLc := LL_11.out.cell 0
              have LLz := LL_11.out.lt
              go_wp2_with fail
              refine (hds).mono ?_
              rintro e12 w12 ⟨rfl, hb⟩
              have hq12 : Below w11.heap.size w11 w12 := by (repeat' (first | (with_reducible first | exact Below.refl _ _ | assumption | refine Below.alloc ?_ ?_ _ | refine Below.setCell ?_ ?_ _ | refine below_row ?_ ?_ _ | refine Below.drew ?_ | refine below_drewN ?_ _ | refine Below.trans ?_ (Below.mono (by assumption) ?_)) | exact Nat.le_refl _ | omega | (simp; done) | (simp; omega) | exact Below.size (by assumption)))
              clear LLc LLz
              have LB_12 := Lib.hid (LB_11.out.after hq12)
              clear LB_11
              have LL_12 := Lib.hid (LL_11.out.after hq12)
              clear LL_11
              have RA_12 := Lib.hid (RA_11.out.after hq12)
              clear RA_11
              have RL_12 := Lib.hid (RL_11.out.after hq12)
              clear RL_11
              have HS_12 := Lib.hid (HS_11.out.after hq12)
              clear HS_11
              have OW_12 := Lib.hid (OW_11.out.after hq12)
              clear OW_11
              have EA_12 := Lib.hid (EA_11.out.after hq12)
              clear EA_11
              have EB_12 := Lib.hid (EB_11.out.after hq12)
              clear EB_11
              have TA_12 := Lib.hid (TA_11.out.after hq12)
              clear TA_11
              have TB_12 := Lib.hid (TB_11.out.after hq12)
              clear TB_11
              have hb12 : Below w.heap.size w w12 := hb11.trans (hq12.mono hb11.size)
              clear hb hds hq12
              go_wp2_with fail
              refine (rSameItems_t EA_12.out EB_12.out (by omega)).mono ?_
              rintro e13 w13 ⟨rfl, hb⟩
              have hq13 : Below w12.heap.size w12 w13 := by (repeat' (first | (with_reducible first | exact Below.refl _ _ | assumption | refine Below.alloc ?_ ?_ _ | refine Below.setCell ?_ ?_ _ | refine below_row ?_ ?_ _ | refine Below.drew ?_ | refine below_drewN ?_ _ | refine Below.trans ?_ (Below.mono (by assumption) ?_)) | exact Nat.le_refl _ | omega | (simp; done) | (simp; omega) | exact Below.size (by assumption)))
              have LB_13 := Lib.hid (LB_12.out.after hq13)
              clear LB_12
              have LL_13 := Lib.hid (LL_12.out.after hq13)
              clear LL_12
              have RA_13 := Lib.hid (RA_12.out.after hq13)
              clear RA_12
              have RL_13 := Lib.hid (RL_12.out.after hq13)
              clear RL_12
              have HS_13 := Lib.hid (HS_12.out.after hq13)
              clear HS_12
              have OW_13 := Lib.hid (OW_12.out.after hq13)
              clear OW_12
              have EA_13 := Lib.hid (EA_12.out.after hq13)
              clear EA_12
              have EB_13 := Lib.hid (EB_12.out.after hq13)
              clear EB_12
              have TA_13 := Lib.hid (TA_12.out.after hq13)
              clear TA_12
              have TB_13 := Lib.hid (TB_12.out.after hq13)
              clear TB_12
              have hb13 : Below w.heap.size w w13 := hb12.trans (hq13.mono hb12.size)
              clear hb hq13
              clear EA_13
              clear EB_13
              go_wp2_with fail
              refine (rSameBranches_t TA_13.out TB_13.out (by omega)).mono ?_
              rintro e14 w14 ⟨rfl, hb⟩
              have hq14 : Below w13.heap.size w13 w14 := by (repeat' (first | (with_reducible first | exact Below.refl _ _ | assumption | refine Below.alloc ?_ ?_ _ | refine Below.setCell ?_ ?_ _ | refine below_row ?_ ?_ _ | refine Below.drew ?_ | refine below_drewN ?_ _ | refine Below.trans ?_ (Below.mono (by assumption) ?_)) | exact Nat.le_refl _ | omega | (simp; done) | (simp; omega) | exact Below.size (by assumption)))
              have LB_14 := Lib.hid (LB_13.out.after hq14)
              clear LB_13
              have LL_14 := Lib.hid (LL_13.out.after hq14)
              clear LL_13
              have RA_14 := Lib.hid (RA_13.out.after hq14)
              clear RA_13
              have RL_14 := Lib.hid (RL_13.out.after hq14)
              clear RL_13
              have HS_14 := Lib.hid (HS_13.out.after hq14)
              clear HS_13
              have OW_14 := Lib.hid (OW_13.out.after hq14)
              clear OW_13
              have TA_14 := Lib.hid (TA_13.out.after hq14)
              clear TA_13
              have TB_14 := Lib.hid (TB_13.out.after hq14)
              clear TB_13
              have hb14 : Below w.heap.size w w14 := hb13.trans (hq14.mono hb13.size)
              clear hb hq14
              clear TA_14
              clear TB_14
              have hds := sCheck_any RL_14.out
              rw [T1.out] at hds
              have LLc := LL_14.out.cell 0
              have LLz := LL_14.out.lt
              go_wp2_with fail
              refine (hds).mono ?_
              rintro e15 w15 ⟨rfl, hb⟩
              have hq15 : Below w14.heap.size w14 w15 := by (repeat' (first | (with_reducible first | exact Below.refl _ _ | assumption | refine Below.alloc ?_ ?_ _ | refine Below.setCell ?_ ?_ _ | refine below_row ?_ ?_ _ | refine Below.drew ?_ | refine below_drewN ?_ _ | refine Below.trans ?_ (Below.mono (by assumption) ?_)) | exact Nat.le_refl _ | omega | (simp; done) | (simp; omega) | exact Below.size (by assumption)))
              clear LLc LLz
              have LB_15 := Lib.hid (LB_14.out.after hq15)
              clear LB_14
              have LL_15 := Lib.hid (LL_14.out.after hq15)
              clear LL_14
              have RA_15 := Lib.hid (RA_14.out.after hq15)
              clear RA_14
              have RL_15 := Lib.hid (RL_14.out.after hq15)
              clear RL_14
              have HS_15 := Lib.hid (HS_14.out.after hq15)
              clear HS_14
              have OW_15 := Lib.hid (OW_14.out.after hq15)
              clear OW_14
              have hb15 : Below w.heap.size w w15 := hb14.trans (hq15.mono hb14.size)
              clear hb hds hq15
              go_wp2_with fail
              go_ret
              exact ⟨rfl, hb15⟩
end Go.Proofs.Ytmhlbdighceogaa
