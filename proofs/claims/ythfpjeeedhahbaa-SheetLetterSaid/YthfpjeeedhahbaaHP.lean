/- SheetLetter: the law's body. -/
import Derived.Test.YthfpjeeedhahbaaRD
import Derived.Test.YthfpjeeedhahbaaRE
import Derived.Test.YthfpjeeedhahbaaHX
import Derived.Test.YthfpjeeedhahbaaHY
namespace Go.Proofs.Ythfpjeeedhahbaa
set_option linter.unusedVariables false
set_option linter.unusedSimpArgs false
open Go.RowKit

set_option maxRecDepth 100000 in
set_option maxHeartbeats 16000000 in
theorem letter_ready {A : Option Addr} {c b off : Nat} {xs : List Iss} {vi vd : Nat → Value} {vB : Value} {by_ : List Int} (n o k : Nat) (w : World) (hn : n ≤ 255) (ho : o ≤ 255) (hk : k ≤ 255) (hm : xs.length ≤ 9223372036854775807) (hm2 : ∀ x ∈ xs, x.items.length ≤ 9223372036854775807 ∧ x.dims.length ≤ 9223372036854775807) (hA : 0 < xs.length → A = some ⟨b, off, none⟩) (hc : IssRow w b off xs vi vd) (hB : ByAt w vB by_) (hbl : by_.length ≤ 9223372036854775807) (hr1 : readyB xs = true) :
    Calls Try.prog 12 #[.agg #[.slice A xs.length c], vB, .int .u8 (n : Int), .int .u8 (o : Int), .int .u8 (k : Int)] w fun e w' => e = .returned (.bool true) ∧ Below w.heap.size w w' := by
  obtain ⟨hg1, h01⟩ := ready_parts hr1
  obtain ⟨hlen, hsml⟩ := great_no hg1
  have hr : RegAt w (.slice A xs.length c) xs := ⟨⟨A, c, b, off, rfl, hA, fun i hi => ⟨vi i, vd i, hc i hi⟩⟩, by omega, fun x hx => ⟨by have := (hsml x hx).1; omega, by have := (hsml x hx).2; omega⟩⟩
  have HQ1 := Lib.hid (fun W (hW : Below w.heap.size w W) => ready_any A c b off xs vi vd W hm hm2 hA (hc.after hW))
  rw [hr1] at HQ1
  have hsm := (layE_ok h01).2.2.1
  have hns := numbers_same (layE_ok h01).2.1
  have HLT := Lib.hid (fun W (h1 : RegAt W (.slice A xs.length c) xs) (h2 : ByAt W vB by_) => letters_any h1 h2 h01 hbl)
  have HDN := Lib.hid (fun W (h1 : RegAt W (.slice A xs.length c) xs) => drawing_any n hn h1 h01)
  have HDK := Lib.hid (fun W (h1 : RegAt W (.slice A xs.length c) xs) => drawing_any k hk h1 h01)
  have HNU := Lib.hid (fun W (h1 : RegAt W (.slice A xs.length c) xs) => rNumbers_v h1)
  rw [hns] at HNU
  have hls := letters_ok h01 hB.2
  have hlp := letters_len xs by_
  have hd := draw_mem h01 n
  have hx := draw_mem h01 k
  have hlast := last_pos h01 hd
  have hhas := letter_has h01 hd (c := (o : Int)) (by omega)
  obtain ⟨p, hp, ⟨hp', hpz⟩, hpi⟩ := idx_spec hd
  have hlm := letters_set hls hp' (v := 1 + (o : Int).tmod (lastOfR (drawF xs n) 0 xs)) (by rw [hpz]; exact hhas)
  have hpn : p = (idxL (numbersL xs) (drawF xs n)).toNat := by omega
  rw [hpn] at hlm
  obtain ⟨ha1, ha2, ha3⟩ := letter_above h01 hls hlm hd
  have hax := ask_ok h01 hls hx
  have ham := ask_ok h01 hlm hx
  have hpar := fun hne hno => letter_parts h01 hls hlm hd hx hne hno
  rw [← hpn] at ha1 ham hpar
  have hul := above_sub (xs := xs) (lettersF xs by_) (drawF xs n)
  have he1 := el_len xs (lettersF xs by_) (drawF xs k)
  have he2 := el_len xs ((lettersF xs by_).set p (1 + (o : Int).tmod (lastOfR (drawF xs n) 0 xs))) (drawF xs k)
  have ht1 := tl_len xs (lettersF xs by_) (drawF xs k)
  have ht2 := tl_len xs ((lettersF xs by_).set p (1 + (o : Int).tmod (lastOfR (drawF xs n) 0 xs))) (drawF xs k)
  clear hls hlm hhas hx hpn hns
  have HLO := Lib.hid (fun W (h1 : RegAt W (.slice A xs.length c) xs) => rLastOf_v (drawF xs n) h1)
  generalize drawF xs n = d at *
  generalize drawF xs k = x at *
  generalize lettersF xs by_ = ls at *
  generalize lastOfR d 0 xs = L at *
  generalize hms : ls.set p (1 + (o : Int).tmod L) = ms at *
  obtain ⟨up, q, hae⟩ : ∃ up q, aboveE xs ls d = (up, q) := ⟨_, _, rfl⟩
  rw [hae] at ha1 ha2 ha3 hul hpar
  simp only at ha2 ha3 hul hpar
  obtain rfl : q = 0 := ha3
  obtain ⟨el, hel⟩ : ∃ el, explL xs ls x = el := ⟨_, rfl⟩
  obtain ⟨em, hem⟩ : ∃ el, explL xs ms x = el := ⟨_, rfl⟩
  obtain ⟨tl, ec, htl⟩ : ∃ a b, treeE xs ls x = (a, b) := ⟨_, _, rfl⟩
  obtain ⟨tm, fc, htm⟩ : ∃ a b, treeE xs ms x = (a, b) := ⟨_, _, rfl⟩
  rw [hel] at he1
  rw [hem] at he2
  rw [htl] at ht1
  rw [htm] at ht2
  rw [hel, hem, htl, htm] at hpar
  simp only at ht1 ht2
  have HAE := Lib.hid hae
  have HA1 := Lib.hid ha1
  have HNI := Lib.hid (decide_eq_false ha2)
  have HAX := Lib.hid hax
  have HAM := Lib.hid ham
  have HEL := Lib.hid hel
  have HEM := Lib.hid hem
  have HTL := Lib.hid htl
  have HTM := Lib.hid htm
  have HPAR := Lib.hid hpar
  have HPI := Lib.hid hpi
  have HMS := Lib.hid hms
  have hmsl : ms.length = ls.length := by rw [← hms, List.length_set]
  have hll : ls.length ≤ 20 := by omega
  have hlm : ms.length ≤ 20 := by omega
  have hpl : p < ls.length := by omega
  have hpl2 : (p : Int) < (ls.length : Int) := by omega
  have hl0 : 0 < ls.length := by omega
  have HML := Lib.hid hmsl
  have k0 : IntKind.i64.wrap (o : Int) = (o : Int) := IntWalk.i64_in _ (by omega)
  have t0 : 0 ≤ (o : Int).tmod L := by rw [Int.tmod_eq_emod_of_nonneg (by omega)]; exact Int.emod_nonneg _ (by omega)
  have t1 : (o : Int).tmod L ≤ o := by rw [Int.tmod_eq_emod_of_nonneg (by omega)]; exact emod_le (by omega) (by omega)
  have k1 : IntKind.i64.wrap ((o : Int).tmod L) = (o : Int).tmod L := IntWalk.i64_in _ (by omega)
  have k2 : IntKind.i64.wrap (1 + (o : Int).tmod L) = 1 + (o : Int).tmod L := IntWalk.i64_in _ (by omega)
  have hz2 : (L == 0) = false := by rw [beq_eq_false_iff_ne]; omega
  have hz3 : ¬ L = 0 := by omega
  obtain ⟨i0, hi0, iz0, iz1, iz2⟩ := info_parts infoN
  have LB_0 := Lib.hid (Lies.made w 24 #[.slice A xs.length c])
  have RA_0 := Lib.hid (hr.after ((Below.refl _ w).alloc (Nat.le_refl _) (.cells #[.slice A xs.length c] 24)))
  obtain ⟨AB, cB, rfl⟩ := hB.slice
  have RB_0 := Lib.hid (hB.after ((Below.refl _ w).alloc (Nat.le_refl _) (.cells #[.slice A xs.length c] 24)))
  have hb0 : Below w.heap.size w (w.alloc (.cells #[.slice A xs.length c] 24)) := by (repeat' (first | (with_reducible first | exact Below.refl _ _ | assumption | refine Below.alloc ?_ ?_ _ | refine Below.setCell ?_ ?_ _ | refine below_row ?_ ?_ _ | refine Below.drew ?_ | refine below_drewN ?_ _ | refine Below.trans ?_ (Below.mono (by assumption) ?_)) | exact Nat.le_refl _ | omega | (simp; done) | (simp; omega) | exact Below.size (by assumption)))
  clear hA hc hm2 hm hsml hr hg1 h01 hr1 ha1 ha2 hax ham hel hem htl htm hpar hae hpz hpi hms hmsl hB hbl hd hp' hlast hlp
  go_enter Try.func12, Try.ntmps12
  go_wp2_with fail
  refine (alive_any _).mono ?_
  rintro e1 w1 ⟨rfl, hb⟩
  have hq1 : Below (w.alloc (.cells #[.slice A xs.length c] 24)).heap.size (w.alloc (.cells #[.slice A xs.length c] 24)) w1 := by (repeat' (first | (with_reducible first | exact Below.refl _ _ | assumption | refine Below.alloc ?_ ?_ _ | refine Below.setCell ?_ ?_ _ | refine below_row ?_ ?_ _ | refine Below.drew ?_ | refine below_drewN ?_ _ | refine Below.trans ?_ (Below.mono (by assumption) ?_)) | exact Nat.le_refl _ | omega | (simp; done) | (simp; omega) | exact Below.size (by assumption)))
  have LB_1 := Lib.hid (LB_0.out.after hq1)
  clear LB_0
  have RA_1 := Lib.hid (RA_0.out.after hq1)
  clear RA_0
  have RB_1 := Lib.hid (RB_0.out.after hq1)
  clear RB_0
  have hb1 : Below w.heap.size w w1 := hb0.trans (hq1.mono hb0.size)
  clear hb hq1
  have LBc := LB_1.out.cell 0
  have LBz := LB_1.out.lt
  go_wp2_with fail
  refine (HQ1.out _ (by (repeat' (first | (with_reducible first | exact Below.refl _ _ | assumption | refine Below.alloc ?_ ?_ _ | refine Below.setCell ?_ ?_ _ | refine below_row ?_ ?_ _ | refine Below.drew ?_ | refine below_drewN ?_ _ | refine Below.trans ?_ (Below.mono (by assumption) ?_)) | exact Nat.le_refl _ | omega | (simp; done) | (simp; omega) | exact Below.size (by assumption))))).mono ?_
  rintro e2 w2 ⟨rfl, hb⟩
  have hq2 : Below w1.heap.size w1 w2 := by (repeat' (first | (with_reducible first | exact Below.refl _ _ | assumption | refine Below.alloc ?_ ?_ _ | refine Below.setCell ?_ ?_ _ | refine below_row ?_ ?_ _ | refine Below.drew ?_ | refine below_drewN ?_ _ | refine Below.trans ?_ (Below.mono (by assumption) ?_)) | exact Nat.le_refl _ | omega | (simp; done) | (simp; omega) | exact Below.size (by assumption)))
  clear LBc LBz
  have LB_2 := Lib.hid (LB_1.out.after hq2)
  clear LB_1
  have RA_2 := Lib.hid (RA_1.out.after hq2)
  clear RA_1
  have RB_2 := Lib.hid (RB_1.out.after hq2)
  clear RB_1
  have hb2 : Below w.heap.size w w2 := hb1.trans (hq2.mono hb1.size)
  clear hb hq2
  have LBc := LB_2.out.cell 0
  have LBz := LB_2.out.lt
  go_upto_region 4 with fail
  refine wp_region_held_drew (S := fun W => W.cell? ⟨w.heap.size, 0, none⟩ = some (.slice A xs.length c)) (by kernel_rfl) LBc (fun hHeld => ?_)
  refine take_at (i := 0) (v := ?_) rfl (by kernel_rfl) (by kernel_rfl) (by kernel_rfl) (fun _ _ _ h => h) (Or.inl ⟨by rfl, ?_⟩) (by assumption) ?_
  rotate_left
  · (intro w hSw; (try dsimp only at hSw); go_simp; (try with_reducible rfl))
  try simp only [Act.put, List.setIfInBounds_toArray, List.set_cons_zero, List.set_cons_succ]
  refine take_at (i := 1) (v := ?_) rfl (by kernel_rfl) (by kernel_rfl) (by kernel_rfl) (fun _ _ _ h => h) (Or.inl ⟨by rfl, ?_⟩) (by assumption) ?_
  rotate_left
  · (intro w hSw; (try dsimp only at hSw); go_simp; (try with_reducible rfl))
  try simp only [Act.put, List.setIfInBounds_toArray, List.set_cons_zero, List.set_cons_succ]
  refine take_at (i := 3) (v := ?_) rfl (by kernel_rfl) (by kernel_rfl) (by kernel_rfl) (fun _ _ _ h => h) (Or.inl ⟨by rfl, ?_⟩) (by assumption) ?_
  rotate_left
  · (intro w hSw; (try dsimp only at hSw); go_simp; (try with_reducible rfl))
  try simp only [Act.put, List.setIfInBounds_toArray, List.set_cons_zero, List.set_cons_succ]
  refine take_at (i := 4) (v := ?_) rfl (by kernel_rfl) (by kernel_rfl) (by kernel_rfl) (fun _ _ _ h => h) (Or.inl ⟨by rfl, ?_⟩) (by assumption) ?_
  rotate_left
  · (intro w hSw; (try dsimp only at hSw); go_simp; (try with_reducible rfl))
  try simp only [Act.put, List.setIfInBounds_toArray, List.set_cons_zero, List.set_cons_succ]
  refine take_at (i := 6) (v := ?_) rfl (by kernel_rfl) (by kernel_rfl) (by kernel_rfl) (fun _ _ _ h => h) (Or.inl ⟨by rfl, ?_⟩) (by assumption) ?_
  rotate_left
  · (intro w hSw; (try dsimp only at hSw); go_simp; (try with_reducible rfl))
  try simp only [Act.put, List.setIfInBounds_toArray, List.set_cons_zero, List.set_cons_succ]
  refine take_at (i := 7) (v := ?_) rfl (by kernel_rfl) (by kernel_rfl) (by kernel_rfl) (fun _ _ _ h => h) (Or.inl ⟨by rfl, ?_⟩) (by assumption) ?_
  rotate_left
  · (intro w hSw; (try dsimp only at hSw); go_simp; (try with_reducible rfl))
  try simp only [Act.put, List.setIfInBounds_toArray, List.set_cons_zero, List.set_cons_succ]
  refine wpAnyH_ready (rs := [2]) (by kernel_rfl) (by simp) ?_
  refine cons_at rfl (fun K hK => ?_) AllReadyH.nil
  (first | (go_at_call 57; refine (HLT.out _ (RA_2.out.after (by (repeat' (first | (with_reducible first | exact Below.refl _ _ | assumption | refine Below.alloc ?_ ?_ _ | refine Below.setCell ?_ ?_ _ | refine below_row ?_ ?_ _ | refine Below.drew ?_ | refine below_drewN ?_ _ | refine Below.trans ?_ (Below.mono (by assumption) ?_)) | exact Nat.le_refl _ | omega | (simp; done) | (simp; omega) | exact Below.size (by assumption))))) (RB_2.out.after (by (repeat' (first | (with_reducible first | exact Below.refl _ _ | assumption | refine Below.alloc ?_ ?_ _ | refine Below.setCell ?_ ?_ _ | refine below_row ?_ ?_ _ | refine Below.drew ?_ | refine below_drewN ?_ _ | refine Below.trans ?_ (Below.mono (by assumption) ?_)) | exact Nat.le_refl _ | omega | (simp; done) | (simp; omega) | exact Below.size (by assumption)))))).mono ?_; rintro e3 w3 ⟨AL, cL, rfl, hil, ga3⟩; have hv3 : Below w2.heap.size w2 w3 := (by (repeat' (first | (with_reducible first | exact Below.refl _ _ | assumption | refine Below.alloc ?_ ?_ _ | refine Below.setCell ?_ ?_ _ | refine below_row ?_ ?_ _ | refine Below.drew ?_ | refine below_drewN ?_ _ | refine Below.trans ?_ (Below.mono (by assumption) ?_)) | exact Nat.le_refl _ | omega | (simp; done) | (simp; omega) | exact Below.size (by assumption)))); have LB3 := Lib.hid (LB_2.out.after hv3); have x3 := LB3.out.cell 0; have z3 := LB3.out.lt; have HS3 := Lib.hid hil; clear hil) | (go_simp; go_at_call 57; refine (HLT.out _ (RA_2.out.after (by (repeat' (first | (with_reducible first | exact Below.refl _ _ | assumption | refine Below.alloc ?_ ?_ _ | refine Below.setCell ?_ ?_ _ | refine below_row ?_ ?_ _ | refine Below.drew ?_ | refine below_drewN ?_ _ | refine Below.trans ?_ (Below.mono (by assumption) ?_)) | exact Nat.le_refl _ | omega | (simp; done) | (simp; omega) | exact Below.size (by assumption))))) (RB_2.out.after (by (repeat' (first | (with_reducible first | exact Below.refl _ _ | assumption | refine Below.alloc ?_ ?_ _ | refine Below.setCell ?_ ?_ _ | refine below_row ?_ ?_ _ | refine Below.drew ?_ | refine below_drewN ?_ _ | refine Below.trans ?_ (Below.mono (by assumption) ?_)) | exact Nat.le_refl _ | omega | (simp; done) | (simp; omega) | exact Below.size (by assumption)))))).mono ?_; rintro e3 w3 ⟨AL, cL, rfl, hil, ga3⟩; have hv3 : Below w2.heap.size w2 w3 := (by (repeat' (first | (with_reducible first | exact Below.refl _ _ | assumption | refine Below.alloc ?_ ?_ _ | refine Below.setCell ?_ ?_ _ | refine below_row ?_ ?_ _ | refine Below.drew ?_ | refine below_drewN ?_ _ | refine Below.trans ?_ (Below.mono (by assumption) ?_)) | exact Nat.le_refl _ | omega | (simp; done) | (simp; omega) | exact Below.size (by assumption)))); have LB3 := Lib.hid (LB_2.out.after hv3); have x3 := LB3.out.cell 0; have z3 := LB3.out.lt; have HS3 := Lib.hid hil; clear hil))
  refine hK.out _ _ ?_ (fun hHeld => ?_)
  · exact x3
  clear hK K
  try simp only [Act.put, List.setIfInBounds_toArray, List.set_cons_zero, List.set_cons_succ]
  refine wpAnyH_ready (rs := [5]) (by kernel_rfl) (by simp) ?_
  refine cons_at rfl (fun K hK => ?_) AllReadyH.nil
  (first | (go_at_call 58; refine (HDN.out _ (RA_2.out.after hv3)).mono ?_; rintro e4 w4 ⟨rfl, ga4⟩; have hv4 : Below w2.heap.size w2 w4 := (by (repeat' (first | (with_reducible first | exact Below.refl _ _ | assumption | refine Below.alloc ?_ ?_ _ | refine Below.setCell ?_ ?_ _ | refine below_row ?_ ?_ _ | refine Below.drew ?_ | refine below_drewN ?_ _ | refine Below.trans ?_ (Below.mono (by assumption) ?_)) | exact Nat.le_refl _ | omega | (simp; done) | (simp; omega) | exact Below.size (by assumption)))); have LB4 := Lib.hid (LB_2.out.after hv4); have x4 := LB4.out.cell 0; have z4 := LB4.out.lt) | (go_simp; go_at_call 58; refine (HDN.out _ (RA_2.out.after hv3)).mono ?_; rintro e4 w4 ⟨rfl, ga4⟩; have hv4 : Below w2.heap.size w2 w4 := (by (repeat' (first | (with_reducible first | exact Below.refl _ _ | assumption | refine Below.alloc ?_ ?_ _ | refine Below.setCell ?_ ?_ _ | refine below_row ?_ ?_ _ | refine Below.drew ?_ | refine below_drewN ?_ _ | refine Below.trans ?_ (Below.mono (by assumption) ?_)) | exact Nat.le_refl _ | omega | (simp; done) | (simp; omega) | exact Below.size (by assumption)))); have LB4 := Lib.hid (LB_2.out.after hv4); have x4 := LB4.out.cell 0; have z4 := LB4.out.lt))
  refine hK.out _ _ ?_ (fun hHeld => ?_)
  · exact x4
  clear hK K
  try simp only [Act.put, List.setIfInBounds_toArray, List.set_cons_zero, List.set_cons_succ]
  refine wpAnyH_ready (rs := [8]) (by kernel_rfl) (by simp) ?_
  refine cons_at rfl (fun K hK => ?_) AllReadyH.nil
  (first | (go_at_call 58; refine (HDK.out _ (RA_2.out.after hv4)).mono ?_; rintro e5 w5 ⟨rfl, ga5⟩; have hv5 : Below w2.heap.size w2 w5 := (by (repeat' (first | (with_reducible first | exact Below.refl _ _ | assumption | refine Below.alloc ?_ ?_ _ | refine Below.setCell ?_ ?_ _ | refine below_row ?_ ?_ _ | refine Below.drew ?_ | refine below_drewN ?_ _ | refine Below.trans ?_ (Below.mono (by assumption) ?_)) | exact Nat.le_refl _ | omega | (simp; done) | (simp; omega) | exact Below.size (by assumption)))); have LB5 := Lib.hid (LB_2.out.after hv5); have x5 := LB5.out.cell 0; have z5 := LB5.out.lt) | (go_simp; go_at_call 58; refine (HDK.out _ (RA_2.out.after hv4)).mono ?_; rintro e5 w5 ⟨rfl, ga5⟩; have hv5 : Below w2.heap.size w2 w5 := (by (repeat' (first | (with_reducible first | exact Below.refl _ _ | assumption | refine Below.alloc ?_ ?_ _ | refine Below.setCell ?_ ?_ _ | refine below_row ?_ ?_ _ | refine Below.drew ?_ | refine below_drewN ?_ _ | refine Below.trans ?_ (Below.mono (by assumption) ?_)) | exact Nat.le_refl _ | omega | (simp; done) | (simp; omega) | exact Below.size (by assumption)))); have LB5 := Lib.hid (LB_2.out.after hv5); have x5 := LB5.out.cell 0; have z5 := LB5.out.lt))
  refine hK.out _ _ ?_ (fun hHeld => ?_)
  · exact x5
  clear hK K
  try simp only [Act.put, List.setIfInBounds_toArray, List.set_cons_zero, List.set_cons_succ]
  refine take_at (i := 9) (v := ?_) rfl (by kernel_rfl) (by kernel_rfl) (by kernel_rfl) (fun _ _ _ h => h) (Or.inl ⟨by rfl, ?_⟩) (by assumption) ?_
  rotate_left
  · (intro w hSw; (try dsimp only at hSw); go_simp; (try with_reducible rfl))
  try simp only [Act.put, List.setIfInBounds_toArray, List.set_cons_zero, List.set_cons_succ]
  refine take_at (i := 10) (v := ?_) rfl (by kernel_rfl) (by kernel_rfl) (by kernel_rfl) (fun _ _ _ h => h) (Or.inl ⟨by rfl, ?_⟩) (by assumption) ?_
  rotate_left
  · (intro w hSw; (try dsimp only at hSw); go_simp; (try with_reducible rfl))
  try simp only [Act.put, List.setIfInBounds_toArray, List.set_cons_zero, List.set_cons_succ]
  refine take_at (i := 11) (v := ?_) rfl (by kernel_rfl) (by kernel_rfl) (by kernel_rfl) (fun _ _ _ h => h) (Or.inl ⟨by rfl, ?_⟩) (by assumption) ?_
  rotate_left
  · (intro w hSw; (try dsimp only at hSw); go_simp; (try with_reducible rfl))
  try simp only [Act.put, List.setIfInBounds_toArray, List.set_cons_zero, List.set_cons_succ]
  refine wpAnyH_done (by kernel_rfl) ?_ _
  have hq5 : Below w2.heap.size w2 w5 := hv5
  clear LBc LBz
  have LB_5 := Lib.hid (LB_2.out.after hq5)
  clear LB_2
  have RA_5 := Lib.hid (RA_2.out.after hq5)
  clear RA_2
  have RB_5 := Lib.hid (RB_2.out.after hq5)
  clear RB_2
  have HS_5 := Lib.hid (HS3.out.after (ga4.trans (ga5.mono ga4.size)))
  have hb5 : Below w.heap.size w w5 := hb2.trans (hq5.mono hb2.size)
  clear hv3 hv4 ga3 ga4 ga5 LB3 x3 z3 LB4 x4 z4 LB5 x5 z5 HS3 hq5
  clear RB_5
  have hq := HS_5.out
  obtain ⟨A', c', bL, oL, eL, hAL, hcL⟩ := hq
  injection eL with e1 e2 e3
  subst e1 e3
  obtain rfl := hAL (by omega)
  clear hAL hv5
  go_upto_region 6 with (at_builtin; refine wpList_append_own _ rfl _ _ 29 rfl w5.heap.size 3 i0 (.int .i64 0) 1 8 Try.underlying29 hi0 iz0 iz1 iz2 rfl (by decide) _ 0 [] rfl (own_mtN w5 w5.heap.size w5.heap.size rfl (Nat.le_refl _)) ⟨bL, oL, none⟩ ls.length cL (cellsN ls) rfl (by simp [cellsN]) (news_row hcL (by (repeat' (first | (with_reducible first | exact Below.refl _ _ | assumption | refine Below.alloc ?_ ?_ _ | refine Below.setCell ?_ ?_ _ | refine below_row ?_ ?_ _ | refine Below.drew ?_ | refine below_drewN ?_ _ | refine Below.trans ?_ (Below.mono (by assumption) ?_)) | exact Nat.le_refl _ | omega | (simp; done) | (simp; omega) | exact Below.size (by assumption))))) (by intro u hu; obtain ⟨x, -, rfl⟩ := List.mem_map.1 hu; rfl) (by unfold maxLen; omega) (by omega) (by simp) ?_; intro v6 w6 hown6 hgrow6 _; have hb6 : Below w5.heap.size w5 w6 := (below_own (w0 := w5) (B := w5.heap.size) (by (repeat' (first | (with_reducible first | exact Below.refl _ _ | assumption | refine Below.alloc ?_ ?_ _ | refine Below.setCell ?_ ?_ _ | refine below_row ?_ ?_ _ | refine Below.drew ?_ | refine below_drewN ?_ _ | refine Below.trans ?_ (Below.mono (by assumption) ?_)) | exact Nat.le_refl _ | omega | (simp; done) | (simp; omega) | exact Below.size (by assumption)))) (own_mtN w5 w5.heap.size w5.heap.size rfl (Nat.le_refl _)) hgrow6 (Nat.le_refl _) (by simp)); rw [Nat.zero_add, List.nil_append] at hown6; obtain ⟨A6, c6, g6, rfl, hg6⟩ := own_form hown6; obtain ⟨hg6a, rfl, -⟩ := hg6 (by omega); have HO6 := Lib.hid hown6; clear hown6 hgrow6 hg6)
  have hv6 : Below w5.heap.size w5 w6 := hb6
  have hzw := LB_5.out.lt
  have LB6 := Lib.hid (LB_5.out.after hv6)
  have x6 := LB6.out.cell 0
  have z6 := LB6.out.lt
  refine wp_region_held_drew (S := fun W => W.cell? ⟨w.heap.size, 0, none⟩ = some (.slice A xs.length c)) (by kernel_rfl) x6 (fun hHeld => ?_)
  refine take_at (i := 0) (v := ?_) rfl (by kernel_rfl) (by kernel_rfl) (by kernel_rfl) (fun _ _ _ h => h) (Or.inl ⟨by rfl, ?_⟩) (by assumption) ?_
  rotate_left
  · (intro w hSw; (try dsimp only at hSw); go_simp; (try with_reducible rfl))
  try simp only [Act.put, List.setIfInBounds_toArray, List.set_cons_zero, List.set_cons_succ]
  refine take_at (i := 1) (v := ?_) rfl (by kernel_rfl) (by kernel_rfl) (by kernel_rfl) (fun _ _ _ h => h) (Or.inl ⟨by rfl, ?_⟩) (by assumption) ?_
  rotate_left
  · (intro w hSw; (try dsimp only at hSw); go_simp; (try with_reducible rfl))
  try simp only [Act.put, List.setIfInBounds_toArray, List.set_cons_zero, List.set_cons_succ]
  refine take_at (i := 3) (v := ?_) rfl (by kernel_rfl) (by kernel_rfl) (by kernel_rfl) (fun _ _ _ h => h) (Or.inl ⟨by rfl, ?_⟩) (by assumption) ?_
  rotate_left
  · (intro w hSw; (try dsimp only at hSw); go_simp; (try with_reducible rfl))
  try simp only [Act.put, List.setIfInBounds_toArray, List.set_cons_zero, List.set_cons_succ]
  refine take_at (i := 5) (v := ?_) rfl (by kernel_rfl) (by kernel_rfl) (by kernel_rfl) (fun _ _ _ h => h) (Or.inl ⟨by rfl, ?_⟩) (by assumption) ?_
  rotate_left
  · (intro w hSw; (try dsimp only at hSw); go_simp; (try with_reducible rfl))
  try simp only [Act.put, List.setIfInBounds_toArray, List.set_cons_zero, List.set_cons_succ]
  refine take_at (i := 6) (v := ?_) rfl (by kernel_rfl) (by kernel_rfl) (by kernel_rfl) (fun _ _ _ h => h) (Or.inl ⟨by rfl, ?_⟩) (by assumption) ?_
  rotate_left
  · (intro w hSw; (try dsimp only at hSw); go_simp; (try with_reducible rfl))
  try simp only [Act.put, List.setIfInBounds_toArray, List.set_cons_zero, List.set_cons_succ]
  refine take_at (i := 7) (v := ?_) rfl (by kernel_rfl) (by kernel_rfl) (by kernel_rfl) (fun _ _ _ h => h) (Or.inl ⟨by rfl, ?_⟩) (by assumption) ?_
  rotate_left
  · (intro w hSw; (try dsimp only at hSw); go_simp; (try with_reducible rfl))
  try simp only [Act.put, List.setIfInBounds_toArray, List.set_cons_zero, List.set_cons_succ]
  refine take_at (i := 8) (v := ?_) rfl (by kernel_rfl) (by kernel_rfl) (by kernel_rfl) (fun _ _ _ h => h) (Or.inl ⟨by rfl, ?_⟩) (by assumption) ?_
  rotate_left
  · (intro w hSw; (try dsimp only at hSw); go_simp; (try with_reducible rfl))
  try simp only [Act.put, List.setIfInBounds_toArray, List.set_cons_zero, List.set_cons_succ]
  refine wpAnyH_ready (rs := [2]) (by kernel_rfl) (by simp) ?_
  refine cons_at rfl (fun K hK => ?_) AllReadyH.nil
  (first | (go_at_call 59; refine (HNU.out _ (RA_5.out.after hb6.drew)).mono ?_; rintro e7 w7 ⟨vN, rfl, hoN, ga7⟩; have hv7 : Below w5.heap.size w5 w7 := hb6.drew.trans (ga7.mono hb6.drew.size); have hw7 : Below w6.heap.size w6 w7 := (Below.refl _ w6).drew.trans ga7; have LB7 := Lib.hid (LB_5.out.after hv7); have x7 := LB7.out.cell 0; have z7 := LB7.out.lt; have hiN := ints_of_own hoN; obtain ⟨AN, cN, bN, oN, rfl, hAN, hcN⟩ := hiN; have hix := rIndex_any AN cN bN oN (numbersL xs) d w7 hAN (by omega) hcN; rw [HPI.out] at hix; have HIX := Lib.hid hix; clear hix hoN hAN hcN ga7) | (go_simp; go_at_call 59; refine (HNU.out _ (RA_5.out.after hb6.drew)).mono ?_; rintro e7 w7 ⟨vN, rfl, hoN, ga7⟩; have hv7 : Below w5.heap.size w5 w7 := hb6.drew.trans (ga7.mono hb6.drew.size); have hw7 : Below w6.heap.size w6 w7 := (Below.refl _ w6).drew.trans ga7; have LB7 := Lib.hid (LB_5.out.after hv7); have x7 := LB7.out.cell 0; have z7 := LB7.out.lt; have hiN := ints_of_own hoN; obtain ⟨AN, cN, bN, oN, rfl, hAN, hcN⟩ := hiN; have hix := rIndex_any AN cN bN oN (numbersL xs) d w7 hAN (by omega) hcN; rw [HPI.out] at hix; have HIX := Lib.hid hix; clear hix hoN hAN hcN ga7))
  refine hK.out _ _ ?_ (fun hHeld => ?_)
  · exact x7
  clear hK K
  try simp only [Act.put, List.setIfInBounds_toArray, List.set_cons_zero, List.set_cons_succ]
  refine wpAnyH_ready (rs := [4]) (by kernel_rfl) (by simp) ?_
  refine cons_at rfl (fun K hK => ?_) AllReadyH.nil
  (first | (go_at_call 60; refine (HIX.out).mono ?_; rintro e8 w8 ⟨rfl, rfl⟩; skip) | (go_simp; go_at_call 60; refine (HIX.out).mono ?_; rintro e8 w8 ⟨rfl, rfl⟩; skip))
  refine hK.out _ _ ?_ (fun hHeld => ?_)
  · exact x7
  clear hK K
  try simp only [Act.put, List.setIfInBounds_toArray, List.set_cons_zero, List.set_cons_succ]
  refine wpAnyH_ready (rs := [9]) (by kernel_rfl) (by simp) ?_
  refine cons_at rfl (fun K hK => ?_) AllReadyH.nil
  (first | (go_at_call 62; refine (HLO.out _ (RA_5.out.after hv7)).mono ?_; rintro e9 w9 ⟨rfl, ga9⟩; have hv9 : Below w5.heap.size w5 w9 := hv7.trans (ga9.mono hv7.size); have hw9 : Below w6.heap.size w6 w9 := hw7.trans (ga9.mono hw7.size); have LB9 := Lib.hid (LB_5.out.after hv9); have x9 := LB9.out.cell 0; have z9 := LB9.out.lt; have HO9 := Lib.hid (own_after HO6.out hw9); have c9 : w9.cell? ⟨g6, p, none⟩ = some (.int .i64 (ls[p])) := (by rw [HO9.out.cellAt p (by omega)]; simp [cellsN, hpl]); have fr9 := HO9.out.frozenAt p; clear ga9) | (go_simp; go_at_call 62; refine (HLO.out _ (RA_5.out.after hv7)).mono ?_; rintro e9 w9 ⟨rfl, ga9⟩; have hv9 : Below w5.heap.size w5 w9 := hv7.trans (ga9.mono hv7.size); have hw9 : Below w6.heap.size w6 w9 := hw7.trans (ga9.mono hw7.size); have LB9 := Lib.hid (LB_5.out.after hv9); have x9 := LB9.out.cell 0; have z9 := LB9.out.lt; have HO9 := Lib.hid (own_after HO6.out hw9); have c9 : w9.cell? ⟨g6, p, none⟩ = some (.int .i64 (ls[p])) := (by rw [HO9.out.cellAt p (by omega)]; simp [cellsN, hpl]); have fr9 := HO9.out.frozenAt p; clear ga9))
  refine hK.out _ _ ?_ (fun hHeld => ?_)
  · exact x9
  clear hK K
  try simp only [Act.put, List.setIfInBounds_toArray, List.set_cons_zero, List.set_cons_succ]
  refine take_at (i := 10) (v := ?_) rfl (by kernel_rfl) (by kernel_rfl) (by kernel_rfl) (fun _ _ _ h => h) (Or.inl ⟨by rfl, ?_⟩) (by assumption) ?_
  rotate_left
  · (intro w hSw; (try dsimp only at hSw); go_simp; (try with_reducible rfl))
  try simp only [Act.put, List.setIfInBounds_toArray, List.set_cons_zero, List.set_cons_succ]
  refine take_at (i := 11) (v := ?_) rfl (by kernel_rfl) (by kernel_rfl) (by kernel_rfl) (fun _ _ _ h => h) (Or.inl ⟨by rfl, ?_⟩) (by assumption) ?_
  rotate_left
  · (intro w hSw; (try dsimp only at hSw); go_simp; (try with_reducible rfl))
  try simp only [Act.put, List.setIfInBounds_toArray, List.set_cons_zero, List.set_cons_succ]
  refine take_at (i := 12) (v := ?_) rfl (by kernel_rfl) (by kernel_rfl) (by kernel_rfl) (fun _ _ _ h => h) (Or.inl ⟨by rfl, ?_⟩) (by assumption) ?_
  rotate_left
  · (intro w hSw; (try dsimp only at hSw); go_simp; (try with_reducible rfl))
  try simp only [Act.put, List.setIfInBounds_toArray, List.set_cons_zero, List.set_cons_succ]
  refine wpAnyH_ready (rs := [13]) (by kernel_rfl) (by simp) ?_
  refine cons_at rfl (fun K hK => ?_) AllReadyH.nil
  go_simp
  refine hK.out _ _ ?_ (fun hHeld => ?_)
  · exact ((World.cell?_setCell_far _ _ _ _ (by simp only; omega)).trans x9)
  clear hK K
  try simp only [Act.put, List.setIfInBounds_toArray, List.set_cons_zero, List.set_cons_succ]
  refine wpAnyH_done (by kernel_rfl) ?_ _
  have hqD : Below w5.heap.size w5 (w9.setCell ⟨g6, p, none⟩ (.int .i64 (1 + (o : Int).tmod L))) := by (repeat' (first | (with_reducible first | exact Below.refl _ _ | assumption | refine Below.alloc ?_ ?_ _ | refine Below.setCell ?_ ?_ _ | refine below_row ?_ ?_ _ | refine Below.drew ?_ | refine below_drewN ?_ _ | refine Below.trans ?_ (Below.mono (by assumption) ?_)) | exact Nat.le_refl _ | omega | (simp; done) | (simp; omega) | exact Below.size (by assumption)))
  have hmD : IntsAt (w9.setCell ⟨g6, p, none⟩ (.int .i64 (1 + (o : Int).tmod L))) (.slice (some ⟨g6, 0, none⟩) ls.length c6) ms := by
    have h1 := (HO9.out.stored p (.int .i64 (1 + (o : Int).tmod L))).1
    rw [show (cellsN ls).set p (.int .i64 (1 + (o : Int).tmod L)) = cellsN ms from by rw [← HMS.out]; simp [cellsN, List.map_set]] at h1
    rw [← HML.out] at h1 ⊢
    exact ints_of_own h1
  generalize w9.setCell ⟨g6, p, none⟩ (.int .i64 (1 + (o : Int).tmod L)) = w10 at *
  have hq10 : Below w5.heap.size w5 w10 := hqD
  have LB_10 := Lib.hid (LB_5.out.after hq10)
  clear LB_5
  have RA_10 := Lib.hid (RA_5.out.after hq10)
  clear RA_5
  have HS_10 := Lib.hid (HS_5.out.after hq10)
  clear HS_5
  have HM_10 := Lib.hid hmD
  have hb10 : Below w.heap.size w w10 := hb5.trans (hq10.mono hb5.size)
  clear hmD hv6 hb6 hv7 hw7 hv9 hw9 LB6 x6 z6 LB7 x7 z7 LB9 x9 z9 HO6 HO9 c9 fr9 HIX hqD hcL hzw hg6a hq10
  have LBc := LB_10.out.cell 0
  have LBz := LB_10.out.lt
  go_wp2_with fail
  refine (above_s RA_10.out HS_10.out (by omega) HAE.out).mono ?_
  rintro e11 w11 ⟨A11, c11, rfl, hr, hb⟩
  have hq11 : Below w10.heap.size w10 w11 := by (repeat' (first | (with_reducible first | exact Below.refl _ _ | assumption | refine Below.alloc ?_ ?_ _ | refine Below.setCell ?_ ?_ _ | refine below_row ?_ ?_ _ | refine Below.drew ?_ | refine below_drewN ?_ _ | refine Below.trans ?_ (Below.mono (by assumption) ?_)) | exact Nat.le_refl _ | omega | (simp; done) | (simp; omega) | exact Below.size (by assumption)))
  clear LBc LBz
  have LB_11 := Lib.hid (LB_10.out.after hq11)
  clear LB_10
  have RA_11 := Lib.hid (RA_10.out.after hq11)
  clear RA_10
  have HS_11 := Lib.hid (HS_10.out.after hq11)
  clear HS_10
  have HM_11 := Lib.hid (HM_10.out.after hq11)
  clear HM_10
  have UP_11 := Lib.hid hr
  have hb11 : Below w.heap.size w w11 := hb10.trans (hq11.mono hb10.size)
  clear hr hb hq11
  have LBc := LB_11.out.cell 0
  have LBz := LB_11.out.lt
  go_wp2_with fail
  refine (above_s RA_11.out HM_11.out (by omega) HA1.out).mono ?_
  rintro e12 w12 ⟨A12, c12, rfl, hr, hb⟩
  have hq12 : Below w11.heap.size w11 w12 := by (repeat' (first | (with_reducible first | exact Below.refl _ _ | assumption | refine Below.alloc ?_ ?_ _ | refine Below.setCell ?_ ?_ _ | refine below_row ?_ ?_ _ | refine Below.drew ?_ | refine below_drewN ?_ _ | refine Below.trans ?_ (Below.mono (by assumption) ?_)) | exact Nat.le_refl _ | omega | (simp; done) | (simp; omega) | exact Below.size (by assumption)))
  clear LBc LBz
  have LB_12 := Lib.hid (LB_11.out.after hq12)
  clear LB_11
  have RA_12 := Lib.hid (RA_11.out.after hq12)
  clear RA_11
  have HS_12 := Lib.hid (HS_11.out.after hq12)
  clear HS_11
  have HM_12 := Lib.hid (HM_11.out.after hq12)
  clear HM_11
  have UP_12 := Lib.hid (UP_11.out.after hq12)
  clear UP_11
  have TO_12 := Lib.hid hr
  have hb12 : Below w.heap.size w w12 := hb11.trans (hq12.mono hb11.size)
  clear hr hb hq12
  go_wp2_with fail
  refine (rSameInts_t UP_12.out TO_12.out (by omega)).mono ?_
  rintro e13 w13 ⟨rfl, hb⟩
  have hq13 : Below w12.heap.size w12 w13 := by (repeat' (first | (with_reducible first | exact Below.refl _ _ | assumption | refine Below.alloc ?_ ?_ _ | refine Below.setCell ?_ ?_ _ | refine below_row ?_ ?_ _ | refine Below.drew ?_ | refine below_drewN ?_ _ | refine Below.trans ?_ (Below.mono (by assumption) ?_)) | exact Nat.le_refl _ | omega | (simp; done) | (simp; omega) | exact Below.size (by assumption)))
  have LB_13 := Lib.hid (LB_12.out.after hq13)
  clear LB_12
  have RA_13 := Lib.hid (RA_12.out.after hq13)
  clear RA_12
  have HS_13 := Lib.hid (HS_12.out.after hq13)
  clear HS_12
  have HM_13 := Lib.hid (HM_12.out.after hq13)
  clear HM_12
  have UP_13 := Lib.hid (UP_12.out.after hq13)
  clear UP_12
  have TO_13 := Lib.hid (TO_12.out.after hq13)
  clear TO_12
  have hb13 : Below w.heap.size w w13 := hb12.trans (hq13.mono hb12.size)
  clear hb hq13
  clear TO_13
  have hcs := has_any d UP_13.out (by omega)
  rw [HNI.out] at hcs
  go_wp2_with fail
  refine (hcs).mono ?_
  rintro e14 w14 ⟨rfl, hb⟩
  have hq14 : Below w13.heap.size w13 w14 := by (repeat' (first | (with_reducible first | exact Below.refl _ _ | assumption | refine Below.alloc ?_ ?_ _ | refine Below.setCell ?_ ?_ _ | refine below_row ?_ ?_ _ | refine Below.drew ?_ | refine below_drewN ?_ _ | refine Below.trans ?_ (Below.mono (by assumption) ?_)) | exact Nat.le_refl _ | omega | (simp; done) | (simp; omega) | exact Below.size (by assumption)))
  have LB_14 := Lib.hid (LB_13.out.after hq14)
  clear LB_13
  have RA_14 := Lib.hid (RA_13.out.after hq14)
  clear RA_13
  have HS_14 := Lib.hid (HS_13.out.after hq14)
  clear HS_13
  have HM_14 := Lib.hid (HM_13.out.after hq14)
  clear HM_13
  have UP_14 := Lib.hid (UP_13.out.after hq14)
  clear UP_13
  have hb14 : Below w.heap.size w w14 := hb13.trans (hq14.mono hb13.size)
  clear hb hcs hq14
  have LBc := LB_14.out.cell 0
  have LBz := LB_14.out.lt
  go_wp2_with fail
  refine (expl_s RA_14.out HS_14.out (by omega) HAX.out HEL.out).mono ?_
  rintro e15 w15 ⟨A15, c15, rfl, hr, hb⟩
  have hq15 : Below w14.heap.size w14 w15 := by (repeat' (first | (with_reducible first | exact Below.refl _ _ | assumption | refine Below.alloc ?_ ?_ _ | refine Below.setCell ?_ ?_ _ | refine below_row ?_ ?_ _ | refine Below.drew ?_ | refine below_drewN ?_ _ | refine Below.trans ?_ (Below.mono (by assumption) ?_)) | exact Nat.le_refl _ | omega | (simp; done) | (simp; omega) | exact Below.size (by assumption)))
  clear LBc LBz
  have LB_15 := Lib.hid (LB_14.out.after hq15)
  clear LB_14
  have RA_15 := Lib.hid (RA_14.out.after hq15)
  clear RA_14
  have HS_15 := Lib.hid (HS_14.out.after hq15)
  clear HS_14
  have HM_15 := Lib.hid (HM_14.out.after hq15)
  clear HM_14
  have UP_15 := Lib.hid (UP_14.out.after hq15)
  clear UP_14
  have EL_15 := Lib.hid hr
  have hb15 : Below w.heap.size w w15 := hb14.trans (hq15.mono hb14.size)
  clear hr hb hq15
  have LBc := LB_15.out.cell 0
  have LBz := LB_15.out.lt
  go_wp2_with fail
  refine (expl_s RA_15.out HM_15.out (by omega) HAM.out HEM.out).mono ?_
  rintro e16 w16 ⟨A16, c16, rfl, hr, hb⟩
  have hq16 : Below w15.heap.size w15 w16 := by (repeat' (first | (with_reducible first | exact Below.refl _ _ | assumption | refine Below.alloc ?_ ?_ _ | refine Below.setCell ?_ ?_ _ | refine below_row ?_ ?_ _ | refine Below.drew ?_ | refine below_drewN ?_ _ | refine Below.trans ?_ (Below.mono (by assumption) ?_)) | exact Nat.le_refl _ | omega | (simp; done) | (simp; omega) | exact Below.size (by assumption)))
  clear LBc LBz
  have LB_16 := Lib.hid (LB_15.out.after hq16)
  clear LB_15
  have RA_16 := Lib.hid (RA_15.out.after hq16)
  clear RA_15
  have HS_16 := Lib.hid (HS_15.out.after hq16)
  clear HS_15
  have HM_16 := Lib.hid (HM_15.out.after hq16)
  clear HM_15
  have UP_16 := Lib.hid (UP_15.out.after hq16)
  clear UP_15
  have EL_16 := Lib.hid (EL_15.out.after hq16)
  clear EL_15
  have EM_16 := Lib.hid hr
  have hb16 : Below w.heap.size w w16 := hb15.trans (hq16.mono hb15.size)
  clear hr hb hq16
  have LBc := LB_16.out.cell 0
  have LBz := LB_16.out.lt
  go_wp2_with fail
  refine (tree_s RA_16.out HS_16.out (by omega) HTL.out).mono ?_
  rintro e17 w17 ⟨A17, c17, rfl, hr, hb⟩
  have hq17 : Below w16.heap.size w16 w17 := by (repeat' (first | (with_reducible first | exact Below.refl _ _ | assumption | refine Below.alloc ?_ ?_ _ | refine Below.setCell ?_ ?_ _ | refine below_row ?_ ?_ _ | refine Below.drew ?_ | refine below_drewN ?_ _ | refine Below.trans ?_ (Below.mono (by assumption) ?_)) | exact Nat.le_refl _ | omega | (simp; done) | (simp; omega) | exact Below.size (by assumption)))
  clear LBc LBz
  have LB_17 := Lib.hid (LB_16.out.after hq17)
  clear LB_16
  have RA_17 := Lib.hid (RA_16.out.after hq17)
  clear RA_16
  have HS_17 := Lib.hid (HS_16.out.after hq17)
  clear HS_16
  have HM_17 := Lib.hid (HM_16.out.after hq17)
  clear HM_16
  have UP_17 := Lib.hid (UP_16.out.after hq17)
  clear UP_16
  have EL_17 := Lib.hid (EL_16.out.after hq17)
  clear EL_16
  have EM_17 := Lib.hid (EM_16.out.after hq17)
  clear EM_16
  have TL_17 := Lib.hid hr
  have hb17 : Below w.heap.size w w17 := hb16.trans (hq17.mono hb16.size)
  clear hr hb hq17
  have LBc := LB_17.out.cell 0
  have LBz := LB_17.out.lt
  go_wp2_with fail
  refine (tree_s RA_17.out HM_17.out (by omega) HTM.out).mono ?_
  rintro e18 w18 ⟨A18, c18, rfl, hr, hb⟩
  have hq18 : Below w17.heap.size w17 w18 := by (repeat' (first | (with_reducible first | exact Below.refl _ _ | assumption | refine Below.alloc ?_ ?_ _ | refine Below.setCell ?_ ?_ _ | refine below_row ?_ ?_ _ | refine Below.drew ?_ | refine below_drewN ?_ _ | refine Below.trans ?_ (Below.mono (by assumption) ?_)) | exact Nat.le_refl _ | omega | (simp; done) | (simp; omega) | exact Below.size (by assumption)))
  clear LBc LBz
  have LB_18 := Lib.hid (LB_17.out.after hq18)
  clear LB_17
  have RA_18 := Lib.hid (RA_17.out.after hq18)
  clear RA_17
  have HS_18 := Lib.hid (HS_17.out.after hq18)
  clear HS_17
  have HM_18 := Lib.hid (HM_17.out.after hq18)
  clear HM_17
  have UP_18 := Lib.hid (UP_17.out.after hq18)
  clear UP_17
  have EL_18 := Lib.hid (EL_17.out.after hq18)
  clear EL_17
  have EM_18 := Lib.hid (EM_17.out.after hq18)
  clear EM_17
  have TL_18 := Lib.hid (TL_17.out.after hq18)
  clear TL_17
  have TM_18 := Lib.hid hr
  have hb18 : Below w.heap.size w w18 := hb17.trans (hq18.mono hb17.size)
  clear hr hb hq18
  clear HS_18
  clear HM_18
  clear RA_18
  clear LB_18
  by_cases hxd : x = d
  · have hxe : (x == d) = true := by simp [hxd]
    clear HPAR
    go_wp2_with fail
    go_ret
    exact ⟨rfl, hb18⟩
  · have hxe : (x == d) = false := by simp [hxd]
    have hcs := has_any x UP_18.out (by omega)
    by_cases hxu : x ∈ up
    · rw [decide_eq_true hxu] at hcs
      clear HPAR
      go_wp2_with fail
      refine hcs.mono ?_
      rintro e19 w19 ⟨rfl, hb⟩
      have hb19 : Below w.heap.size w w19 := by (repeat' (first | (with_reducible first | exact Below.refl _ _ | assumption | refine Below.alloc ?_ ?_ _ | refine Below.setCell ?_ ?_ _ | refine below_row ?_ ?_ _ | refine Below.drew ?_ | refine below_drewN ?_ _ | refine Below.trans ?_ (Below.mono (by assumption) ?_)) | exact Nat.le_refl _ | omega | (simp; done) | (simp; omega) | exact Below.size (by assumption)))
      go_wp2_with fail
      go_ret
      exact ⟨rfl, hb19⟩
    · rw [decide_eq_false hxu] at hcs
      obtain ⟨rfl, hte⟩ := HPAR.out hxd hxu
      injection hte with hte1 hte2
      subst hte1 hte2
      have hqq : (fc == fc) = true := by simp
      clear HPAR hxu hxd
      go_wp2_with fail
      refine (hcs).mono ?_
      rintro e19 w19 ⟨rfl, hb⟩
      have hq19 : Below w18.heap.size w18 w19 := by (repeat' (first | (with_reducible first | exact Below.refl _ _ | assumption | refine Below.alloc ?_ ?_ _ | refine Below.setCell ?_ ?_ _ | refine below_row ?_ ?_ _ | refine Below.drew ?_ | refine below_drewN ?_ _ | refine Below.trans ?_ (Below.mono (by assumption) ?_)) | exact Nat.le_refl _ | omega | (simp; done) | (simp; omega) | exact Below.size (by assumption)))
      have UP_19 := Lib.hid (UP_18.out.after hq19)
      clear UP_18
      have EL_19 := Lib.hid (EL_18.out.after hq19)
      clear EL_18
      have EM_19 := Lib.hid (EM_18.out.after hq19)
      clear EM_18
      have TL_19 := Lib.hid (TL_18.out.after hq19)
      clear TL_18
      have TM_19 := Lib.hid (TM_18.out.after hq19)
      clear TM_18
      have hb19 : Below w.heap.size w w19 := hb18.trans (hq19.mono hb18.size)
      clear hb hcs hq19
      go_wp2_with fail
      refine (rSameItems_t EL_19.out EM_19.out (by omega)).mono ?_
      rintro e20 w20 ⟨rfl, hb⟩
      have hq20 : Below w19.heap.size w19 w20 := by (repeat' (first | (with_reducible first | exact Below.refl _ _ | assumption | refine Below.alloc ?_ ?_ _ | refine Below.setCell ?_ ?_ _ | refine below_row ?_ ?_ _ | refine Below.drew ?_ | refine below_drewN ?_ _ | refine Below.trans ?_ (Below.mono (by assumption) ?_)) | exact Nat.le_refl _ | omega | (simp; done) | (simp; omega) | exact Below.size (by assumption)))
      have UP_20 := Lib.hid (UP_19.out.after hq20)
      clear UP_19
      have EL_20 := Lib.hid (EL_19.out.after hq20)
      clear EL_19
      have EM_20 := Lib.hid (EM_19.out.after hq20)
      clear EM_19
      have TL_20 := Lib.hid (TL_19.out.after hq20)
      clear TL_19
      have TM_20 := Lib.hid (TM_19.out.after hq20)
      clear TM_19
      have hb20 : Below w.heap.size w w20 := hb19.trans (hq20.mono hb19.size)
      clear hb hq20
      clear EL_20
      clear EM_20
      go_wp2_with fail
      refine (rSameBranches_t TL_20.out TM_20.out (by omega)).mono ?_
      rintro e21 w21 ⟨rfl, hb⟩
      have hq21 : Below w20.heap.size w20 w21 := by (repeat' (first | (with_reducible first | exact Below.refl _ _ | assumption | refine Below.alloc ?_ ?_ _ | refine Below.setCell ?_ ?_ _ | refine below_row ?_ ?_ _ | refine Below.drew ?_ | refine below_drewN ?_ _ | refine Below.trans ?_ (Below.mono (by assumption) ?_)) | exact Nat.le_refl _ | omega | (simp; done) | (simp; omega) | exact Below.size (by assumption)))
      have UP_21 := Lib.hid (UP_20.out.after hq21)
      clear UP_20
      have TL_21 := Lib.hid (TL_20.out.after hq21)
      clear TL_20
      have TM_21 := Lib.hid (TM_20.out.after hq21)
      clear TM_20
      have hb21 : Below w.heap.size w w21 := hb20.trans (hq21.mono hb20.size)
      clear hb hq21
      go_wp2_with fail
      go_ret
      exact ⟨rfl, hb21⟩
end Go.Proofs.Ythfpjeeedhahbaa
