/- SheetAbove: the law's body. -/
import Derived.Test.YtmhlbdighceogaaGreatRD
import Derived.Test.YtmhlbdighceogaaGreatRE
import Derived.Test.YtmhlbdighceogaaGreatHX
import Derived.Test.YtmhlbdighceogaaGreatHL
import Derived.Test.YtmhlbdighceogaaGreatHY
import Derived.Test.YtmhlbdighceogaaGreatHA
import Derived.Test.YtmhlbdighceogaaGreatHI
import Derived.Test.YtmhlbdighceogaaGreatUE
namespace Go.Proofs.YtmhlbdighceogaaGreat
set_option linter.unusedVariables false
set_option linter.unusedSimpArgs false
open Go.RowKit

theorem lies_five {W : World} {g : Nat} {ty : TypeId} {z0 z1 z2 z3 z4 : Value} (h : Lies W g ty #[z0, z1, z2, z3, z4]) (u0 u1 u2 u3 u4 : Value) : Lies (((((W.setCell ⟨g, 0, none⟩ u0).setCell ⟨g, 1, none⟩ u1).setCell ⟨g, 2, none⟩ u2).setCell ⟨g, 3, none⟩ u3).setCell ⟨g, 4, none⟩ u4) g ty #[u0, u1, u2, u3, u4] :=
  ((((h.store 0 u0).store 1 u1).store 2 u2).store 3 u3).store 4 u4
theorem cell_five {W : World} {g : Nat} (u0 u1 u2 u3 u4 : Value) {a : Addr} (ha : g ≠ a.block) : (((((W.setCell ⟨g, 0, none⟩ u0).setCell ⟨g, 1, none⟩ u1).setCell ⟨g, 2, none⟩ u2).setCell ⟨g, 3, none⟩ u3).setCell ⟨g, 4, none⟩ u4).cell? a = W.cell? a := by
  rw [World.cell?_setCell_far _ _ _ _ ha, World.cell?_setCell_far _ _ _ _ ha, World.cell?_setCell_far _ _ _ _ ha, World.cell?_setCell_far _ _ _ _ ha, World.cell?_setCell_far _ _ _ _ ha]
theorem below_5s {w0 W : World} {B g : Nat} (hb : Below B w0 W) (hg : B ≤ g) (u0 u1 u2 u3 u4 : Value) : Below B w0 (((((W.setCell ⟨g, 0, none⟩ u0).setCell ⟨g, 1, none⟩ u1).setCell ⟨g, 2, none⟩ u2).setCell ⟨g, 3, none⟩ u3).setCell ⟨g, 4, none⟩ u4) :=
  ((((hb.setCell hg u0).setCell hg u1).setCell hg u2).setCell hg u3).setCell hg u4
theorem items_five {W : World} {g g3 : Nat} {A3 : Option Addr} {c3 : Nat} {l : List (Int × Int)} (h : ItemsAt W (.slice A3 l.length c3) l) (hA : 0 < l.length → A3 = some ⟨g3, 0, none⟩) (hne : 0 < l.length → g ≠ g3) (u0 u1 u2 u3 u4 : Value) : ItemsAt (((((W.setCell ⟨g, 0, none⟩ u0).setCell ⟨g, 1, none⟩ u1).setCell ⟨g, 2, none⟩ u2).setCell ⟨g, 3, none⟩ u3).setCell ⟨g, 4, none⟩ u4) (.slice A3 l.length c3) l := by
  obtain ⟨A', c', b, o, e, hA', hc⟩ := h
  injection e with e1 e2 e3
  subst e1 e3
  refine ⟨_, _, b, o, rfl, hA', fun i hi => ?_⟩
  have h1 := hA' (by omega)
  rw [hA (by omega)] at h1
  injection h1 with h1
  injection h1 with h1 h2
  have h3 := hne (by omega)
  rw [cell_five _ _ _ _ _ (by simp only; omega), cell_five _ _ _ _ _ (by simp only; omega)]
  exact hc i hi
theorem lies_apart2 {W : World} {g g' : Nat} {ty ty' : TypeId} {cs cs' : Array Value} (h : Lies W g ty cs) (h' : Lies W g' ty' cs') (hne : ty ≠ ty') : g ≠ g' := by
  rintro rfl
  unfold Lies at h h'
  rw [h] at h'
  injection h' with h1
  injection h1 with h2 h3
  exact hne h3
/-- An issue that is there, with the block of its items. -/
theorem at_y {vI : Value} {xs : List Iss} {d l : Int} {w : World} (h : RegAt w vI xs) (h0 : layE xs = 0) (hd : d ∈ numbersL xs) (h1 : 1 ≤ l) (h2 : l ≤ lastOfR d 0 xs) : Calls Tryz.prog 12 #[.agg #[vI], .agg #[.int .i64 d, .int .i64 l]] w fun e w' => ∃ x A3 c3 A4 c4 g3, e = .returned (.tuple #[.agg #[.int .i64 d, .int .i64 l, .int .u8 x.k, .slice A3 x.items.length c3, .slice A4 x.dims.length c4], .int .i64 0]) ∧ ItemsAt w' (.slice A3 x.items.length c3) x.items ∧ (0 < x.items.length → A3 = some ⟨g3, 0, none⟩ ∧ ∃ cur, Lies w' g3 50 cur) ∧ (x ∈ xs ∧ x.d = d ∧ x.l = l) ∧ Below w.heap.size w w' := by
  refine (sAt_any d l h).mono ?_
  intro e w' h3
  obtain ⟨y, x, ee, rfl, hy, haq, hb⟩ := at_yat h3 0 (Nat.zero_le _)
  obtain ⟨h4, rfl, rfl, rfl⟩ := at_has h0 hd h1 h2 haq
  obtain ⟨A3, c3, g3, A4, c4, g4, rfl, h5, h6, h7, -⟩ := hy
  exact ⟨x, A3, c3, A4, c4, g3, rfl, h5, fun h => ⟨(h7 h).2.1, (h7 h).2.2.imp fun _ h => h.1⟩, ⟨h4, rfl, rfl⟩, hb⟩
theorem idx_s {w : World} {v : Value} {zs : List Int} {d : Int} {p : Nat} (h : IntsAt w v zs) (hl : zs.length ≤ 1000) (hp : idxL zs d = p) : Calls Tryz.prog 13 #[v, .int .i64 d] w fun e w' => e = .returned (.int .i64 (p : Int)) ∧ w = w' := by
  obtain ⟨A, c, b, off, rfl, hA, hc⟩ := h
  have h2 := rIndex_any A c b off zs d w hA hl hc
  rw [hp] at h2
  exact h2
theorem refOf_p (d l k : Int) (vi vd : Value) (w : World) : Calls Tryz.prog 11 #[.agg #[.int .i64 d, .int .i64 l, .int .u8 k, vi, vd]] w fun e w' => e = .returned (.agg #[.int .i64 d, .int .i64 l]) ∧ Below w.heap.size w w' := by
  go_enter Tryz.func11, Tryz.ntmps11
  go_wp2
  exact bodyPost_ret (v := .agg #[.int .i64 d, .int .i64 l]) (by simp [results, Tryz.results11, go_sem]) rfl ⟨rfl, by (repeat' (first | (with_reducible first | exact Below.refl _ _ | assumption | refine Below.alloc ?_ ?_ _ | refine Below.setCell ?_ ?_ _ | refine below_row ?_ ?_ _ | refine Below.drew ?_ | refine below_drewN ?_ _ | refine Below.trans ?_ (Below.mono (by assumption) ?_)) | exact Nat.le_refl _ | omega | (simp; done) | (simp; omega) | exact Below.size (by assumption)))⟩
theorem uses_s {vI : Value} {xs : List Iss} {d : Int} {u : List (Int × Int)} {q : Int} {w : World} (h : RegAt w vI xs) (he : usesE xs d = (u, q)) :
    Calls Tryz.prog 9 #[.agg #[vI], .int .i64 d] w fun e w' => ∃ A c, e = .returned (.tuple #[.slice A u.length c, .int .i64 q]) ∧ RefsAt w' (.slice A u.length c) u ∧ Below w.heap.size w w' := by
  have h2 := sUses_any d h
  rw [he] at h2
  refine h2.mono ?_
  rintro e w' ⟨v, rfl, hi, hb⟩
  obtain ⟨A, c, rfl⟩ := hi.slice
  exact ⟨A, c, rfl, hi, hb⟩
theorem usesJ_pre (xs : List Iss) (d : Int) {j n : Nat} (h : j ≤ n) : usesJ xs d j <+: usesJ xs d n :=
  ((List.take_prefix_take_left h).filter _).map _
theorem usesJ_at {xs : List Iss} {d : Int} {j : Nat} (hj : j < xs.length) (hb : hasB d xs[j] = true) : ∃ h : (usesJ xs d j).length < (usesJ xs d xs.length).length, (usesJ xs d xs.length)[(usesJ xs d j).length] = (xs[j].d, xs[j].l) := by
  obtain ⟨r, hr⟩ := usesJ_pre xs d (show j + 1 ≤ xs.length from hj)
  rw [usesJ_step hj, if_pos hb] at hr
  have h1 : (usesJ xs d xs.length)[(usesJ xs d j).length]? = some (xs[j].d, xs[j].l) := by
    rw [← hr]; simp
  obtain ⟨h2, h3⟩ := List.getElem?_eq_some_iff.1 h1
  exact ⟨h2, h3⟩
/-- Whether one of the first branches, but for the first one, is of a drawing. -/
def inF (tl : List (Int × Int × Int × Int)) (d : Int) (j : Nat) : Bool := (List.range j).any fun i => decide (0 < i) && decide ((tl.getD i (0, 0, 0, 0)).2.1 = d)
theorem inF_step (tl : List (Int × Int × Int × Int)) (d : Int) (j : Nat) : inF tl d (j + 1) = (inF tl d j || (decide (0 < j) && decide ((tl.getD j (0, 0, 0, 0)).2.1 = d))) := by
  unfold inF
  rw [List.range_succ, List.any_append]
  simp
theorem inF_iff {tl : List (Int × Int × Int × Int)} {d : Int} : inF tl d tl.length = true ↔ ∃ i : Nat, 0 < i ∧ ∃ h : i < tl.length, (tl[i]).2.1 = d := by
  unfold inF
  rw [List.any_eq_true]
  constructor
  · rintro ⟨i, hi, h⟩
    have hi2 := List.mem_range.1 hi
    simp [List.getD_eq_getElem?_getD, hi2] at h
    exact ⟨i, h.1, hi2, h.2⟩
  · rintro ⟨i, h0, hi, h⟩
    exact ⟨i, List.mem_range.2 hi, by simp [List.getD_eq_getElem?_getD, hi, h0, h]⟩
def nedF (d : Int) (up : List Int) (it : Int × Int) : Bool := decide (it.1 = d) || decide (it.1 ∈ up)
theorem ned_step {d : Int} {up : List Int} {il : List (Int × Int)} {j : Nat} (hj : j < il.length) : (il.take (j + 1)).any (nedF d up) = ((il.take j).any (nedF d up) || nedF d up il[j]) := by
  rw [List.take_succ_eq_append_getElem hj, List.any_append]
  simp
set_option maxRecDepth 100000 in
set_option maxHeartbeats 16000000 in
theorem above_ready {A : Option Addr} {c b off : Nat} {xs : List Iss} {vi vd : Nat → Value} {vB : Value} {by_ : List Int} (n m : Nat) (w : World) (hn : n ≤ 255) (hmm : m ≤ 255) (hm : xs.length ≤ 9223372036854775807) (hm2 : ∀ x ∈ xs, x.items.length ≤ 9223372036854775807 ∧ x.dims.length ≤ 9223372036854775807) (hA : 0 < xs.length → A = some ⟨b, off, none⟩) (hc : IssRow w b off xs vi vd) (hB : ByAt w vB by_) (hbl : by_.length ≤ 9223372036854775807) (hr1 : readyB xs = true) :
    Calls Tryz.prog 3 #[.agg #[.slice A xs.length c], vB, .int .u8 (n : Int), .int .u8 (m : Int)] w fun e w' => e = .returned (.bool true) ∧ Below w.heap.size w w' := by
  obtain ⟨hg1, h01⟩ := ready_parts hr1
  obtain ⟨hlen, hsml⟩ := great_no hg1
  have hr : RegAt w (.slice A xs.length c) xs := ⟨⟨A, c, b, off, rfl, hA, fun i hi => ⟨vi i, vd i, hc i hi⟩⟩, by omega, fun x hx => ⟨by have := (hsml x hx).1; omega, by have := (hsml x hx).2; omega⟩⟩
  have HQ1 := Lib.hid (fun W (hW : Below w.heap.size w W) => ready_any A c b off xs vi vd W hm hm2 hA (hc.after hW))
  rw [hr1] at HQ1
  have hsm := (layE_ok h01).2.2.1
  have hns := numbers_same (layE_ok h01).2.1
  have HLT := Lib.hid (fun W (h1 : RegAt W (.slice A xs.length c) xs) (h2 : ByAt W vB by_) => letters_any h1 h2 h01 hbl)
  have HDN := Lib.hid (fun W (h1 : RegAt W (.slice A xs.length c) xs) => drawing_any n hn h1 h01)
  have HDM := Lib.hid (fun W (h1 : RegAt W (.slice A xs.length c) xs) => drawing_any m hmm h1 h01)
  have HNU := Lib.hid (fun W (h1 : RegAt W (.slice A xs.length c) xs) => rNumbers_v h1)
  rw [hns] at HNU
  have hls := letters_ok h01 hB.2
  have hlp := letters_len xs by_
  have hd := draw_mem h01 n
  have hx := draw_mem h01 m
  obtain ⟨p, hp, ⟨hp', hpz⟩, hpi⟩ := idx_spec hx
  obtain ⟨hpl, hl1, hl2⟩ := letter_in h01 hls hx hpi
  have hgp : (lettersF xs by_)[p] = (lettersF xs by_).getD p 0 := by rw [List.getD_eq_getElem?_getD, List.getElem?_eq_getElem hpl]; rfl
  have HAY := Lib.hid (fun W (h1 : RegAt W (.slice A xs.length c) xs) => at_y h1 h01 hx hl1 hl2)
  have htk := fun (y : Iss) (hy : y ∈ xs ∧ y.d = drawF xs m ∧ y.l = (lettersF xs by_).getD p 0) => taken_is h01 hls hx hpi hy.1 hy.2.1 hy.2.2
  obtain ⟨ht1, ht2, ht3, ht4⟩ := above_told h01 hls hd hx
  have hq0 : (aboveE xs (lettersF xs by_) (drawF xs n)).2 = 0 := by unfold aboveE; rw [if_neg (by rw [ask_ok h01 hls hd]; simp)]
  have hus : usesE xs (drawF xs n) = (usesJ xs (drawF xs n) xs.length, 0) := by unfold usesE; rw [if_neg (by simp [h01]), if_pos hd]
  have hul := above_sub (xs := xs) (lettersF xs by_) (drawF xs n)
  have hjl := usesJ_le xs (drawF xs n)
  have htl := tl_len xs (lettersF xs by_) (drawF xs m)
  have hri := fun (y : Iss) (hy : y ∈ xs) => right_items (layE_ok h01).2.1 (layE_ok h01).2.2.2.1 hy
  have hnb := fun z (hz : z ∈ numbersL xs) => numbers_in (layE_ok h01).2.1 z hz
  generalize drawF xs n = d at *
  generalize drawF xs m = x at *
  generalize lettersF xs by_ = ls at *
  generalize qOf xs (numbersL xs) ls = q at *
  generalize ls.getD p 0 = lt at *
  obtain ⟨up, q0, hae⟩ : ∃ up q, aboveE xs ls d = (up, q) := ⟨_, _, rfl⟩
  rw [hae] at ht1 ht2 ht3 ht4 hul hq0
  simp only at ht1 ht2 ht3 ht4 hul hq0
  subst hq0
  obtain ⟨tl, tq, hte⟩ : ∃ l q, treeE xs ls x = (l, q) := ⟨_, _, rfl⟩
  rw [hte] at ht2 htl
  simp only at ht2 htl
  obtain ⟨us, hue⟩ : ∃ l, usesJ xs d xs.length = l := ⟨_, rfl⟩
  have hus0 := hjl xs.length
  rw [hue] at hus hus0
  have HUE := Lib.hid hue
  have HT1 := Lib.hid ht1
  have HT2 := Lib.hid ht2
  have HT3 := Lib.hid ht3
  have HT4 := Lib.hid ht4
  have HTK := Lib.hid htk
  have HUS := Lib.hid hus
  have HAE := Lib.hid hae
  have HTE := Lib.hid hte
  have HJL := Lib.hid hjl
  have HRI := Lib.hid hri
  have HNB := Lib.hid hnb
  have HPI := Lib.hid hpi
  have HGP := Lib.hid hgp
  have HSM := Lib.hid hsml
  have hll : ls.length ≤ 20 := by omega
  have hupl : up.length ≤ 20 := by omega
  have hpl2 : (p : Int) < (ls.length : Int) := by omega
  have HA0 := Lib.hid hA
  have HC0 := Lib.hid hc
  have hnl : (numbersL xs).length ≤ 20 := hsm
  have LB_0 := Lib.hid (Lies.made w 24 #[.slice A xs.length c])
  have RA_0 := Lib.hid (hr.after ((Below.refl _ w).alloc (Nat.le_refl _) (.cells #[.slice A xs.length c] 24)))
  obtain ⟨AB, cB, rfl⟩ := hB.slice
  have RB_0 := Lib.hid (hB.after ((Below.refl _ w).alloc (Nat.le_refl _) (.cells #[.slice A xs.length c] 24)))
  have hb0 : Below w.heap.size w (w.alloc (.cells #[.slice A xs.length c] 24)) := by (repeat' (first | (with_reducible first | exact Below.refl _ _ | assumption | refine Below.alloc ?_ ?_ _ | refine Below.setCell ?_ ?_ _ | refine below_row ?_ ?_ _ | refine Below.drew ?_ | refine below_drewN ?_ _ | refine Below.trans ?_ (Below.mono (by assumption) ?_)) | exact Nat.le_refl _ | omega | (simp; done) | (simp; omega) | exact Below.size (by assumption)))
  clear hA hc hm2 hm hsml hr hg1 h01 hr1 hB hbl hlp hls hns hp' hpz hpi hgp htk hd hx ht1 ht2 ht3 ht4 hus hae hte hjl hri hnb hul hsm hue
  go_enter Tryz.func3, Tryz.ntmps3
  go_wp2_with fail
  refine (alive_any _).mono ?_
  rintro e1 w1 ⟨rfl, hb⟩
  have hq1 : Below (w.alloc (.cells #[.slice A xs.length c] 24)).heap.size (w.alloc (.cells #[.slice A xs.length c] 24)) w1 := by (repeat' (first | (with_reducible first | exact Below.refl _ _ | assumption | refine Below.alloc ?_ ?_ _ | refine Below.setCell ?_ ?_ _ | refine below_row ?_ ?_ _ | refine Below.drew ?_ | refine below_drewN ?_ _ | refine Below.trans ?_ (Below.mono (by assumption) ?_)) | exact Nat.le_refl _ | omega | (simp; done) | (simp; omega) | exact Below.size (by assumption)))
  have LB_1 := Lib.hid (LB_0.out.after hq1)
  clear LB_0
  have RA_1 := Lib.hid (RA_0.out.after hq1)
  clear RA_0
  have RB_1 := Lib.hid (RB_0.out.after hq1)
  clear RB_0
  have hb1 : Below w.heap.size w w1 := hb0.trans (hq1.mono hb0.size)
  clear hb hq1
  have LBc := LB_1.out.cell 0
  have LBz := LB_1.out.lt
  go_wp2_with fail
  refine (HQ1.out _ (by (repeat' (first | (with_reducible first | exact Below.refl _ _ | assumption | refine Below.alloc ?_ ?_ _ | refine Below.setCell ?_ ?_ _ | refine below_row ?_ ?_ _ | refine Below.drew ?_ | refine below_drewN ?_ _ | refine Below.trans ?_ (Below.mono (by assumption) ?_)) | exact Nat.le_refl _ | omega | (simp; done) | (simp; omega) | exact Below.size (by assumption))))).mono ?_
  rintro e2 w2 ⟨rfl, hb⟩
  have hq2 : Below w1.heap.size w1 w2 := by (repeat' (first | (with_reducible first | exact Below.refl _ _ | assumption | refine Below.alloc ?_ ?_ _ | refine Below.setCell ?_ ?_ _ | refine below_row ?_ ?_ _ | refine Below.drew ?_ | refine below_drewN ?_ _ | refine Below.trans ?_ (Below.mono (by assumption) ?_)) | exact Nat.le_refl _ | omega | (simp; done) | (simp; omega) | exact Below.size (by assumption)))
  clear LBc LBz
  have LB_2 := Lib.hid (LB_1.out.after hq2)
  clear LB_1
  have RA_2 := Lib.hid (RA_1.out.after hq2)
  clear RA_1
  have RB_2 := Lib.hid (RB_1.out.after hq2)
  clear RB_1
  have hb2 : Below w.heap.size w w2 := hb1.trans (hq2.mono hb1.size)
  clear hb hq2
  have LBc := LB_2.out.cell 0
  have LBz := LB_2.out.lt
  go_upto_region 4 with fail
  refine wp_region_held_drew (S := fun W => W.cell? ⟨w.heap.size, 0, none⟩ = some (.slice A xs.length c)) (by kernel_rfl) LBc (fun hHeld => ?_)
  refine take_at (i := 0) (v := ?_) rfl (by kernel_rfl) (by kernel_rfl) (by kernel_rfl) (fun _ _ _ h => h) (Or.inl ⟨by rfl, ?_⟩) (by assumption) ?_
  rotate_left
  · (intro w hSw; (try dsimp only at hSw); go_simp; (try with_reducible rfl))
  try simp only [Act.put, List.setIfInBounds_toArray, List.set_cons_zero, List.set_cons_succ]
  refine take_at (i := 1) (v := ?_) rfl (by kernel_rfl) (by kernel_rfl) (by kernel_rfl) (fun _ _ _ h => h) (Or.inl ⟨by rfl, ?_⟩) (by assumption) ?_
  rotate_left
  · (intro w hSw; (try dsimp only at hSw); go_simp; (try with_reducible rfl))
  try simp only [Act.put, List.setIfInBounds_toArray, List.set_cons_zero, List.set_cons_succ]
  refine take_at (i := 3) (v := ?_) rfl (by kernel_rfl) (by kernel_rfl) (by kernel_rfl) (fun _ _ _ h => h) (Or.inl ⟨by rfl, ?_⟩) (by assumption) ?_
  rotate_left
  · (intro w hSw; (try dsimp only at hSw); go_simp; (try with_reducible rfl))
  try simp only [Act.put, List.setIfInBounds_toArray, List.set_cons_zero, List.set_cons_succ]
  refine take_at (i := 4) (v := ?_) rfl (by kernel_rfl) (by kernel_rfl) (by kernel_rfl) (fun _ _ _ h => h) (Or.inl ⟨by rfl, ?_⟩) (by assumption) ?_
  rotate_left
  · (intro w hSw; (try dsimp only at hSw); go_simp; (try with_reducible rfl))
  try simp only [Act.put, List.setIfInBounds_toArray, List.set_cons_zero, List.set_cons_succ]
  refine take_at (i := 6) (v := ?_) rfl (by kernel_rfl) (by kernel_rfl) (by kernel_rfl) (fun _ _ _ h => h) (Or.inl ⟨by rfl, ?_⟩) (by assumption) ?_
  rotate_left
  · (intro w hSw; (try dsimp only at hSw); go_simp; (try with_reducible rfl))
  try simp only [Act.put, List.setIfInBounds_toArray, List.set_cons_zero, List.set_cons_succ]
  refine take_at (i := 7) (v := ?_) rfl (by kernel_rfl) (by kernel_rfl) (by kernel_rfl) (fun _ _ _ h => h) (Or.inl ⟨by rfl, ?_⟩) (by assumption) ?_
  rotate_left
  · (intro w hSw; (try dsimp only at hSw); go_simp; (try with_reducible rfl))
  try simp only [Act.put, List.setIfInBounds_toArray, List.set_cons_zero, List.set_cons_succ]
  refine wpAnyH_ready (rs := [2]) (by kernel_rfl) (by simp) ?_
  refine cons_at rfl (fun K hK => ?_) AllReadyH.nil
  (first | (go_at_call 6; refine (HLT.out _ (RA_2.out.after (by (repeat' (first | (with_reducible first | exact Below.refl _ _ | assumption | refine Below.alloc ?_ ?_ _ | refine Below.setCell ?_ ?_ _ | refine below_row ?_ ?_ _ | refine Below.drew ?_ | refine below_drewN ?_ _ | refine Below.trans ?_ (Below.mono (by assumption) ?_)) | exact Nat.le_refl _ | omega | (simp; done) | (simp; omega) | exact Below.size (by assumption))))) (RB_2.out.after (by (repeat' (first | (with_reducible first | exact Below.refl _ _ | assumption | refine Below.alloc ?_ ?_ _ | refine Below.setCell ?_ ?_ _ | refine below_row ?_ ?_ _ | refine Below.drew ?_ | refine below_drewN ?_ _ | refine Below.trans ?_ (Below.mono (by assumption) ?_)) | exact Nat.le_refl _ | omega | (simp; done) | (simp; omega) | exact Below.size (by assumption)))))).mono ?_; rintro e3 w3 ⟨AL, cL, rfl, hil, ga3⟩; have hv3 : Below w2.heap.size w2 w3 := (by (repeat' (first | (with_reducible first | exact Below.refl _ _ | assumption | refine Below.alloc ?_ ?_ _ | refine Below.setCell ?_ ?_ _ | refine below_row ?_ ?_ _ | refine Below.drew ?_ | refine below_drewN ?_ _ | refine Below.trans ?_ (Below.mono (by assumption) ?_)) | exact Nat.le_refl _ | omega | (simp; done) | (simp; omega) | exact Below.size (by assumption)))); have LB3 := Lib.hid (LB_2.out.after hv3); have x3 := LB3.out.cell 0; have z3 := LB3.out.lt; have HS3 := Lib.hid hil; clear hil) | (go_simp; go_at_call 6; refine (HLT.out _ (RA_2.out.after (by (repeat' (first | (with_reducible first | exact Below.refl _ _ | assumption | refine Below.alloc ?_ ?_ _ | refine Below.setCell ?_ ?_ _ | refine below_row ?_ ?_ _ | refine Below.drew ?_ | refine below_drewN ?_ _ | refine Below.trans ?_ (Below.mono (by assumption) ?_)) | exact Nat.le_refl _ | omega | (simp; done) | (simp; omega) | exact Below.size (by assumption))))) (RB_2.out.after (by (repeat' (first | (with_reducible first | exact Below.refl _ _ | assumption | refine Below.alloc ?_ ?_ _ | refine Below.setCell ?_ ?_ _ | refine below_row ?_ ?_ _ | refine Below.drew ?_ | refine below_drewN ?_ _ | refine Below.trans ?_ (Below.mono (by assumption) ?_)) | exact Nat.le_refl _ | omega | (simp; done) | (simp; omega) | exact Below.size (by assumption)))))).mono ?_; rintro e3 w3 ⟨AL, cL, rfl, hil, ga3⟩; have hv3 : Below w2.heap.size w2 w3 := (by (repeat' (first | (with_reducible first | exact Below.refl _ _ | assumption | refine Below.alloc ?_ ?_ _ | refine Below.setCell ?_ ?_ _ | refine below_row ?_ ?_ _ | refine Below.drew ?_ | refine below_drewN ?_ _ | refine Below.trans ?_ (Below.mono (by assumption) ?_)) | exact Nat.le_refl _ | omega | (simp; done) | (simp; omega) | exact Below.size (by assumption)))); have LB3 := Lib.hid (LB_2.out.after hv3); have x3 := LB3.out.cell 0; have z3 := LB3.out.lt; have HS3 := Lib.hid hil; clear hil))
  refine hK.out _ _ ?_ (fun hHeld => ?_)
  · exact x3
  clear hK K
  try simp only [Act.put, List.setIfInBounds_toArray, List.set_cons_zero, List.set_cons_succ]
  refine wpAnyH_ready (rs := [5]) (by kernel_rfl) (by simp) ?_
  refine cons_at rfl (fun K hK => ?_) AllReadyH.nil
  (first | (go_at_call 7; refine (HDN.out _ (RA_2.out.after hv3)).mono ?_; rintro e4 w4 ⟨rfl, ga4⟩; have hv4 : Below w2.heap.size w2 w4 := (by (repeat' (first | (with_reducible first | exact Below.refl _ _ | assumption | refine Below.alloc ?_ ?_ _ | refine Below.setCell ?_ ?_ _ | refine below_row ?_ ?_ _ | refine Below.drew ?_ | refine below_drewN ?_ _ | refine Below.trans ?_ (Below.mono (by assumption) ?_)) | exact Nat.le_refl _ | omega | (simp; done) | (simp; omega) | exact Below.size (by assumption)))); have LB4 := Lib.hid (LB_2.out.after hv4); have x4 := LB4.out.cell 0; have z4 := LB4.out.lt) | (go_simp; go_at_call 7; refine (HDN.out _ (RA_2.out.after hv3)).mono ?_; rintro e4 w4 ⟨rfl, ga4⟩; have hv4 : Below w2.heap.size w2 w4 := (by (repeat' (first | (with_reducible first | exact Below.refl _ _ | assumption | refine Below.alloc ?_ ?_ _ | refine Below.setCell ?_ ?_ _ | refine below_row ?_ ?_ _ | refine Below.drew ?_ | refine below_drewN ?_ _ | refine Below.trans ?_ (Below.mono (by assumption) ?_)) | exact Nat.le_refl _ | omega | (simp; done) | (simp; omega) | exact Below.size (by assumption)))); have LB4 := Lib.hid (LB_2.out.after hv4); have x4 := LB4.out.cell 0; have z4 := LB4.out.lt))
  refine hK.out _ _ ?_ (fun hHeld => ?_)
  · exact x4
  clear hK K
  try simp only [Act.put, List.setIfInBounds_toArray, List.set_cons_zero, List.set_cons_succ]
  refine wpAnyH_ready (rs := [8]) (by kernel_rfl) (by simp) ?_
  refine cons_at rfl (fun K hK => ?_) AllReadyH.nil
  (first | (go_at_call 7; refine (HDM.out _ (RA_2.out.after hv4)).mono ?_; rintro e5 w5 ⟨rfl, ga5⟩; have hv5 : Below w2.heap.size w2 w5 := (by (repeat' (first | (with_reducible first | exact Below.refl _ _ | assumption | refine Below.alloc ?_ ?_ _ | refine Below.setCell ?_ ?_ _ | refine below_row ?_ ?_ _ | refine Below.drew ?_ | refine below_drewN ?_ _ | refine Below.trans ?_ (Below.mono (by assumption) ?_)) | exact Nat.le_refl _ | omega | (simp; done) | (simp; omega) | exact Below.size (by assumption)))); have LB5 := Lib.hid (LB_2.out.after hv5); have x5 := LB5.out.cell 0; have z5 := LB5.out.lt) | (go_simp; go_at_call 7; refine (HDM.out _ (RA_2.out.after hv4)).mono ?_; rintro e5 w5 ⟨rfl, ga5⟩; have hv5 : Below w2.heap.size w2 w5 := (by (repeat' (first | (with_reducible first | exact Below.refl _ _ | assumption | refine Below.alloc ?_ ?_ _ | refine Below.setCell ?_ ?_ _ | refine below_row ?_ ?_ _ | refine Below.drew ?_ | refine below_drewN ?_ _ | refine Below.trans ?_ (Below.mono (by assumption) ?_)) | exact Nat.le_refl _ | omega | (simp; done) | (simp; omega) | exact Below.size (by assumption)))); have LB5 := Lib.hid (LB_2.out.after hv5); have x5 := LB5.out.cell 0; have z5 := LB5.out.lt))
  refine hK.out _ _ ?_ (fun hHeld => ?_)
  · exact x5
  clear hK K
  try simp only [Act.put, List.setIfInBounds_toArray, List.set_cons_zero, List.set_cons_succ]
  refine take_at (i := 9) (v := ?_) rfl (by kernel_rfl) (by kernel_rfl) (by kernel_rfl) (fun _ _ _ h => h) (Or.inl ⟨by rfl, ?_⟩) (by assumption) ?_
  rotate_left
  · (intro w hSw; (try dsimp only at hSw); go_simp; (try with_reducible rfl))
  try simp only [Act.put, List.setIfInBounds_toArray, List.set_cons_zero, List.set_cons_succ]
  refine take_at (i := 10) (v := ?_) rfl (by kernel_rfl) (by kernel_rfl) (by kernel_rfl) (fun _ _ _ h => h) (Or.inl ⟨by rfl, ?_⟩) (by assumption) ?_
  rotate_left
  · (intro w hSw; (try dsimp only at hSw); go_simp; (try with_reducible rfl))
  try simp only [Act.put, List.setIfInBounds_toArray, List.set_cons_zero, List.set_cons_succ]
  refine take_at (i := 11) (v := ?_) rfl (by kernel_rfl) (by kernel_rfl) (by kernel_rfl) (fun _ _ _ h => h) (Or.inl ⟨by rfl, ?_⟩) (by assumption) ?_
  rotate_left
  · (intro w hSw; (try dsimp only at hSw); go_simp; (try with_reducible rfl))
  try simp only [Act.put, List.setIfInBounds_toArray, List.set_cons_zero, List.set_cons_succ]
  refine wpAnyH_done (by kernel_rfl) ?_ _
  have hq5 : Below w2.heap.size w2 w5 := hv5
  clear LBc LBz
  have LB_5 := Lib.hid (LB_2.out.after hq5)
  clear LB_2
  have RA_5 := Lib.hid (RA_2.out.after hq5)
  clear RA_2
  have RB_5 := Lib.hid (RB_2.out.after hq5)
  clear RB_2
  have HS_5 := Lib.hid (HS3.out.after (ga4.trans (ga5.mono ga4.size)))
  have hb5 : Below w.heap.size w w5 := hb2.trans (hq5.mono hb2.size)
  clear hv3 hv4 ga3 ga4 ga5 LB3 x3 z3 LB4 x4 z4 LB5 x5 z5 HS3 hq5
  clear RB_5
  have LBc := LB_5.out.cell 0
  have LBz := LB_5.out.lt
  go_wp2_with fail
  refine (above_s RA_5.out HS_5.out (by omega) HAE.out).mono ?_
  rintro e6 w6 ⟨A6, c6, rfl, hr, hb⟩
  have hq6 : Below w5.heap.size w5 w6 := by (repeat' (first | (with_reducible first | exact Below.refl _ _ | assumption | refine Below.alloc ?_ ?_ _ | refine Below.setCell ?_ ?_ _ | refine below_row ?_ ?_ _ | refine Below.drew ?_ | refine below_drewN ?_ _ | refine Below.trans ?_ (Below.mono (by assumption) ?_)) | exact Nat.le_refl _ | omega | (simp; done) | (simp; omega) | exact Below.size (by assumption)))
  clear LBc LBz
  have LB_6 := Lib.hid (LB_5.out.after hq6)
  clear LB_5
  have RA_6 := Lib.hid (RA_5.out.after hq6)
  clear RA_5
  have HS_6 := Lib.hid (HS_5.out.after hq6)
  clear HS_5
  have UP_6 := Lib.hid hr
  have hb6 : Below w.heap.size w w6 := hb5.trans (hq6.mono hb5.size)
  clear hr hb hq6
  have LBc := LB_6.out.cell 0
  have LBz := LB_6.out.lt
  go_wp2_with fail
  refine (uses_s RA_6.out HUS.out).mono ?_
  rintro e7 w7 ⟨A7, c7, rfl, hr, hb⟩
  have hq7 : Below w6.heap.size w6 w7 := by (repeat' (first | (with_reducible first | exact Below.refl _ _ | assumption | refine Below.alloc ?_ ?_ _ | refine Below.setCell ?_ ?_ _ | refine below_row ?_ ?_ _ | refine Below.drew ?_ | refine below_drewN ?_ _ | refine Below.trans ?_ (Below.mono (by assumption) ?_)) | exact Nat.le_refl _ | omega | (simp; done) | (simp; omega) | exact Below.size (by assumption)))
  clear LBc LBz
  have LB_7 := Lib.hid (LB_6.out.after hq7)
  clear LB_6
  have RA_7 := Lib.hid (RA_6.out.after hq7)
  clear RA_6
  have HS_7 := Lib.hid (HS_6.out.after hq7)
  clear HS_6
  have UP_7 := Lib.hid (UP_6.out.after hq7)
  clear UP_6
  have US_7 := Lib.hid hr
  have hb7 : Below w.heap.size w w7 := hb6.trans (hq7.mono hb6.size)
  clear hr hb hq7
  have x7 := LB_7.out.cell 0
  have z7 := LB_7.out.lt
  go_wp2_with fail
  go_loopw [17, 72] (fun u i ws => ∃ jj : Nat, i = .int .i64 jj ∧ jj ≤ xs.length ∧ u = .int .i64 ((usesJ xs d jj).length : Int) ∧ Below w7.heap.size w7 ws) (fun _ i _ => xs.length - (intOf i).toNat)
  case atStart => exact ⟨0, rfl, by omega, by simp [usesJ], by (repeat' (first | (with_reducible first | exact Below.refl _ _ | assumption | refine Below.alloc ?_ ?_ _ | refine Below.setCell ?_ ?_ _ | refine below_row ?_ ?_ _ | refine Below.drew ?_ | refine below_drewN ?_ _ | refine Below.trans ?_ (Below.mono (by assumption) ?_)) | exact Nat.le_refl _ | omega | (simp; done) | (simp; omega) | exact Below.size (by assumption)))⟩
  case round =>
    obtain ⟨jj, rfl, hjj, rfl, hb⟩ := hrel
    have hbw : Below w.heap.size w wr := hb7.trans (hb.mono hb7.size)
    by_cases hjt : jj < xs.length
    · have kl0 : (jj : Int) < (xs.length : Int) := by omega
      obtain rfl := HA0.out (by omega)
      obtain ⟨c0, c1, c2, c3, c4, hkk, hIT, ⟨A4, c44, b4, o4, hvd, -⟩, -, -⟩ := HC0.out jj hjt
      have hI2 := hIT.after hbw
      obtain ⟨A3, c33, b3, o3, hvi, -⟩ := hIT
      rw [hvd] at c4
      rw [hvi] at c3 hI2
      have c0 := cell_keep hbw c0
      have c1 := cell_keep hbw c1
      have c2 := cell_keep hbw c2
      have c3 := cell_keep hbw c3
      have c4 := cell_keep hbw c4
      have HI2 := Lib.hid hI2
      have hxm := List.getElem_mem hjt
      have hri := HRI.out _ hxm
      have hch : decide (0 < countI xs[jj].items d) = hasB d xs[jj] := countI_has (fun it hit => (hri.2.2 it hit).2.1)
      have HST := Lib.hid (usesJ_step (d := d) hjt)
      have HUT : Hid (hasB d xs[jj] = true → ∃ h : (usesJ xs d jj).length < us.length, us[(usesJ xs d jj).length] = (xs[jj].d, xs[jj].l)) := Lib.hid (fun h => by have h2 := usesJ_at (d := d) hjt h; rw [HUE.out] at h2; exact h2)
      have HCH := Lib.hid hch
      have hil : xs[jj].items.length ≤ 8 := hri.1
      have han1 := HJL.out jj
      clear hch hri hxm hkk hvi hvd hI2
      generalize xs[jj] = y at *
      generalize hanE : (usesJ xs d jj).length = an at *
      have HAN := Lib.hid hanE
      clear hanE
      go_wp2_with fail
      refine (rCountOf_any y (.slice A3 y.items.length c33) (.slice A4 y.dims.length c44) d _ (by omega) (HI2.out.after (by (repeat' (first | (with_reducible first | exact Below.refl _ _ | assumption | refine Below.alloc ?_ ?_ _ | refine Below.setCell ?_ ?_ _ | refine below_row ?_ ?_ _ | refine Below.drew ?_ | refine below_drewN ?_ _ | refine Below.trans ?_ (Below.mono (by assumption) ?_)) | exact Nat.le_refl _ | omega | (simp; done) | (simp; omega) | exact Below.size (by assumption))))) ⟨_, _, _, rfl⟩).mono ?_
      rintro e8 w8 ⟨rfl, gb8⟩
      have hbs := hb.size
      have hb8 : Below w7.heap.size w7 w8 := (hb.alloc hbs _).trans (gb8.mono (hb.alloc hbs _).size)
      have HLY := Lib.hid ((Lies.made wr 40 #[.int .i64 y.d, .int .i64 y.l, .int .u8 y.k, .slice A3 y.items.length c33, .slice A4 y.dims.length c44]).after gb8)
      clear gb8
      by_cases hcp : 0 < countI y.items d
      · have hhb : hasB d y = true := by rw [← HCH.out, decide_eq_true hcp]
        obtain ⟨hd1, hde⟩ := HUT.out hhb
        have HS2 : Hid ((usesJ xs d (jj + 1)).length = an + 1) := Lib.hid (by rw [HST.out, if_pos hhb, List.length_append, HAN.out]; rfl)
        obtain ⟨A', c', bU, oU, eU, hAU, hcU⟩ := US_7.out
        injection eU with e1 e2 e3
        subst e1 e3
        obtain rfl := hAU (by omega)
        obtain ⟨l0, l1⟩ := hcU _ hd1
        simp only [hde] at l0 l1
        have l0 := cell_keep hb8 l0
        have l1 := cell_keep hb8 l1
        have s0 := HLY.out.cell 0
        have s1 := HLY.out.cell 1
        have s2 := HLY.out.cell 2
        have s3 := HLY.out.cell 3
        have s4 := HLY.out.cell 4
        have kd1 : IntKind.i64.wrap ((an : Int) + 1) = (an : Int) + 1 := IntWalk.i64_in _ (by omega)
        have kd2 : (an : Int) < (us.length : Int) := by omega
        have kd3 : ¬ us.length ≤ an := by omega
        have kd4 : ¬ (us.length : Int) ≤ (an : Int) := by omega
        have kd5 : decide ((us.length : Int) ≤ (an : Int)) = false := by simp; omega
        generalize countI y.items d = cn at *
        clear hhb hde hAU hcU
        go_upto_region 14 with fail
        refine wp_region_held_drew (S := fun W => W.cell? ⟨bU, oU + an * 2, none⟩ = some (.int .i64 y.d) ∧ W.cell? ⟨bU, oU + an * 2 + 1, none⟩ = some (.int .i64 y.l) ∧ W.cell? ⟨wr.heap.size, 0, none⟩ = some (.int .i64 y.d) ∧ W.cell? ⟨wr.heap.size, 1, none⟩ = some (.int .i64 y.l) ∧ W.cell? ⟨wr.heap.size, 2, none⟩ = some (.int .u8 y.k) ∧ W.cell? ⟨wr.heap.size, 3, none⟩ = some (.slice A3 y.items.length c33) ∧ W.cell? ⟨wr.heap.size, 4, none⟩ = some (.slice A4 y.dims.length c44)) (by kernel_rfl) ⟨l0, l1, s0, s1, s2, s3, s4⟩ (fun hHeld => ?_)
        refine take_at (i := 0) (v := ?_) rfl (by kernel_rfl) (by kernel_rfl) (by kernel_rfl) (fun _ _ _ h => h) (Or.inl ⟨by rfl, ?_⟩) (by assumption) ?_
        rotate_left
        · (intro w hSw; (try dsimp only at hSw); go_simp; (try with_reducible rfl))
        try simp only [Act.put, List.setIfInBounds_toArray, List.set_cons_zero, List.set_cons_succ]
        refine take_at (i := 1) (v := ?_) rfl (by kernel_rfl) (by kernel_rfl) (by kernel_rfl) (fun _ _ _ h => h) (Or.inl ⟨by rfl, ?_⟩) (by assumption) ?_
        rotate_left
        · (intro w hSw; (try dsimp only at hSw); go_simp; (try with_reducible rfl))
        try simp only [Act.put, List.setIfInBounds_toArray, List.set_cons_zero, List.set_cons_succ]
        refine take_at (i := 2) (v := ?_) rfl (by kernel_rfl) (by kernel_rfl) (by kernel_rfl) (fun _ _ _ h => h) (Or.inl ⟨by rfl, ?_⟩) (by assumption) ?_
        rotate_left
        · (intro w hSw; (try dsimp only at hSw); go_simp; (try with_reducible rfl))
        try simp only [Act.put, List.setIfInBounds_toArray, List.set_cons_zero, List.set_cons_succ]
        refine take_at (i := 3) (v := ?_) rfl (by kernel_rfl) (by kernel_rfl) (by kernel_rfl) (fun _ _ _ h => h) (Or.inl ⟨by rfl, ?_⟩) (by assumption) ?_
        rotate_left
        · (intro w hSw; (try dsimp only at hSw); go_simp; (try with_reducible rfl))
        try simp only [Act.put, List.setIfInBounds_toArray, List.set_cons_zero, List.set_cons_succ]
        refine take_at (i := 4) (v := ?_) rfl (by kernel_rfl) (by kernel_rfl) (by kernel_rfl) (fun _ _ _ h => h) (Or.inl ⟨by rfl, ?_⟩) (by assumption) ?_
        rotate_left
        · (intro w hSw; (try dsimp only at hSw); go_simp; (try with_reducible rfl))
        try simp only [Act.put, List.setIfInBounds_toArray, List.set_cons_zero, List.set_cons_succ]
        refine take_at (i := 5) (v := ?_) rfl (by kernel_rfl) (by kernel_rfl) (by kernel_rfl) (fun _ _ _ h => h) (Or.inl ⟨by rfl, ?_⟩) (by assumption) ?_
        rotate_left
        · (intro w hSw; (try dsimp only at hSw); go_simp; (try with_reducible rfl))
        try simp only [Act.put, List.setIfInBounds_toArray, List.set_cons_zero, List.set_cons_succ]
        refine take_at (i := 6) (v := ?_) rfl (by kernel_rfl) (by kernel_rfl) (by kernel_rfl) (fun _ _ _ h => h) (Or.inl ⟨by rfl, ?_⟩) (by assumption) ?_
        rotate_left
        · (intro w hSw; (try dsimp only at hSw); go_simp; (try with_reducible rfl))
        try simp only [Act.put, List.setIfInBounds_toArray, List.set_cons_zero, List.set_cons_succ]
        refine take_at (i := 7) (v := ?_) rfl (by kernel_rfl) (by kernel_rfl) (by kernel_rfl) (fun _ _ _ h => h) (Or.inl ⟨by rfl, ?_⟩) (by assumption) ?_
        rotate_left
        · (intro w hSw; (try dsimp only at hSw); go_simp; (try with_reducible rfl))
        try simp only [Act.put, List.setIfInBounds_toArray, List.set_cons_zero, List.set_cons_succ]
        refine take_at (i := 8) (v := ?_) rfl (by kernel_rfl) (by kernel_rfl) (by kernel_rfl) (fun _ _ _ h => h) (Or.inl ⟨by rfl, ?_⟩) (by assumption) ?_
        rotate_left
        · (intro w hSw; (try dsimp only at hSw); go_simp; (try with_reducible rfl))
        try simp only [Act.put, List.setIfInBounds_toArray, List.set_cons_zero, List.set_cons_succ]
        refine take_at (i := 9) (v := ?_) rfl (by kernel_rfl) (by kernel_rfl) (by kernel_rfl) (fun _ _ _ h => h) (Or.inl ⟨by rfl, ?_⟩) (by assumption) ?_
        rotate_left
        · (intro w hSw; (try dsimp only at hSw); go_simp; (try with_reducible rfl))
        try simp only [Act.put, List.setIfInBounds_toArray, List.set_cons_zero, List.set_cons_succ]
        refine wpAnyH_ready (rs := [10]) (by kernel_rfl) (by simp) ?_
        refine cons_at rfl (fun K hK => ?_) AllReadyH.nil
        (first | (go_at_call 11; refine (refOf_p _ _ _ _ _ _).mono ?_; rintro e9 w9 ⟨rfl, gb9⟩; skip) | (go_simp; go_at_call 11; refine (refOf_p _ _ _ _ _ _).mono ?_; rintro e9 w9 ⟨rfl, gb9⟩; skip))
        refine hK.out _ _ ?_ (fun hHeld => ?_)
        · exact ⟨cell_keep gb9 l0, cell_keep gb9 l1, cell_keep gb9 s0, cell_keep gb9 s1, cell_keep gb9 s2, cell_keep gb9 s3, cell_keep gb9 s4⟩
        clear hK K
        try simp only [Act.put, List.setIfInBounds_toArray, List.set_cons_zero, List.set_cons_succ]
        refine take_at (i := 11) (v := ?_) rfl (by kernel_rfl) (by kernel_rfl) (by kernel_rfl) (fun _ _ _ h => h) (Or.inl ⟨by rfl, ?_⟩) (by assumption) ?_
        rotate_left
        · (intro w hSw; (try dsimp only at hSw); go_simp; (try with_reducible rfl))
        try simp only [Act.put, List.setIfInBounds_toArray, List.set_cons_zero, List.set_cons_succ]
        refine take_at (i := 12) (v := ?_) rfl (by kernel_rfl) (by kernel_rfl) (by kernel_rfl) (fun _ _ _ h => h) (Or.inl ⟨by rfl, ?_⟩) (by assumption) ?_
        rotate_left
        · (intro w hSw; (try dsimp only at hSw); go_simp; (try with_reducible rfl))
        try simp only [Act.put, List.setIfInBounds_toArray, List.set_cons_zero, List.set_cons_succ]
        refine wpAnyH_done (by kernel_rfl) ?_ _
        have hb9 : Below w7.heap.size w7 w9 := hb8.drew.trans (gb9.mono hb8.drew.size)
        go_wp2_with fail
        go_roundw
        case rel => exact ⟨jj + 1, by go_num, by omega, by rw [HS2.out]; go_num, hb9⟩
        case measure => simp [intOf]; omega
      · have hhb : hasB d y = false := by rw [← HCH.out, decide_eq_false hcp]
        have HS2 : Hid ((usesJ xs d (jj + 1)).length = an) := Lib.hid (by rw [HST.out, if_neg (by rw [hhb]; simp), List.append_nil, HAN.out])
        generalize countI y.items d = cn at *
        clear hhb
        go_wp2_with fail
        go_roundw
        case rel => exact ⟨jj + 1, by go_num, by omega, by rw [HS2.out], hb8⟩
        case measure => simp [intOf]; omega
    · have kl0 : ¬ (jj : Int) < (xs.length : Int) := by omega
      obtain rfl : jj = xs.length := by omega
      rw [HUE.out]
      obtain ⟨wE, rfl⟩ : ∃ z, z = wr := ⟨_, rfl⟩
      have LB_E := Lib.hid (LB_7.out.after hb)
      have RA_E := Lib.hid (RA_7.out.after hb)
      have HS_E := Lib.hid (HS_7.out.after hb)
      have UP_E := Lib.hid (UP_7.out.after hb)
      have hbE := hbw
      clear hbw hb HC0 HA0 HJL HRI LB_7 RA_7 HS_7 UP_7 US_7
      have hq := HS_E.out
      obtain ⟨A', c', bL, oL, eL, hAL, hcL⟩ := hq
      injection eL with e1 e2 e3
      subst e1 e3
      obtain rfl := hAL (by omega)
      have rE := hcL p (by omega)
      rw [HGP.out] at rE
      clear hAL hcL
      have xE := LB_E.out.cell 0
      have zE := LB_E.out.lt
      go_upto_region 18 with fail
      go_cut [20, 21] (fun s20 s21 wx => ∃ (g : Nat) (y : Iss) (A3 : Option Addr) (c3 : Nat) (A4 : Option Addr) (c4 : Nat), s20 = .pointer (some ⟨g, 0, none⟩) ∧ s21 = .int .i64 0 ∧ Hid (Lies wx g 40 #[.int .i64 x, .int .i64 lt, .int .u8 y.k, .slice A3 y.items.length c3, .slice A4 y.dims.length c4]) ∧ Hid (ItemsAt wx (.slice A3 y.items.length c3) y.items) ∧ (y ∈ xs ∧ y.d = x ∧ y.l = lt) ∧ Below wE.heap.size wE wx)
      case first =>
        have hvE : Below wE.heap.size wE wE := Below.refl _ _
        refine wp_region_held_drew (S := fun W => W.cell? ⟨w.heap.size, 0, none⟩ = some (.slice A xs.length c) ∧ W.cell? ⟨bL, oL + p, none⟩ = some (.int .i64 lt)) (by kernel_rfl) ⟨xE, rE⟩ (fun hHeld => ?_)
        have hvEd : Below wE.heap.size wE wE.drew := hvE.drew
        have xEd : wE.drew.cell? ⟨w.heap.size, 0, none⟩ = some (.slice A xs.length c) := xE
        have rEd : wE.drew.cell? ⟨bL, oL + p, none⟩ = some (.int .i64 lt) := rE
        generalize hwd : wE.drew = wEd at *
        refine take_at (i := 0) (v := ?_) rfl (by kernel_rfl) (by kernel_rfl) (by kernel_rfl) (fun _ _ _ h => h) (Or.inl ⟨by rfl, ?_⟩) (by assumption) ?_
        rotate_left
        · (intro w hSw; (try dsimp only at hSw); go_simp; (try with_reducible rfl))
        try simp only [Act.put, List.setIfInBounds_toArray, List.set_cons_zero, List.set_cons_succ]
        refine take_at (i := 1) (v := ?_) rfl (by kernel_rfl) (by kernel_rfl) (by kernel_rfl) (fun _ _ _ h => h) (Or.inl ⟨by rfl, ?_⟩) (by assumption) ?_
        rotate_left
        · (intro w hSw; (try dsimp only at hSw); go_simp; (try with_reducible rfl))
        try simp only [Act.put, List.setIfInBounds_toArray, List.set_cons_zero, List.set_cons_succ]
        refine take_at (i := 2) (v := ?_) rfl (by kernel_rfl) (by kernel_rfl) (by kernel_rfl) (fun _ _ _ h => h) (Or.inl ⟨by rfl, ?_⟩) (by assumption) ?_
        rotate_left
        · (intro w hSw; (try dsimp only at hSw); go_simp; (try with_reducible rfl))
        try simp only [Act.put, List.setIfInBounds_toArray, List.set_cons_zero, List.set_cons_succ]
        refine take_at (i := 3) (v := ?_) rfl (by kernel_rfl) (by kernel_rfl) (by kernel_rfl) (fun _ _ _ h => h) (Or.inl ⟨by rfl, ?_⟩) (by assumption) ?_
        rotate_left
        · (intro w hSw; (try dsimp only at hSw); go_simp; (try with_reducible rfl))
        try simp only [Act.put, List.setIfInBounds_toArray, List.set_cons_zero, List.set_cons_succ]
        refine take_at (i := 5) (v := ?_) rfl (by kernel_rfl) (by kernel_rfl) (by kernel_rfl) (fun _ _ _ h => h) (Or.inl ⟨by rfl, ?_⟩) (by assumption) ?_
        rotate_left
        · (intro w hSw; (try dsimp only at hSw); go_simp; (try with_reducible rfl))
        try simp only [Act.put, List.setIfInBounds_toArray, List.set_cons_zero, List.set_cons_succ]
        refine wpAnyH_ready (rs := [4, 14]) (by kernel_rfl) (by simp) ?_
        refine cons_at rfl (fun K hK => ?_) (cons_at rfl (fun K hK => ?_) AllReadyH.nil)
        · have hvd := hvEd
          (first | (go_at_call 14; refine (HNU.out _ (RA_E.out.after hvd)).mono ?_; rintro e21 w21 ⟨vN, rfl, hoN, gb⟩) | (go_simp; go_at_call 14; refine (HNU.out _ (RA_E.out.after hvd)).mono ?_; rintro e21 w21 ⟨vN, rfl, hoN, gb⟩))
          have hv21 : Below wE.heap.size wE w21 := hvd.trans (gb.mono hvd.size)
          have x21 := cell_keep gb xEd
          have r21 := cell_keep gb rEd
          have HIX := Lib.hid (fun W (hW : Below w21.heap.size w21 W) => idx_s (ints_of_own (own_after hoN hW)) (by omega) HPI.out)
          refine hK.out _ _ ?_ (fun hHeld => ?_)
          · exact ⟨x21, r21⟩
          clear hK K gb hvd
          try simp only [Act.put, List.setIfInBounds_toArray, List.set_cons_zero, List.set_cons_succ]
          refine wpAnyH_ready (rs := [6, 14]) (by kernel_rfl) (by simp) ?_
          refine cons_at rfl (fun K hK => ?_) (cons_at rfl (fun K hK => ?_) AllReadyH.nil)
          · (first | (go_at_call 13; refine (HIX.out _ (by (repeat' (first | (with_reducible first | exact Below.refl _ _ | assumption | refine Below.alloc ?_ ?_ _ | refine Below.setCell ?_ ?_ _ | refine below_row ?_ ?_ _ | refine Below.drew ?_ | refine below_drewN ?_ _ | refine Below.trans ?_ (Below.mono (by assumption) ?_)) | exact Nat.le_refl _ | omega | (simp; done) | (simp; omega) | exact Below.size (by assumption))))).mono ?_; rintro e22 w22 ⟨rfl, rfl⟩) | (go_simp; go_at_call 13; refine (HIX.out _ (by (repeat' (first | (with_reducible first | exact Below.refl _ _ | assumption | refine Below.alloc ?_ ?_ _ | refine Below.setCell ?_ ?_ _ | refine below_row ?_ ?_ _ | refine Below.drew ?_ | refine below_drewN ?_ _ | refine Below.trans ?_ (Below.mono (by assumption) ?_)) | exact Nat.le_refl _ | omega | (simp; done) | (simp; omega) | exact Below.size (by assumption))))).mono ?_; rintro e22 w22 ⟨rfl, rfl⟩))
            refine hK.out _ _ ?_ (fun hHeld => ?_)
            · exact ⟨x21, r21⟩
            clear hK K
            try simp only [Act.put, List.setIfInBounds_toArray, List.set_cons_zero, List.set_cons_succ]
            refine take_at (i := 7) (v := ?_) rfl (by kernel_rfl) (by kernel_rfl) (by kernel_rfl) (fun _ _ _ h => h) (Or.inl ⟨by rfl, ?_⟩) (by assumption) ?_
            rotate_left
            · (intro w hSw; (try dsimp only at hSw); go_simp; (try with_reducible rfl))
            try simp only [Act.put, List.setIfInBounds_toArray, List.set_cons_zero, List.set_cons_succ]
            refine take_at (i := 8) (v := ?_) rfl (by kernel_rfl) (by kernel_rfl) (by kernel_rfl) (fun _ _ _ h => h) (Or.inl ⟨by rfl, ?_⟩) (by assumption) ?_
            rotate_left
            · (intro w hSw; (try dsimp only at hSw); go_simp; (try with_reducible rfl))
            try simp only [Act.put, List.setIfInBounds_toArray, List.set_cons_zero, List.set_cons_succ]
            refine take_at (i := 9) (v := ?_) rfl (by kernel_rfl) (by kernel_rfl) (by kernel_rfl) (fun _ _ _ h => h) (Or.inl ⟨by rfl, ?_⟩) (by assumption) ?_
            rotate_left
            · (intro w hSw; (try dsimp only at hSw); go_simp; (try with_reducible rfl))
            try simp only [Act.put, List.setIfInBounds_toArray, List.set_cons_zero, List.set_cons_succ]
            refine wpAnyH_ready (rs := [10, 14]) (by kernel_rfl) (by simp) ?_
            refine cons_at rfl (fun K hK => ?_) (cons_at rfl (fun K hK => ?_) AllReadyH.nil)
            · have hvd := hv21
              (first | (go_at_call 12; refine (HAY.out _ (RA_E.out.after hvd)).mono ?_; rintro e23 w23 ⟨y, A3, c3, A4, c4, g3, rfl, hi, hg3, hy, gb⟩) | (go_simp; go_at_call 12; refine (HAY.out _ (RA_E.out.after hvd)).mono ?_; rintro e23 w23 ⟨y, A3, c3, A4, c4, g3, rfl, hi, hg3, hy, gb⟩))
              have hv23 : Below wE.heap.size wE w23 := hvd.trans (gb.mono hvd.size)
              have x23 := cell_keep gb x21
              have r23 := cell_keep gb r21
              have HI23 := Lib.hid hi
              have HG3 := Lib.hid hg3
              have HGG23 := Lib.hid (fun h => (hg3 h).2)
              refine hK.out _ _ ?_ (fun hHeld => ?_)
              · exact ⟨x23, r23⟩
              clear hK K gb hvd
              try simp only [Act.put, List.setIfInBounds_toArray, List.set_cons_zero, List.set_cons_succ]
              refine take_at (i := 11) (v := ?_) rfl (by kernel_rfl) (by kernel_rfl) (by kernel_rfl) (fun _ _ _ h => h) (Or.inl ⟨by rfl, ?_⟩) (by assumption) ?_
              rotate_left
              · (intro w hSw; (try dsimp only at hSw); go_simp; (try with_reducible rfl))
              try simp only [Act.put, List.setIfInBounds_toArray, List.set_cons_zero, List.set_cons_succ]
              refine take_at (i := 12) (v := ?_) rfl (by kernel_rfl) (by kernel_rfl) (by kernel_rfl) (fun _ _ _ h => h) (Or.inl ⟨by rfl, ?_⟩) (by assumption) ?_
              rotate_left
              · (intro w hSw; (try dsimp only at hSw); go_simp; (try with_reducible rfl))
              try simp only [Act.put, List.setIfInBounds_toArray, List.set_cons_zero, List.set_cons_succ]
              refine take_at (i := 13) (v := ?_) rfl (by kernel_rfl) (by kernel_rfl) (by kernel_rfl) (fun _ _ _ h => h) (Or.inl ⟨by rfl, ?_⟩) (by assumption) ?_
              rotate_left
              · (intro w hSw; (try dsimp only at hSw); go_simp; (try with_reducible rfl))
              try simp only [Act.put, List.setIfInBounds_toArray, List.set_cons_zero, List.set_cons_succ]
              refine wpAnyH_ready (rs := [14]) (by kernel_rfl) (by simp) ?_
              refine cons_at rfl (fun K hK => ?_) AllReadyH.nil
              go_simp
              refine hK.out _ _ ?_ (fun hHeld => ?_)
              · exact ⟨keep_nw x23, keep_nw r23⟩
              clear hK K
              try simp only [Act.put, List.setIfInBounds_toArray, List.set_cons_zero, List.set_cons_succ]
              have x24 := keep_nw (o := .cells #[.int .i64 0, .int .i64 0, .int .u8 0, .slice none 0 0, .slice none 0 0] 40) x23
              have r24 := keep_nw (o := .cells #[.int .i64 0, .int .i64 0, .int .u8 0, .slice none 0 0, .slice none 0 0] 40) r23
              have hv24 : Below wE.heap.size wE (w23.alloc (.cells #[.int .i64 0, .int .i64 0, .int .u8 0, .slice none 0 0, .slice none 0 0] 40)) := hv23.alloc hv23.size _
              have LZ24 := Lib.hid (Lies.made w23 40 #[.int .i64 0, .int .i64 0, .int .u8 0, .slice none 0 0, .slice none 0 0])
              have hg24 : wE.heap.size ≤ w23.heap.size := hv23.size
              have hq24 : Below w23.heap.size w23 (w23.alloc (.cells #[.int .i64 0, .int .i64 0, .int .u8 0, .slice none 0 0, .slice none 0 0] 40)) := (Below.refl _ _).alloc (Nat.le_refl _) _
              have HI24 := Lib.hid (HI23.out.after ((Below.refl _ w23).alloc (Nat.le_refl _) (.cells #[.int .i64 0, .int .i64 0, .int .u8 0, .slice none 0 0, .slice none 0 0] 40)))
              have HGG24 := Lib.hid (fun h => (HGG23.out h).imp fun _ e => e.alloc (.cells #[.int .i64 0, .int .i64 0, .int .u8 0, .slice none 0 0, .slice none 0 0] 40))
              generalize hw24 : (w23.alloc (.cells #[.int .i64 0, .int .i64 0, .int .u8 0, .slice none 0 0, .slice none 0 0] 40)) = w24 at *
              refine wpAnyH_ready (rs := [15]) (by kernel_rfl) (by simp) ?_
              refine cons_at rfl (fun K hK => ?_) AllReadyH.nil
              have y0 := LZ24.out.cell 0
              have f0 := LZ24.out.free 0
              have y1 := LZ24.out.cell 1
              have f1 := LZ24.out.free 1
              have y2 := LZ24.out.cell 2
              have f2 := LZ24.out.free 2
              have y3 := LZ24.out.cell 3
              have f3 := LZ24.out.free 3
              have y4 := LZ24.out.cell 4
              have f4 := LZ24.out.free 4
              go_simp
              refine hK.out _ _ ?_ (fun hHeld => ?_)
              · exact ⟨(cell_five _ _ _ _ _ (by simp only; have := hg24; omega)).trans x24, (cell_five _ _ _ _ _ (by simp only; have := hg24; have := World.block_lt_of_cell? wE _ rE; simp only at this; omega)).trans r24⟩
              clear hK K
              try simp only [Act.put, List.setIfInBounds_toArray, List.set_cons_zero, List.set_cons_succ]
              refine take_at (i := 16) (v := ?_) rfl (by kernel_rfl) (by kernel_rfl) (by kernel_rfl) (fun _ _ _ h => h) (Or.inl ⟨by rfl, ?_⟩) (by assumption) ?_
              rotate_left
              · (intro w hSw; (try dsimp only at hSw); go_simp; (try with_reducible rfl))
              try simp only [Act.put, List.setIfInBounds_toArray, List.set_cons_zero, List.set_cons_succ]
              refine wpAnyH_done (by kernel_rfl) ?_ _
              go_wp2_with fail
              go_meet
              exact ⟨_, y, A3, c3, A4, c4, rfl, rfl, Lib.hid (lies_five LZ24.out _ _ _ _ _), Lib.hid (items_five HI24.out (fun h => (HG3.out h).1) (fun h => lies_apart2 LZ24.out (HGG24.out h).choose_spec (by decide)) _ _ _ _ _), hy, below_5s hv24 hg24 _ _ _ _ _⟩
            · go_simp
              refine hK.out _ _ ?_ (fun hHeld => ?_)
              · exact ⟨keep_nw x21, keep_nw r21⟩
              clear hK K
              try simp only [Act.put, List.setIfInBounds_toArray, List.set_cons_zero, List.set_cons_succ]
              have x25 := keep_nw (o := .cells #[.int .i64 0, .int .i64 0, .int .u8 0, .slice none 0 0, .slice none 0 0] 40) x21
              have r25 := keep_nw (o := .cells #[.int .i64 0, .int .i64 0, .int .u8 0, .slice none 0 0, .slice none 0 0] 40) r21
              have hv25 : Below wE.heap.size wE (w21.alloc (.cells #[.int .i64 0, .int .i64 0, .int .u8 0, .slice none 0 0, .slice none 0 0] 40)) := hv21.alloc hv21.size _
              have LZ25 := Lib.hid (Lies.made w21 40 #[.int .i64 0, .int .i64 0, .int .u8 0, .slice none 0 0, .slice none 0 0])
              have hg25 : wE.heap.size ≤ w21.heap.size := hv21.size
              have hq25 : Below w21.heap.size w21 (w21.alloc (.cells #[.int .i64 0, .int .i64 0, .int .u8 0, .slice none 0 0, .slice none 0 0] 40)) := (Below.refl _ _).alloc (Nat.le_refl _) _
              generalize hw25 : (w21.alloc (.cells #[.int .i64 0, .int .i64 0, .int .u8 0, .slice none 0 0, .slice none 0 0] 40)) = w25 at *
              refine wpAnyH_ready (rs := [10]) (by kernel_rfl) (by simp) ?_
              refine cons_at rfl (fun K hK => ?_) AllReadyH.nil
              have hvd := hv25
              (first | (go_at_call 12; refine (HAY.out _ (RA_E.out.after hvd)).mono ?_; rintro e26 w26 ⟨y, A3, c3, A4, c4, g3, rfl, hi, hg3, hy, gb⟩) | (go_simp; go_at_call 12; refine (HAY.out _ (RA_E.out.after hvd)).mono ?_; rintro e26 w26 ⟨y, A3, c3, A4, c4, g3, rfl, hi, hg3, hy, gb⟩))
              have hv26 : Below wE.heap.size wE w26 := hvd.trans (gb.mono hvd.size)
              have x26 := cell_keep gb x25
              have r26 := cell_keep gb r25
              have LZ26 := Lib.hid (LZ25.out.after gb)
              have hg26 := hg25
              have HI26 := Lib.hid hi
              have HG3 := Lib.hid hg3
              have HGG26 := Lib.hid (fun h => (hg3 h).2)
              refine hK.out _ _ ?_ (fun hHeld => ?_)
              · exact ⟨x26, r26⟩
              clear hK K gb hvd
              try simp only [Act.put, List.setIfInBounds_toArray, List.set_cons_zero, List.set_cons_succ]
              refine take_at (i := 11) (v := ?_) rfl (by kernel_rfl) (by kernel_rfl) (by kernel_rfl) (fun _ _ _ h => h) (Or.inl ⟨by rfl, ?_⟩) (by assumption) ?_
              rotate_left
              · (intro w hSw; (try dsimp only at hSw); go_simp; (try with_reducible rfl))
              try simp only [Act.put, List.setIfInBounds_toArray, List.set_cons_zero, List.set_cons_succ]
              refine take_at (i := 12) (v := ?_) rfl (by kernel_rfl) (by kernel_rfl) (by kernel_rfl) (fun _ _ _ h => h) (Or.inl ⟨by rfl, ?_⟩) (by assumption) ?_
              rotate_left
              · (intro w hSw; (try dsimp only at hSw); go_simp; (try with_reducible rfl))
              try simp only [Act.put, List.setIfInBounds_toArray, List.set_cons_zero, List.set_cons_succ]
              refine take_at (i := 13) (v := ?_) rfl (by kernel_rfl) (by kernel_rfl) (by kernel_rfl) (fun _ _ _ h => h) (Or.inl ⟨by rfl, ?_⟩) (by assumption) ?_
              rotate_left
              · (intro w hSw; (try dsimp only at hSw); go_simp; (try with_reducible rfl))
              try simp only [Act.put, List.setIfInBounds_toArray, List.set_cons_zero, List.set_cons_succ]
              refine wpAnyH_ready (rs := [15]) (by kernel_rfl) (by simp) ?_
              refine cons_at rfl (fun K hK => ?_) AllReadyH.nil
              have y0 := LZ26.out.cell 0
              have f0 := LZ26.out.free 0
              have y1 := LZ26.out.cell 1
              have f1 := LZ26.out.free 1
              have y2 := LZ26.out.cell 2
              have f2 := LZ26.out.free 2
              have y3 := LZ26.out.cell 3
              have f3 := LZ26.out.free 3
              have y4 := LZ26.out.cell 4
              have f4 := LZ26.out.free 4
              go_simp
              refine hK.out _ _ ?_ (fun hHeld => ?_)
              · exact ⟨(cell_five _ _ _ _ _ (by simp only; have := hg26; omega)).trans x26, (cell_five _ _ _ _ _ (by simp only; have := hg26; have := World.block_lt_of_cell? wE _ rE; simp only at this; omega)).trans r26⟩
              clear hK K
              try simp only [Act.put, List.setIfInBounds_toArray, List.set_cons_zero, List.set_cons_succ]
              refine take_at (i := 16) (v := ?_) rfl (by kernel_rfl) (by kernel_rfl) (by kernel_rfl) (fun _ _ _ h => h) (Or.inl ⟨by rfl, ?_⟩) (by assumption) ?_
              rotate_left
              · (intro w hSw; (try dsimp only at hSw); go_simp; (try with_reducible rfl))
              try simp only [Act.put, List.setIfInBounds_toArray, List.set_cons_zero, List.set_cons_succ]
              refine wpAnyH_done (by kernel_rfl) ?_ _
              go_wp2_with fail
              go_meet
              exact ⟨_, y, A3, c3, A4, c4, rfl, rfl, Lib.hid (lies_five LZ26.out _ _ _ _ _), Lib.hid (items_five HI26.out (fun h => (HG3.out h).1) (fun h => lies_apart2 LZ26.out (HGG26.out h).choose_spec (by decide)) _ _ _ _ _), hy, below_5s hv26 hg26 _ _ _ _ _⟩
          · go_simp
            refine hK.out _ _ ?_ (fun hHeld => ?_)
            · exact ⟨keep_nw x21, keep_nw r21⟩
            clear hK K
            try simp only [Act.put, List.setIfInBounds_toArray, List.set_cons_zero, List.set_cons_succ]
            have x27 := keep_nw (o := .cells #[.int .i64 0, .int .i64 0, .int .u8 0, .slice none 0 0, .slice none 0 0] 40) x21
            have r27 := keep_nw (o := .cells #[.int .i64 0, .int .i64 0, .int .u8 0, .slice none 0 0, .slice none 0 0] 40) r21
            have hv27 : Below wE.heap.size wE (w21.alloc (.cells #[.int .i64 0, .int .i64 0, .int .u8 0, .slice none 0 0, .slice none 0 0] 40)) := hv21.alloc hv21.size _
            have LZ27 := Lib.hid (Lies.made w21 40 #[.int .i64 0, .int .i64 0, .int .u8 0, .slice none 0 0, .slice none 0 0])
            have hg27 : wE.heap.size ≤ w21.heap.size := hv21.size
            have hq27 : Below w21.heap.size w21 (w21.alloc (.cells #[.int .i64 0, .int .i64 0, .int .u8 0, .slice none 0 0, .slice none 0 0] 40)) := (Below.refl _ _).alloc (Nat.le_refl _) _
            generalize hw27 : (w21.alloc (.cells #[.int .i64 0, .int .i64 0, .int .u8 0, .slice none 0 0, .slice none 0 0] 40)) = w27 at *
            refine wpAnyH_ready (rs := [6]) (by kernel_rfl) (by simp) ?_
            refine cons_at rfl (fun K hK => ?_) AllReadyH.nil
            (first | (go_at_call 13; refine (HIX.out _ (by (repeat' (first | (with_reducible first | exact Below.refl _ _ | assumption | refine Below.alloc ?_ ?_ _ | refine Below.setCell ?_ ?_ _ | refine below_row ?_ ?_ _ | refine Below.drew ?_ | refine below_drewN ?_ _ | refine Below.trans ?_ (Below.mono (by assumption) ?_)) | exact Nat.le_refl _ | omega | (simp; done) | (simp; omega) | exact Below.size (by assumption))))).mono ?_; rintro e28 w28 ⟨rfl, rfl⟩) | (go_simp; go_at_call 13; refine (HIX.out _ (by (repeat' (first | (with_reducible first | exact Below.refl _ _ | assumption | refine Below.alloc ?_ ?_ _ | refine Below.setCell ?_ ?_ _ | refine below_row ?_ ?_ _ | refine Below.drew ?_ | refine below_drewN ?_ _ | refine Below.trans ?_ (Below.mono (by assumption) ?_)) | exact Nat.le_refl _ | omega | (simp; done) | (simp; omega) | exact Below.size (by assumption))))).mono ?_; rintro e28 w28 ⟨rfl, rfl⟩))
            refine hK.out _ _ ?_ (fun hHeld => ?_)
            · exact ⟨x27, r27⟩
            clear hK K
            try simp only [Act.put, List.setIfInBounds_toArray, List.set_cons_zero, List.set_cons_succ]
            refine take_at (i := 7) (v := ?_) rfl (by kernel_rfl) (by kernel_rfl) (by kernel_rfl) (fun _ _ _ h => h) (Or.inl ⟨by rfl, ?_⟩) (by assumption) ?_
            rotate_left
            · (intro w hSw; (try dsimp only at hSw); go_simp; (try with_reducible rfl))
            try simp only [Act.put, List.setIfInBounds_toArray, List.set_cons_zero, List.set_cons_succ]
            refine take_at (i := 8) (v := ?_) rfl (by kernel_rfl) (by kernel_rfl) (by kernel_rfl) (fun _ _ _ h => h) (Or.inl ⟨by rfl, ?_⟩) (by assumption) ?_
            rotate_left
            · (intro w hSw; (try dsimp only at hSw); go_simp; (try with_reducible rfl))
            try simp only [Act.put, List.setIfInBounds_toArray, List.set_cons_zero, List.set_cons_succ]
            refine take_at (i := 9) (v := ?_) rfl (by kernel_rfl) (by kernel_rfl) (by kernel_rfl) (fun _ _ _ h => h) (Or.inl ⟨by rfl, ?_⟩) (by assumption) ?_
            rotate_left
            · (intro w hSw; (try dsimp only at hSw); go_simp; (try with_reducible rfl))
            try simp only [Act.put, List.setIfInBounds_toArray, List.set_cons_zero, List.set_cons_succ]
            refine wpAnyH_ready (rs := [10]) (by kernel_rfl) (by simp) ?_
            refine cons_at rfl (fun K hK => ?_) AllReadyH.nil
            have hvd := hv27
            (first | (go_at_call 12; refine (HAY.out _ (RA_E.out.after hvd)).mono ?_; rintro e29 w29 ⟨y, A3, c3, A4, c4, g3, rfl, hi, hg3, hy, gb⟩) | (go_simp; go_at_call 12; refine (HAY.out _ (RA_E.out.after hvd)).mono ?_; rintro e29 w29 ⟨y, A3, c3, A4, c4, g3, rfl, hi, hg3, hy, gb⟩))
            have hv29 : Below wE.heap.size wE w29 := hvd.trans (gb.mono hvd.size)
            have x29 := cell_keep gb x27
            have r29 := cell_keep gb r27
            have LZ29 := Lib.hid (LZ27.out.after gb)
            have hg29 := hg27
            have HI29 := Lib.hid hi
            have HG3 := Lib.hid hg3
            have HGG29 := Lib.hid (fun h => (hg3 h).2)
            refine hK.out _ _ ?_ (fun hHeld => ?_)
            · exact ⟨x29, r29⟩
            clear hK K gb hvd
            try simp only [Act.put, List.setIfInBounds_toArray, List.set_cons_zero, List.set_cons_succ]
            refine take_at (i := 11) (v := ?_) rfl (by kernel_rfl) (by kernel_rfl) (by kernel_rfl) (fun _ _ _ h => h) (Or.inl ⟨by rfl, ?_⟩) (by assumption) ?_
            rotate_left
            · (intro w hSw; (try dsimp only at hSw); go_simp; (try with_reducible rfl))
            try simp only [Act.put, List.setIfInBounds_toArray, List.set_cons_zero, List.set_cons_succ]
            refine take_at (i := 12) (v := ?_) rfl (by kernel_rfl) (by kernel_rfl) (by kernel_rfl) (fun _ _ _ h => h) (Or.inl ⟨by rfl, ?_⟩) (by assumption) ?_
            rotate_left
            · (intro w hSw; (try dsimp only at hSw); go_simp; (try with_reducible rfl))
            try simp only [Act.put, List.setIfInBounds_toArray, List.set_cons_zero, List.set_cons_succ]
            refine take_at (i := 13) (v := ?_) rfl (by kernel_rfl) (by kernel_rfl) (by kernel_rfl) (fun _ _ _ h => h) (Or.inl ⟨by rfl, ?_⟩) (by assumption) ?_
            rotate_left
            · (intro w hSw; (try dsimp only at hSw); go_simp; (try with_reducible rfl))
            try simp only [Act.put, List.setIfInBounds_toArray, List.set_cons_zero, List.set_cons_succ]
            refine wpAnyH_ready (rs := [15]) (by kernel_rfl) (by simp) ?_
            refine cons_at rfl (fun K hK => ?_) AllReadyH.nil
            have y0 := LZ29.out.cell 0
            have f0 := LZ29.out.free 0
            have y1 := LZ29.out.cell 1
            have f1 := LZ29.out.free 1
            have y2 := LZ29.out.cell 2
            have f2 := LZ29.out.free 2
            have y3 := LZ29.out.cell 3
            have f3 := LZ29.out.free 3
            have y4 := LZ29.out.cell 4
            have f4 := LZ29.out.free 4
            go_simp
            refine hK.out _ _ ?_ (fun hHeld => ?_)
            · exact ⟨(cell_five _ _ _ _ _ (by simp only; have := hg29; omega)).trans x29, (cell_five _ _ _ _ _ (by simp only; have := hg29; have := World.block_lt_of_cell? wE _ rE; simp only at this; omega)).trans r29⟩
            clear hK K
            try simp only [Act.put, List.setIfInBounds_toArray, List.set_cons_zero, List.set_cons_succ]
            refine take_at (i := 16) (v := ?_) rfl (by kernel_rfl) (by kernel_rfl) (by kernel_rfl) (fun _ _ _ h => h) (Or.inl ⟨by rfl, ?_⟩) (by assumption) ?_
            rotate_left
            · (intro w hSw; (try dsimp only at hSw); go_simp; (try with_reducible rfl))
            try simp only [Act.put, List.setIfInBounds_toArray, List.set_cons_zero, List.set_cons_succ]
            refine wpAnyH_done (by kernel_rfl) ?_ _
            go_wp2_with fail
            go_meet
            exact ⟨_, y, A3, c3, A4, c4, rfl, rfl, Lib.hid (lies_five LZ29.out _ _ _ _ _), Lib.hid (items_five HI29.out (fun h => (HG3.out h).1) (fun h => lies_apart2 LZ29.out (HGG29.out h).choose_spec (by decide)) _ _ _ _ _), hy, below_5s hv29 hg29 _ _ _ _ _⟩
        · go_simp
          refine hK.out _ _ ?_ (fun hHeld => ?_)
          · exact ⟨keep_nw xEd, keep_nw rEd⟩
          clear hK K
          try simp only [Act.put, List.setIfInBounds_toArray, List.set_cons_zero, List.set_cons_succ]
          have x30 := keep_nw (o := .cells #[.int .i64 0, .int .i64 0, .int .u8 0, .slice none 0 0, .slice none 0 0] 40) xEd
          have r30 := keep_nw (o := .cells #[.int .i64 0, .int .i64 0, .int .u8 0, .slice none 0 0, .slice none 0 0] 40) rEd
          have hv30 : Below wE.heap.size wE (wEd.alloc (.cells #[.int .i64 0, .int .i64 0, .int .u8 0, .slice none 0 0, .slice none 0 0] 40)) := hvEd.alloc hvEd.size _
          have LZ30 := Lib.hid (Lies.made wEd 40 #[.int .i64 0, .int .i64 0, .int .u8 0, .slice none 0 0, .slice none 0 0])
          have hg30 : wE.heap.size ≤ wEd.heap.size := hvEd.size
          have hq30 : Below wEd.heap.size wEd (wEd.alloc (.cells #[.int .i64 0, .int .i64 0, .int .u8 0, .slice none 0 0, .slice none 0 0] 40)) := (Below.refl _ _).alloc (Nat.le_refl _) _
          generalize hw30 : (wEd.alloc (.cells #[.int .i64 0, .int .i64 0, .int .u8 0, .slice none 0 0, .slice none 0 0] 40)) = w30 at *
          refine wpAnyH_ready (rs := [4]) (by kernel_rfl) (by simp) ?_
          refine cons_at rfl (fun K hK => ?_) AllReadyH.nil
          have hvd := hv30
          (first | (go_at_call 14; refine (HNU.out _ (RA_E.out.after hvd)).mono ?_; rintro e31 w31 ⟨vN, rfl, hoN, gb⟩) | (go_simp; go_at_call 14; refine (HNU.out _ (RA_E.out.after hvd)).mono ?_; rintro e31 w31 ⟨vN, rfl, hoN, gb⟩))
          have hv31 : Below wE.heap.size wE w31 := hvd.trans (gb.mono hvd.size)
          have x31 := cell_keep gb x30
          have r31 := cell_keep gb r30
          have LZ31 := Lib.hid (LZ30.out.after gb)
          have hg31 := hg30
          have HIX := Lib.hid (fun W (hW : Below w31.heap.size w31 W) => idx_s (ints_of_own (own_after hoN hW)) (by omega) HPI.out)
          refine hK.out _ _ ?_ (fun hHeld => ?_)
          · exact ⟨x31, r31⟩
          clear hK K gb hvd
          try simp only [Act.put, List.setIfInBounds_toArray, List.set_cons_zero, List.set_cons_succ]
          refine wpAnyH_ready (rs := [6]) (by kernel_rfl) (by simp) ?_
          refine cons_at rfl (fun K hK => ?_) AllReadyH.nil
          (first | (go_at_call 13; refine (HIX.out _ (by (repeat' (first | (with_reducible first | exact Below.refl _ _ | assumption | refine Below.alloc ?_ ?_ _ | refine Below.setCell ?_ ?_ _ | refine below_row ?_ ?_ _ | refine Below.drew ?_ | refine below_drewN ?_ _ | refine Below.trans ?_ (Below.mono (by assumption) ?_)) | exact Nat.le_refl _ | omega | (simp; done) | (simp; omega) | exact Below.size (by assumption))))).mono ?_; rintro e32 w32 ⟨rfl, rfl⟩) | (go_simp; go_at_call 13; refine (HIX.out _ (by (repeat' (first | (with_reducible first | exact Below.refl _ _ | assumption | refine Below.alloc ?_ ?_ _ | refine Below.setCell ?_ ?_ _ | refine below_row ?_ ?_ _ | refine Below.drew ?_ | refine below_drewN ?_ _ | refine Below.trans ?_ (Below.mono (by assumption) ?_)) | exact Nat.le_refl _ | omega | (simp; done) | (simp; omega) | exact Below.size (by assumption))))).mono ?_; rintro e32 w32 ⟨rfl, rfl⟩))
          refine hK.out _ _ ?_ (fun hHeld => ?_)
          · exact ⟨x31, r31⟩
          clear hK K
          try simp only [Act.put, List.setIfInBounds_toArray, List.set_cons_zero, List.set_cons_succ]
          refine take_at (i := 7) (v := ?_) rfl (by kernel_rfl) (by kernel_rfl) (by kernel_rfl) (fun _ _ _ h => h) (Or.inl ⟨by rfl, ?_⟩) (by assumption) ?_
          rotate_left
          · (intro w hSw; (try dsimp only at hSw); go_simp; (try with_reducible rfl))
          try simp only [Act.put, List.setIfInBounds_toArray, List.set_cons_zero, List.set_cons_succ]
          refine take_at (i := 8) (v := ?_) rfl (by kernel_rfl) (by kernel_rfl) (by kernel_rfl) (fun _ _ _ h => h) (Or.inl ⟨by rfl, ?_⟩) (by assumption) ?_
          rotate_left
          · (intro w hSw; (try dsimp only at hSw); go_simp; (try with_reducible rfl))
          try simp only [Act.put, List.setIfInBounds_toArray, List.set_cons_zero, List.set_cons_succ]
          refine take_at (i := 9) (v := ?_) rfl (by kernel_rfl) (by kernel_rfl) (by kernel_rfl) (fun _ _ _ h => h) (Or.inl ⟨by rfl, ?_⟩) (by assumption) ?_
          rotate_left
          · (intro w hSw; (try dsimp only at hSw); go_simp; (try with_reducible rfl))
          try simp only [Act.put, List.setIfInBounds_toArray, List.set_cons_zero, List.set_cons_succ]
          refine wpAnyH_ready (rs := [10]) (by kernel_rfl) (by simp) ?_
          refine cons_at rfl (fun K hK => ?_) AllReadyH.nil
          have hvd := hv31
          (first | (go_at_call 12; refine (HAY.out _ (RA_E.out.after hvd)).mono ?_; rintro e33 w33 ⟨y, A3, c3, A4, c4, g3, rfl, hi, hg3, hy, gb⟩) | (go_simp; go_at_call 12; refine (HAY.out _ (RA_E.out.after hvd)).mono ?_; rintro e33 w33 ⟨y, A3, c3, A4, c4, g3, rfl, hi, hg3, hy, gb⟩))
          have hv33 : Below wE.heap.size wE w33 := hvd.trans (gb.mono hvd.size)
          have x33 := cell_keep gb x31
          have r33 := cell_keep gb r31
          have LZ33 := Lib.hid (LZ31.out.after gb)
          have hg33 := hg31
          have HI33 := Lib.hid hi
          have HG3 := Lib.hid hg3
          have HGG33 := Lib.hid (fun h => (hg3 h).2)
          refine hK.out _ _ ?_ (fun hHeld => ?_)
          · exact ⟨x33, r33⟩
          clear hK K gb hvd
          try simp only [Act.put, List.setIfInBounds_toArray, List.set_cons_zero, List.set_cons_succ]
          refine take_at (i := 11) (v := ?_) rfl (by kernel_rfl) (by kernel_rfl) (by kernel_rfl) (fun _ _ _ h => h) (Or.inl ⟨by rfl, ?_⟩) (by assumption) ?_
          rotate_left
          · (intro w hSw; (try dsimp only at hSw); go_simp; (try with_reducible rfl))
          try simp only [Act.put, List.setIfInBounds_toArray, List.set_cons_zero, List.set_cons_succ]
          refine take_at (i := 12) (v := ?_) rfl (by kernel_rfl) (by kernel_rfl) (by kernel_rfl) (fun _ _ _ h => h) (Or.inl ⟨by rfl, ?_⟩) (by assumption) ?_
          rotate_left
          · (intro w hSw; (try dsimp only at hSw); go_simp; (try with_reducible rfl))
          try simp only [Act.put, List.setIfInBounds_toArray, List.set_cons_zero, List.set_cons_succ]
          refine take_at (i := 13) (v := ?_) rfl (by kernel_rfl) (by kernel_rfl) (by kernel_rfl) (fun _ _ _ h => h) (Or.inl ⟨by rfl, ?_⟩) (by assumption) ?_
          rotate_left
          · (intro w hSw; (try dsimp only at hSw); go_simp; (try with_reducible rfl))
          try simp only [Act.put, List.setIfInBounds_toArray, List.set_cons_zero, List.set_cons_succ]
          refine wpAnyH_ready (rs := [15]) (by kernel_rfl) (by simp) ?_
          refine cons_at rfl (fun K hK => ?_) AllReadyH.nil
          have y0 := LZ33.out.cell 0
          have f0 := LZ33.out.free 0
          have y1 := LZ33.out.cell 1
          have f1 := LZ33.out.free 1
          have y2 := LZ33.out.cell 2
          have f2 := LZ33.out.free 2
          have y3 := LZ33.out.cell 3
          have f3 := LZ33.out.free 3
          have y4 := LZ33.out.cell 4
          have f4 := LZ33.out.free 4
          go_simp
          refine hK.out _ _ ?_ (fun hHeld => ?_)
          · exact ⟨(cell_five _ _ _ _ _ (by simp only; have := hg33; omega)).trans x33, (cell_five _ _ _ _ _ (by simp only; have := hg33; have := World.block_lt_of_cell? wE _ rE; simp only at this; omega)).trans r33⟩
          clear hK K
          try simp only [Act.put, List.setIfInBounds_toArray, List.set_cons_zero, List.set_cons_succ]
          refine take_at (i := 16) (v := ?_) rfl (by kernel_rfl) (by kernel_rfl) (by kernel_rfl) (fun _ _ _ h => h) (Or.inl ⟨by rfl, ?_⟩) (by assumption) ?_
          rotate_left
          · (intro w hSw; (try dsimp only at hSw); go_simp; (try with_reducible rfl))
          try simp only [Act.put, List.setIfInBounds_toArray, List.set_cons_zero, List.set_cons_succ]
          refine wpAnyH_done (by kernel_rfl) ?_ _
          go_wp2_with fail
          go_meet
          exact ⟨_, y, A3, c3, A4, c4, rfl, rfl, Lib.hid (lies_five LZ33.out _ _ _ _ _), Lib.hid (items_five HI33.out (fun h => (HG3.out h).1) (fun h => lies_apart2 LZ33.out (HGG33.out h).choose_spec (by decide)) _ _ _ _ _), hy, below_5s hv33 hg33 _ _ _ _ _⟩
      case rest =>
        obtain ⟨g, y, A3, c3, A4, c4, rfl, rfl, HLX, HIT, hy, hbx⟩ := hcut
        obtain ⟨wx, rfl⟩ : ∃ wx : World, wx = wc := ⟨_, rfl⟩
        have hbwx : Below w.heap.size w wx := hbE.trans (hbx.mono hbE.size)
        have htx := HTK.out y hy
        have HT1' := Lib.hid HT1.out
        rw [htx] at HT1'
        have hns8 := (HSM.out y hy.1).1
        have HAL := Lib.hid (fun W (hW : Below wx.heap.size wx W) => And.intro (RA_E.out.after (hbx.trans (hW.mono hbx.size))) (And.intro (LB_E.out.after (hbx.trans (hW.mono hbx.size))) (And.intro (HS_E.out.after (hbx.trans (hW.mono hbx.size))) (UP_E.out.after (hbx.trans (hW.mono hbx.size))))))
        have y3 := HLX.out.cell 3
        have zx := HLX.out.lt
        have hnu : ((us.length : Int) != (us.length : Int)) = false := by simp
        obtain ⟨A', c', bI, oI, eI, hAI, hcI⟩ := HIT.out
        injection eI with e1 e2 e3
        subst e1 e3
        have HAI := Lib.hid hAI
        have HCI := Lib.hid hcI
        clear RA_E LB_E HS_E UP_E xE zE rE HTK HAY HLT HDN HDM HQ1 HPI HGP hAI hcI htx HT1 HSM HIT hy
        generalize y.items = il at *
        go_wp2_with fail
        go_loopw [22, 121] (fun v i ws => ∃ jj : Nat, i = .int .i64 jj ∧ jj ≤ il.length ∧ v = .bool ((il.take jj).any (nedF d up)) ∧ Below wx.heap.size wx ws) (fun _ i _ => il.length - (intOf i).toNat)
        case atStart => exact ⟨0, rfl, by omega, by simp, by (repeat' (first | (with_reducible first | exact Below.refl _ _ | assumption | refine Below.alloc ?_ ?_ _ | refine Below.setCell ?_ ?_ _ | refine below_row ?_ ?_ _ | refine Below.drew ?_ | refine below_drewN ?_ _ | refine Below.trans ?_ (Below.mono (by assumption) ?_)) | exact Nat.le_refl _ | omega | (simp; done) | (simp; omega) | exact Below.size (by assumption)))⟩
        case round =>
          obtain ⟨jj, rfl, hjj, rfl, hb⟩ := hrel
          by_cases hjt : jj < il.length
          · have kl1 : (jj : Int) < (il.length : Int) := by omega
            obtain rfl := HAI.out (by omega)
            have i0 := cell_keep hb (HCI.out jj hjt).1
            have i1 := cell_keep hb (HCI.out jj hjt).2
            have HST := Lib.hid (ned_step (d := d) (up := up) hjt)
            generalize (il.take jj).any (nedF d up) = nb at *
            generalize il[jj] = it at *
            obtain ⟨za, zc⟩ := it
            simp only at i0 i1
            have hbs := hb.size
            have hbA : Below wx.heap.size wx (wr.alloc (.cells #[.int .i64 za, .int .i64 zc] 50)) := hb.alloc hbs _
            have hhs := has_any za (HAL.out _ hbA).2.2.2 (by omega)
            cases nb with
            | true =>
              have HS2 : Hid ((il.take (jj + 1)).any (nedF d up) = true) := Lib.hid (by rw [HST.out, Bool.true_or])
              clear hhs
              go_wp2_with fail
              go_roundw
              case rel => exact ⟨jj + 1, by go_num, by omega, by rw [HS2.out], hbA⟩
              case measure => simp [intOf]; omega
            | false =>
              by_cases hzd : za = d
              · have HS2 : Hid ((il.take (jj + 1)).any (nedF d up) = true) := Lib.hid (by rw [HST.out]; unfold nedF; simp [hzd])
                have hze : (za == d) = true := by simp [hzd]
                clear hhs hzd
                go_wp2_with fail
                go_roundw
                case rel => exact ⟨jj + 1, by go_num, by omega, by rw [HS2.out], hbA⟩
                case measure => simp [intOf]; omega
              · have HS2 : Hid ((il.take (jj + 1)).any (nedF d up) = decide (za ∈ up)) := Lib.hid (by rw [HST.out]; unfold nedF; simp [hzd])
                have hze : (za == d) = false := by simp [hzd]
                clear hzd
                generalize decide (za ∈ up) = ub at *
                go_wp2_with fail
                refine hhs.mono ?_
                rintro e40 w40 ⟨rfl, gb40⟩
                have hb40 := hbA.trans (gb40.mono hbA.size)
                clear hhs gb40
                go_wp2_with fail
                go_roundw
                case rel => exact ⟨jj + 1, by go_num, by omega, by rw [HS2.out], hb40⟩
                case measure => simp [intOf]; omega
          · have kl1 : ¬ (jj : Int) < (il.length : Int) := by omega
            obtain rfl : jj = il.length := by omega
            have hnd : (il.take il.length).any (nedF d up) = decide (x ∈ up) := by
              rw [List.take_length, Bool.eq_iff_iff, List.any_eq_true, decide_eq_true_eq, HT1'.out]
              refine exists_congr fun it => and_congr Iff.rfl ?_
              unfold nedF
              rw [Bool.or_eq_true, decide_eq_true_eq, decide_eq_true_eq]
            rw [hnd]
            have hal := HAL.out _ hb
            have x41 := hal.2.1.cell 0
            have z41 := hal.2.1.lt
            have htr := tree_s hal.1 hal.2.2.1 (by omega) HTE.out
            clear hnd HT1' hal
            go_wp2_with fail
            refine htr.mono ?_
            rintro e42 w42 ⟨A8, c8, rfl, hbr, gb42⟩
            have hb42 : Below wx.heap.size wx w42 := hb.trans (gb42.mono hb.size)
            obtain ⟨A', c', bT, oT, eT, hAT, hcT⟩ := hbr
            injection eT with e1 e2 e3
            subst e1 e3
            have HAT := Lib.hid hAT
            have HCT := Lib.hid hcT
            clear hAT hcT gb42 htr x41 z41 hb
            go_wp2_with fail
            go_loopw [27, 148] (fun v i ws => ∃ jj : Nat, i = .int .i64 jj ∧ jj ≤ tl.length ∧ v = .bool (inF tl d jj) ∧ Below w42.heap.size w42 ws) (fun _ i _ => tl.length - (intOf i).toNat)
            case atStart => exact ⟨0, rfl, by omega, by simp [inF], by (repeat' (first | (with_reducible first | exact Below.refl _ _ | assumption | refine Below.alloc ?_ ?_ _ | refine Below.setCell ?_ ?_ _ | refine below_row ?_ ?_ _ | refine Below.drew ?_ | refine below_drewN ?_ _ | refine Below.trans ?_ (Below.mono (by assumption) ?_)) | exact Nat.le_refl _ | omega | (simp; done) | (simp; omega) | exact Below.size (by assumption)))⟩
            case round =>
              obtain ⟨jj, rfl, hjj, rfl, hb⟩ := hrel
              by_cases hjt : jj < tl.length
              · have kl2 : (jj : Int) < (tl.length : Int) := by omega
                obtain rfl := HAT.out (by omega)
                have i0 := cell_keep hb (HCT.out jj hjt).1
                have i1 := cell_keep hb (HCT.out jj hjt).2.1
                have i2 := cell_keep hb (HCT.out jj hjt).2.2.1
                have i3 := cell_keep hb (HCT.out jj hjt).2.2.2
                have hst := inF_step tl d jj
                rw [show tl.getD jj (0, 0, 0, 0) = tl[jj] by simp [List.getD_eq_getElem?_getD, hjt]] at hst
                have HST := Lib.hid hst
                clear hst
                generalize inF tl d jj = nb at *
                generalize tl[jj] = br at *
                obtain ⟨b0, b1, b2, b3⟩ := br
                simp only at i0 i1 i2 i3 HST
                have hbs := hb.size
                have hbA : Below w42.heap.size w42 (wr.alloc (.cells #[.int .i64 b0, .int .i64 b1, .int .i64 b2, .int .i64 b3] 56)) := hb.alloc hbs _
                cases nb with
                | true =>
                  have HS2 : Hid (inF tl d (jj + 1) = true) := Lib.hid (by rw [HST.out, Bool.true_or])
                  go_wp2_with fail
                  go_roundw
                  case rel => exact ⟨jj + 1, by go_num, by omega, by rw [HS2.out], hbA⟩
                  case measure => simp [intOf]; omega
                | false =>
                  by_cases hj0 : jj = 0
                  · have kj0 : ¬ 0 < (jj : Int) := by omega
                    have HS2 : Hid (inF tl d (jj + 1) = false) := Lib.hid (by rw [HST.out, decide_eq_false (by omega)]; simp)
                    clear hj0
                    go_wp2_with fail
                    go_roundw
                    case rel => exact ⟨jj + 1, by go_num, by omega, by rw [HS2.out], hbA⟩
                    case measure => simp [intOf]; omega
                  · have kj0 : 0 < (jj : Int) := by omega
                    have hj1 : 0 < jj := by omega
                    have HS2 : Hid (inF tl d (jj + 1) = (b1 == d)) := Lib.hid (by rw [HST.out, decide_eq_true hj1, Bool.false_or, Bool.true_and]; by_cases e : b1 = d <;> simp [e])
                    clear hj0
                    generalize hbd : (b1 == d) = bd at *
                    go_wp2_with fail
                    go_roundw
                    case rel => exact ⟨jj + 1, by go_num, by omega, by rw [HS2.out], hbA⟩
                    case measure => simp [intOf]; omega
              · have kl2 : ¬ (jj : Int) < (tl.length : Int) := by omega
                obtain rfl : jj = tl.length := by omega
                have hvz : Below wx.heap.size wx wr := hb42.trans (hb.mono hb42.size)
                obtain ⟨wz, rfl⟩ : ∃ z, z = wr := ⟨_, rfl⟩
                have HUZ := Lib.hid (HAL.out _ hvz).2.2.2
                obtain ⟨A', c', bU, oU, eU, hAU, hcU⟩ := HUZ.out
                injection eU with e1 e2 e3
                subst e1 e3
                have HAU := Lib.hid hAU
                have HCU := Lib.hid hcU
                clear hAU hcU HAT HCT hb
                go_wp2_with fail
                go_loopw [167] (fun i ws => ∃ jj : Nat, i = .int .i64 jj ∧ jj ≤ up.length ∧ Below wz.heap.size wz ws) (fun i _ => up.length - (intOf i).toNat)
                case atStart => exact ⟨0, rfl, by omega, by (repeat' (first | (with_reducible first | exact Below.refl _ _ | assumption | refine Below.alloc ?_ ?_ _ | refine Below.setCell ?_ ?_ _ | refine below_row ?_ ?_ _ | refine Below.drew ?_ | refine below_drewN ?_ _ | refine Below.trans ?_ (Below.mono (by assumption) ?_)) | exact Nat.le_refl _ | omega | (simp; done) | (simp; omega) | exact Below.size (by assumption)))⟩
                case round =>
                  obtain ⟨jj, rfl, hjj, hb⟩ := hrel
                  have hvx : Below wx.heap.size wx wr := hvz.trans (hb.mono hvz.size)
                  by_cases hjt : jj < up.length
                  · have kl3 : (jj : Int) < (up.length : Int) := by omega
                    obtain rfl := HAU.out (by omega)
                    have i0 := cell_keep hb (HCU.out jj hjt)
                    have hal := HAL.out _ hvx
                    have x50 := hal.2.1.cell 0
                    have z50 := hal.2.1.lt
                    have hnu2 := HNU.out _ hal.1
                    have hmem := HT4.out _ (List.getElem_mem hjt)
                    by_cases hj0 : jj = 0
                    · have kj0 : ¬ 0 < (jj : Int) := by omega
                      generalize up[jj] = nz at *
                      clear hal hj0
                      go_wp2_with fail
                      refine hnu2.mono ?_
                      rintro e51 w51 ⟨vN, rfl, hoN, gb51⟩
                      have hb51 : Below wz.heap.size wz w51 := hb.trans (gb51.mono hb.size)
                      have hhs := has_any nz (ints_of_own hoN) (by omega)
                      rw [decide_eq_true hmem] at hhs
                      clear hnu2 hoN gb51
                      go_wp2_with fail
                      refine hhs.mono ?_
                      rintro e52 w52 ⟨rfl, gb52⟩
                      have hb52 : Below wz.heap.size wz w52 := hb51.trans (gb52.mono hb51.size)
                      clear gb52 hhs
                      go_wp2_with fail
                      go_roundw
                      case rel => exact ⟨jj + 1, by go_num, by omega, hb52⟩
                      case measure => simp [intOf]; omega
                    · obtain ⟨j, rfl⟩ : ∃ j, jj = j + 1 := ⟨jj - 1, by omega⟩
                      have hlt := List.pairwise_iff_getElem.1 HT3.out j (j + 1) (by omega) hjt (by omega)
                      have i1 := cell_keep hb (HCU.out j (by omega))
                      have kj0 : 0 < ((j + 1 : Nat) : Int) := by omega
                      have kj1 : IntKind.i64.wrap (((j + 1 : Nat) : Int) - 1) = (j : Int) := by rw [IntWalk.i64_in _ (by omega)]; omega
                      have kj2 : (j : Int) < (up.length : Int) := by omega
                      generalize up[j + 1] = nz at *
                      generalize up[j] = nj at *
                      have kj3 : ¬ nz ≤ nj := by omega
                      clear hal
                      go_wp2_with fail
                      refine hnu2.mono ?_
                      rintro e51 w51 ⟨vN, rfl, hoN, gb51⟩
                      have hb51 : Below wz.heap.size wz w51 := hb.trans (gb51.mono hb.size)
                      have hhs := has_any nz (ints_of_own hoN) (by omega)
                      rw [decide_eq_true hmem] at hhs
                      have i2 := cell_keep gb51 i1
                      clear hnu2 hoN gb51
                      go_wp2_with fail
                      refine hhs.mono ?_
                      rintro e52 w52 ⟨rfl, gb52⟩
                      have hb52 : Below wz.heap.size wz w52 := hb51.trans (gb52.mono hb51.size)
                      have i3 := cell_keep gb52 i2
                      clear gb52 hhs i0 i1 i2
                      go_wp2_with fail
                      go_roundw
                      case rel => exact ⟨j + 1 + 1, by go_num, by omega, hb52⟩
                      case measure => simp [intOf]; omega
                  · have kl3 : ¬ (jj : Int) < (up.length : Int) := by omega
                    have hhs := has_any x (HAL.out _ hvx).2.2.2 (by omega)
                    have hin := HT2.out
                    rw [← inF_iff] at hin
                    have hub : ∀ bb : Bool, (bb == bb) = true := fun bb => by simp
                    have hinb : tq = 4 ∨ tq = 0 ∧ inF tl d tl.length = decide (x ∈ up) := hin.imp id fun h => ⟨h.1, by rw [Bool.eq_iff_iff, decide_eq_true_eq]; exact h.2⟩
                    generalize decide (x ∈ up) = ub at *
                    generalize inF tl d tl.length = ib at *
                    have hub2 := hub ub
                    clear hin hub
                    rcases hinb with rfl | ⟨rfl, rfl⟩
                    · go_wp2_with fail
                      refine hhs.mono ?_
                      rintro e60 w60 ⟨rfl, gb60⟩
                      have hb60 := hvx.trans (gb60.mono hvx.size)
                      clear hhs gb60
                      go_wp2_with fail
                      go_ret
                      exact ⟨rfl, hbwx.trans (hb60.mono hbwx.size)⟩
                    · go_wp2_with fail
                      refine hhs.mono ?_
                      rintro e60 w60 ⟨rfl, gb60⟩
                      have hb60 := hvx.trans (gb60.mono hvx.size)
                      clear hhs gb60
                      go_wp2_with fail
                      go_ret
                      exact ⟨rfl, hbwx.trans (hb60.mono hbwx.size)⟩
end Go.Proofs.YtmhlbdighceogaaGreat
