/- SheetItems: the law's body. -/
import Derived.Test.YthfpjeeedhahbaaRD
import Derived.Test.YthfpjeeedhahbaaRE
import Derived.Test.YthfpjeeedhahbaaHX
import Derived.Test.YthfpjeeedhahbaaHY
import Derived.Test.YthfpjeeedhahbaaHI
import Derived.Test.YthfpjeeedhahbaaHK
namespace Go.Proofs.Ythfpjeeedhahbaa
set_option linter.unusedVariables false
set_option linter.unusedSimpArgs false
open Go.RowKit

theorem lies_five {W : World} {g : Nat} {ty : TypeId} {z0 z1 z2 z3 z4 : Value} (h : Lies W g ty #[z0, z1, z2, z3, z4]) (u0 u1 u2 u3 u4 : Value) : Lies (((((W.setCell ⟨g, 0, none⟩ u0).setCell ⟨g, 1, none⟩ u1).setCell ⟨g, 2, none⟩ u2).setCell ⟨g, 3, none⟩ u3).setCell ⟨g, 4, none⟩ u4) g ty #[u0, u1, u2, u3, u4] :=
  ((((h.store 0 u0).store 1 u1).store 2 u2).store 3 u3).store 4 u4
theorem cell_five {W : World} {g : Nat} (u0 u1 u2 u3 u4 : Value) {a : Addr} (ha : g ≠ a.block) : (((((W.setCell ⟨g, 0, none⟩ u0).setCell ⟨g, 1, none⟩ u1).setCell ⟨g, 2, none⟩ u2).setCell ⟨g, 3, none⟩ u3).setCell ⟨g, 4, none⟩ u4).cell? a = W.cell? a := by
  rw [World.cell?_setCell_far _ _ _ _ ha, World.cell?_setCell_far _ _ _ _ ha, World.cell?_setCell_far _ _ _ _ ha, World.cell?_setCell_far _ _ _ _ ha, World.cell?_setCell_far _ _ _ _ ha]
theorem below_5s {w0 W : World} {B g : Nat} (hb : Below B w0 W) (hg : B ≤ g) (u0 u1 u2 u3 u4 : Value) : Below B w0 (((((W.setCell ⟨g, 0, none⟩ u0).setCell ⟨g, 1, none⟩ u1).setCell ⟨g, 2, none⟩ u2).setCell ⟨g, 3, none⟩ u3).setCell ⟨g, 4, none⟩ u4) :=
  ((((hb.setCell hg u0).setCell hg u1).setCell hg u2).setCell hg u3).setCell hg u4
theorem items_five {W : World} {g g3 : Nat} {A3 : Option Addr} {c3 : Nat} {l : List (Int × Int)} (h : ItemsAt W (.slice A3 l.length c3) l) (hA : 0 < l.length → A3 = some ⟨g3, 0, none⟩) (hne : 0 < l.length → g ≠ g3) (u0 u1 u2 u3 u4 : Value) : ItemsAt (((((W.setCell ⟨g, 0, none⟩ u0).setCell ⟨g, 1, none⟩ u1).setCell ⟨g, 2, none⟩ u2).setCell ⟨g, 3, none⟩ u3).setCell ⟨g, 4, none⟩ u4) (.slice A3 l.length c3) l := by
  obtain ⟨A', c', b, o, e, hA', hc⟩ := h
  injection e with e1 e2 e3
  subst e1 e3
  refine ⟨_, _, b, o, rfl, hA', fun i hi => ?_⟩
  have h1 := hA' (by omega)
  rw [hA (by omega)] at h1
  injection h1 with h1
  injection h1 with h1 h2
  have h3 := hne (by omega)
  rw [cell_five _ _ _ _ _ (by simp only; omega), cell_five _ _ _ _ _ (by simp only; omega)]
  exact hc i hi
theorem lies_apart2 {W : World} {g g' : Nat} {ty ty' : TypeId} {cs cs' : Array Value} (h : Lies W g ty cs) (h' : Lies W g' ty' cs') (hne : ty ≠ ty') : g ≠ g' := by
  rintro rfl
  unfold Lies at h h'
  rw [h] at h'
  injection h' with h1
  injection h1 with h2 h3
  exact hne h3
/-- An issue that is there, with the block of its items. -/
theorem at_y {vI : Value} {xs : List Iss} {d l : Int} {w : World} (h : RegAt w vI xs) (h0 : layE xs = 0) (hd : d ∈ numbersL xs) (h1 : 1 ≤ l) (h2 : l ≤ lastOfR d 0 xs) : Calls Try.prog 26 #[.agg #[vI], .agg #[.int .i64 d, .int .i64 l]] w fun e w' => ∃ x A3 c3 A4 c4 g3, e = .returned (.tuple #[.agg #[.int .i64 d, .int .i64 l, .int .u8 x.k, .slice A3 x.items.length c3, .slice A4 x.dims.length c4], .int .i64 0]) ∧ ItemsAt w' (.slice A3 x.items.length c3) x.items ∧ (0 < x.items.length → A3 = some ⟨g3, 0, none⟩ ∧ ∃ cur, Lies w' g3 52 cur) ∧ (x ∈ xs ∧ x.d = d ∧ x.l = l) ∧ Below w.heap.size w w' := by
  refine (sAt_any d l h).mono ?_
  intro e w' h3
  obtain ⟨y, x, ee, rfl, hy, haq, hb⟩ := at_yat h3 0 (Nat.zero_le _)
  obtain ⟨h4, rfl, rfl, rfl⟩ := at_has h0 hd h1 h2 haq
  obtain ⟨A3, c3, g3, A4, c4, g4, rfl, h5, h6, h7, -⟩ := hy
  exact ⟨x, A3, c3, A4, c4, g3, rfl, h5, fun h => ⟨(h7 h).2.1, (h7 h).2.2.imp fun _ h => h.1⟩, ⟨h4, rfl, rfl⟩, hb⟩
theorem idx_s {w : World} {v : Value} {zs : List Int} {d : Int} {p : Nat} (h : IntsAt w v zs) (hl : zs.length ≤ 1000) (hp : idxL zs d = p) : Calls Try.prog 60 #[v, .int .i64 d] w fun e w' => e = .returned (.int .i64 (p : Int)) ∧ w = w' := by
  obtain ⟨A, c, b, off, rfl, hA, hc⟩ := h
  have h2 := rIndex_any A c b off zs d w hA hl hc
  rw [hp] at h2
  exact h2
/-- What has been added when i parts of item j have gone. -/
def accL (F : Int × Int → List (Int × Int)) (il : List (Int × Int)) (j i : Nat) : List (Int × Int) := (il.take j).flatMap F ++ (F (il.getD j (0, 0))).take i
theorem acc_get {il : List (Int × Int)} {j : Nat} (hj : j < il.length) : il.getD j (0, 0) = il[j] := by
  rw [List.getD_eq_getElem?_getD, List.getElem?_eq_getElem hj]; rfl
theorem acc_zero (F : Int × Int → List (Int × Int)) (il : List (Int × Int)) : accL F il 0 0 = [] := by simp [accL]
theorem acc_next {F : Int × Int → List (Int × Int)} {il : List (Int × Int)} {j i : Nat} (hj : j < il.length) (hi : i < (F il[j]).length) : accL F il j (i + 1) = accL F il j i ++ [(F il[j])[i]] := by
  unfold accL
  rw [acc_get hj, List.take_succ_eq_append_getElem hi, List.append_assoc]
theorem acc_row {F : Int × Int → List (Int × Int)} {il : List (Int × Int)} {j : Nat} (hj : j < il.length) : accL F il j (F il[j]).length = accL F il (j + 1) 0 := by
  unfold accL
  rw [acc_get hj, List.take_length, List.take_zero, List.append_nil, List.take_succ_eq_append_getElem hj, List.flatMap_append]
  simp
theorem acc_end (F : Int × Int → List (Int × Int)) (il : List (Int × Int)) : accL F il il.length 0 = il.flatMap F := by simp [accL]
theorem sumL_pos {y : Int} : ∀ {b : List (Int × Int)}, (∀ p ∈ b, 0 ≤ p.2) → 0 ≤ sumL b y
  | [], _ => Int.le_refl _
  | p :: r, h => by
    have h1 := sumL_pos (y := y) (b := r) (fun q hq => h q (List.mem_cons_of_mem _ hq))
    have h2 := h p (by simp)
    unfold sumL at *
    rw [List.map_cons, List.sum_cons]
    split <;> omega
theorem sum_mono {a b : List (Int × Int)} (y : Int) (h : ∀ p ∈ b, 0 ≤ p.2) : sumL a y ≤ sumL (a ++ b) y := by
  rw [sumL_app]
  have := sumL_pos (y := y) h
  omega
theorem acc_le {F : Int × Int → List (Int × Int)} {il : List (Int × Int)} {j i : Nat} (hj : j < il.length) (h : ∀ it ∈ il, ∀ p ∈ F it, 0 ≤ p.2) (y : Int) : sumL (accL F il j i) y ≤ sumL (il.flatMap F) y := by
  have h1 : il.flatMap F = accL F il j i ++ ((F il[j]).drop i ++ (il.drop (j + 1)).flatMap F) := by
    conv => lhs; rw [← List.take_append_drop (j + 1) il]
    rw [List.flatMap_append, List.take_succ_eq_append_getElem hj, List.flatMap_append]
    unfold accL
    rw [acc_get hj]
    simp only [List.flatMap_cons, List.flatMap_nil, List.append_nil, List.append_assoc]
    rw [← List.append_assoc (List.take i _), List.take_append_drop]
  rw [h1]
  refine sum_mono y fun p hp => ?_
  rcases List.mem_append.1 hp with hp | hp
  · exact h _ (List.getElem_mem hj) p (List.mem_of_mem_drop hp)
  · obtain ⟨it, hit, h2⟩ := List.mem_flatMap.1 hp
    exact h it (List.mem_of_mem_drop hit) p h2
/-- All cells are as they were. -/
def CK (w w' : World) : Prop := ∀ (a : Addr) (v : Value), w.cell? a = some v → w'.cell? a = some v
theorem CK.refl (w : World) : CK w w := fun _ _ h => h
theorem CK.below {w w1 w2 : World} (h : CK w w1) (hb : Below w1.heap.size w1 w2) : CK w w2 := fun a v e => cell_keep hb (h a v e)
theorem CK.alloc {w w1 : World} (h : CK w w1) (o : Obj) : CK w (w1.alloc o) := fun _ _ e => keep_nw (h _ _ e)
theorem cell_nomap {w : World} {b n m : Nat} {K : Int → Bool} {S : Int → Int} (h : KMap w b n K m S) {a : Addr} {v : Value} (ha : w.cell? a = some v) : a.block ≠ b := by
  intro e
  obtain ⟨D, ⟨es, cl, h1, -⟩, -⟩ := h
  unfold World.cell? at ha
  rw [e, h1] at ha
  split at ha <;> (first | cases ha | (rename_i hq; cases hq))
theorem CK.turned {w w1 w2 : World} {b n m : Nat} {K : Int → Bool} {S : Int → Int} (h : CK w w1) (hm : KMap w1 b n K m S) (ht : w1.mapTurned w2 b) : CK w w2 := fun a v e => by
  rw [cell_turned ht (cell_nomap hm (h a v e))]
  exact h a v e
set_option maxRecDepth 100000 in
set_option maxHeartbeats 16000000 in
theorem items_ready {A : Option Addr} {c b off : Nat} {xs : List Iss} {vi vd : Nat → Value} {vB : Value} {by_ : List Int} (n : Nat) (w : World) (hn : n ≤ 255) (hm : xs.length ≤ 9223372036854775807) (hm2 : ∀ x ∈ xs, x.items.length ≤ 9223372036854775807 ∧ x.dims.length ≤ 9223372036854775807) (hA : 0 < xs.length → A = some ⟨b, off, none⟩) (hc : IssRow w b off xs vi vd) (hB : ByAt w vB by_) (hbl : by_.length ≤ 9223372036854775807) (hr1 : readyB xs = true) :
    Calls Try.prog 11 #[.agg #[.slice A xs.length c], vB, .int .u8 (n : Int)] w fun e w' => e = .returned (.bool true) ∧ Below w.heap.size w w' := by
  obtain ⟨hg1, h01⟩ := ready_parts hr1
  obtain ⟨hlen, hsml⟩ := great_no hg1
  have hr : RegAt w (.slice A xs.length c) xs := ⟨⟨A, c, b, off, rfl, hA, fun i hi => ⟨vi i, vd i, hc i hi⟩⟩, by omega, fun x hx => ⟨by have := (hsml x hx).1; omega, by have := (hsml x hx).2; omega⟩⟩
  have HQ1 := Lib.hid (fun W (hW : Below w.heap.size w W) => ready_any A c b off xs vi vd W hm hm2 hA (hc.after hW))
  rw [hr1] at HQ1
  have hsm := (layE_ok h01).2.2.1
  have hns := numbers_same (layE_ok h01).2.1
  have hps := numbers_strict (layE_ok h01).2.1
  have HLT := Lib.hid (fun W (h1 : RegAt W (.slice A xs.length c) xs) (h2 : ByAt W vB by_) => letters_any h1 h2 h01 hbl)
  have HDR := Lib.hid (fun W (h1 : RegAt W (.slice A xs.length c) xs) => drawing_any n hn h1 h01)
  have HNU := Lib.hid (fun W (h1 : RegAt W (.slice A xs.length c) xs) => rNumbers_v h1)
  rw [hns] at HNU
  have hls := letters_ok h01 hB.2
  have hlp := letters_len xs by_
  have hd := draw_mem h01 n
  have K := kit_of h01 hls
  obtain ⟨p, hp, ⟨hp', hpz⟩, hpi⟩ := idx_spec hd
  obtain ⟨hpl, hl1, hl2⟩ := letter_in h01 hls hd hpi
  have hgp : (lettersF xs by_)[p] = (lettersF xs by_).getD p 0 := by rw [List.getD_eq_getElem?_getD, List.getElem?_eq_getElem hpl]; rfl
  have HAY := Lib.hid (fun W (h1 : RegAt W (.slice A xs.length c) xs) => at_y h1 h01 hd hl1 hl2)
  have HA1 := Lib.hid (fun W z (hz : z ∈ numbersL xs) (h1 : RegAt W (.slice A xs.length c) xs) => at_s h1 h01 hz (Int.le_refl 1) (last_pos h01 hz))
  have htk := fun (x : Iss) (hx : x ∈ xs ∧ x.d = drawF xs n ∧ x.l = (lettersF xs by_).getD p 0) => taken_is h01 hls hd hpi hx.1 hx.2.1 hx.2.2
  have hex : ∀ z ∈ numbersL xs, askE xs (lettersF xs by_) z = 0 ∧ explL xs (lettersF xs by_) z = partsL xs (numbersL xs) (qOf xs (numbersL xs) (lettersF xs by_)) z := fun z hz => by
    have := ask_ok h01 hls hz
    exact ⟨this, by unfold explL; rw [if_pos this]⟩
  have his : ∀ z ∈ numbersL xs, (xs.getD (qOf xs (numbersL xs) (lettersF xs by_) z) zeroI).k = 1 → (xs.getD (qOf xs (numbersL xs) (lettersF xs by_) z) zeroI).items ≠ [] := fun z hz h => by
    rw [K.get hz] at h ⊢
    exact items_some h01 (List.getElem_mem _) h
  have hki : ∀ z ∈ numbersL xs, ∀ x ∈ xs, x.d = z → x.k = (xs.getD (qOf xs (numbersL xs) (lettersF xs by_) z) zeroI).k := fun z hz x hx e => by
    rw [K.get hz]
    exact kind_in (layE_ok h01).2.1 x hx _ (List.getElem_mem _) (by rw [e, K.d_ z hz (K.lt z hz)])
  have hKK := Lib.hid K
  have HNB := Lib.hid (fun z (hz : z ∈ numbersL xs) => numbers_in (layE_ok h01).2.1 z hz)
  have HEL := Lib.hid (fun z => el_len xs (lettersF xs by_) z)
  generalize hdd : drawF xs n = d at *
  generalize hlsd : lettersF xs by_ = ls at *
  generalize hqd : qOf xs (numbersL xs) ls = q at *
  generalize ls.getD p 0 = lt at *
  have HEX := Lib.hid hex
  have HIS := Lib.hid his
  have HKI := Lib.hid hki
  have HTK := Lib.hid htk
  have HPI := Lib.hid hpi
  have HGP := Lib.hid hgp
  have HPS := Lib.hid hps
  have HDZ := Lib.hid hd
  have hpx := (hex d hd).2
  have hax := (hex d hd).1
  obtain ⟨pl, hpe⟩ : ∃ l, explL xs ls d = l := ⟨_, rfl⟩
  have HPE := Lib.hid hpe
  have HAX := Lib.hid hax
  have HPP : Hid (pl = partsL xs (numbersL xs) q d) := Lib.hid (by rw [← hpe]; exact hpx)
  have hpll : pl.length ≤ 20 := by rw [← hpe]; exact HEL.out d
  have hll : ls.length ≤ 20 := by omega
  have hpl2 : (p : Int) < (ls.length : Int) := by omega
  have LB_0 := Lib.hid (Lies.made w 24 #[.slice A xs.length c])
  have RA_0 := Lib.hid (hr.after ((Below.refl _ w).alloc (Nat.le_refl _) (.cells #[.slice A xs.length c] 24)))
  obtain ⟨AB, cB, rfl⟩ := hB.slice
  have RB_0 := Lib.hid (hB.after ((Below.refl _ w).alloc (Nat.le_refl _) (.cells #[.slice A xs.length c] 24)))
  have hb0 : Below w.heap.size w (w.alloc (.cells #[.slice A xs.length c] 24)) := by (repeat' (first | (with_reducible first | exact Below.refl _ _ | assumption | refine Below.alloc ?_ ?_ _ | refine Below.setCell ?_ ?_ _ | refine below_row ?_ ?_ _ | refine Below.drew ?_ | refine below_drewN ?_ _ | refine Below.trans ?_ (Below.mono (by assumption) ?_)) | exact Nat.le_refl _ | omega | (simp; done) | (simp; omega) | exact Below.size (by assumption)))
  clear hA hc hm2 hm hsml hr hg1 h01 hr1 hB hbl hlp hls hns hps K hp' hpz hpi hgp htk hex his hki hpx hax hpe hd hdd hlsd hqd
  go_enter Try.func11, Try.ntmps11
  go_wp2_with fail
  refine (alive_any _).mono ?_
  rintro e1 w1 ⟨rfl, hb⟩
  have hq1 : Below (w.alloc (.cells #[.slice A xs.length c] 24)).heap.size (w.alloc (.cells #[.slice A xs.length c] 24)) w1 := by (repeat' (first | (with_reducible first | exact Below.refl _ _ | assumption | refine Below.alloc ?_ ?_ _ | refine Below.setCell ?_ ?_ _ | refine below_row ?_ ?_ _ | refine Below.drew ?_ | refine below_drewN ?_ _ | refine Below.trans ?_ (Below.mono (by assumption) ?_)) | exact Nat.le_refl _ | omega | (simp; done) | (simp; omega) | exact Below.size (by assumption)))
  have LB_1 := Lib.hid (LB_0.out.after hq1)
  clear LB_0
  have RA_1 := Lib.hid (RA_0.out.after hq1)
  clear RA_0
  have RB_1 := Lib.hid (RB_0.out.after hq1)
  clear RB_0
  have hb1 : Below w.heap.size w w1 := hb0.trans (hq1.mono hb0.size)
  clear hb hq1
  have LBc := LB_1.out.cell 0
  have LBz := LB_1.out.lt
  go_wp2_with fail
  refine (HQ1.out _ (by (repeat' (first | (with_reducible first | exact Below.refl _ _ | assumption | refine Below.alloc ?_ ?_ _ | refine Below.setCell ?_ ?_ _ | refine below_row ?_ ?_ _ | refine Below.drew ?_ | refine below_drewN ?_ _ | refine Below.trans ?_ (Below.mono (by assumption) ?_)) | exact Nat.le_refl _ | omega | (simp; done) | (simp; omega) | exact Below.size (by assumption))))).mono ?_
  rintro e2 w2 ⟨rfl, hb⟩
  have hq2 : Below w1.heap.size w1 w2 := by (repeat' (first | (with_reducible first | exact Below.refl _ _ | assumption | refine Below.alloc ?_ ?_ _ | refine Below.setCell ?_ ?_ _ | refine below_row ?_ ?_ _ | refine Below.drew ?_ | refine below_drewN ?_ _ | refine Below.trans ?_ (Below.mono (by assumption) ?_)) | exact Nat.le_refl _ | omega | (simp; done) | (simp; omega) | exact Below.size (by assumption)))
  clear LBc LBz
  have LB_2 := Lib.hid (LB_1.out.after hq2)
  clear LB_1
  have RA_2 := Lib.hid (RA_1.out.after hq2)
  clear RA_1
  have RB_2 := Lib.hid (RB_1.out.after hq2)
  clear RB_1
  have hb2 : Below w.heap.size w w2 := hb1.trans (hq2.mono hb1.size)
  clear hb hq2
  have LBc := LB_2.out.cell 0
  have LBz := LB_2.out.lt
  go_upto_region 4 with fail
  refine wp_region_held_drew (S := fun W => W.cell? ⟨w.heap.size, 0, none⟩ = some (.slice A xs.length c)) (by kernel_rfl) LBc (fun hHeld => ?_)
  refine take_at (i := 0) (v := ?_) rfl (by kernel_rfl) (by kernel_rfl) (by kernel_rfl) (fun _ _ _ h => h) (Or.inl ⟨by rfl, ?_⟩) (by assumption) ?_
  rotate_left
  · (intro w hSw; (try dsimp only at hSw); go_simp; (try with_reducible rfl))
  try simp only [Act.put, List.setIfInBounds_toArray, List.set_cons_zero, List.set_cons_succ]
  refine take_at (i := 1) (v := ?_) rfl (by kernel_rfl) (by kernel_rfl) (by kernel_rfl) (fun _ _ _ h => h) (Or.inl ⟨by rfl, ?_⟩) (by assumption) ?_
  rotate_left
  · (intro w hSw; (try dsimp only at hSw); go_simp; (try with_reducible rfl))
  try simp only [Act.put, List.setIfInBounds_toArray, List.set_cons_zero, List.set_cons_succ]
  refine take_at (i := 3) (v := ?_) rfl (by kernel_rfl) (by kernel_rfl) (by kernel_rfl) (fun _ _ _ h => h) (Or.inl ⟨by rfl, ?_⟩) (by assumption) ?_
  rotate_left
  · (intro w hSw; (try dsimp only at hSw); go_simp; (try with_reducible rfl))
  try simp only [Act.put, List.setIfInBounds_toArray, List.set_cons_zero, List.set_cons_succ]
  refine take_at (i := 4) (v := ?_) rfl (by kernel_rfl) (by kernel_rfl) (by kernel_rfl) (fun _ _ _ h => h) (Or.inl ⟨by rfl, ?_⟩) (by assumption) ?_
  rotate_left
  · (intro w hSw; (try dsimp only at hSw); go_simp; (try with_reducible rfl))
  try simp only [Act.put, List.setIfInBounds_toArray, List.set_cons_zero, List.set_cons_succ]
  refine wpAnyH_ready (rs := [2]) (by kernel_rfl) (by simp) ?_
  refine cons_at rfl (fun K hK => ?_) AllReadyH.nil
  (first | (go_at_call 57; refine (HLT.out _ (RA_2.out.after (by (repeat' (first | (with_reducible first | exact Below.refl _ _ | assumption | refine Below.alloc ?_ ?_ _ | refine Below.setCell ?_ ?_ _ | refine below_row ?_ ?_ _ | refine Below.drew ?_ | refine below_drewN ?_ _ | refine Below.trans ?_ (Below.mono (by assumption) ?_)) | exact Nat.le_refl _ | omega | (simp; done) | (simp; omega) | exact Below.size (by assumption))))) (RB_2.out.after (by (repeat' (first | (with_reducible first | exact Below.refl _ _ | assumption | refine Below.alloc ?_ ?_ _ | refine Below.setCell ?_ ?_ _ | refine below_row ?_ ?_ _ | refine Below.drew ?_ | refine below_drewN ?_ _ | refine Below.trans ?_ (Below.mono (by assumption) ?_)) | exact Nat.le_refl _ | omega | (simp; done) | (simp; omega) | exact Below.size (by assumption)))))).mono ?_; rintro e3 w3 ⟨AL, cL, rfl, hil, ga3⟩; have hv3 : Below w2.heap.size w2 w3 := (by (repeat' (first | (with_reducible first | exact Below.refl _ _ | assumption | refine Below.alloc ?_ ?_ _ | refine Below.setCell ?_ ?_ _ | refine below_row ?_ ?_ _ | refine Below.drew ?_ | refine below_drewN ?_ _ | refine Below.trans ?_ (Below.mono (by assumption) ?_)) | exact Nat.le_refl _ | omega | (simp; done) | (simp; omega) | exact Below.size (by assumption)))); have LB3 := Lib.hid (LB_2.out.after hv3); have x3 := LB3.out.cell 0; have z3 := LB3.out.lt; have HS3 := Lib.hid hil; clear hil) | (go_simp; go_at_call 57; refine (HLT.out _ (RA_2.out.after (by (repeat' (first | (with_reducible first | exact Below.refl _ _ | assumption | refine Below.alloc ?_ ?_ _ | refine Below.setCell ?_ ?_ _ | refine below_row ?_ ?_ _ | refine Below.drew ?_ | refine below_drewN ?_ _ | refine Below.trans ?_ (Below.mono (by assumption) ?_)) | exact Nat.le_refl _ | omega | (simp; done) | (simp; omega) | exact Below.size (by assumption))))) (RB_2.out.after (by (repeat' (first | (with_reducible first | exact Below.refl _ _ | assumption | refine Below.alloc ?_ ?_ _ | refine Below.setCell ?_ ?_ _ | refine below_row ?_ ?_ _ | refine Below.drew ?_ | refine below_drewN ?_ _ | refine Below.trans ?_ (Below.mono (by assumption) ?_)) | exact Nat.le_refl _ | omega | (simp; done) | (simp; omega) | exact Below.size (by assumption)))))).mono ?_; rintro e3 w3 ⟨AL, cL, rfl, hil, ga3⟩; have hv3 : Below w2.heap.size w2 w3 := (by (repeat' (first | (with_reducible first | exact Below.refl _ _ | assumption | refine Below.alloc ?_ ?_ _ | refine Below.setCell ?_ ?_ _ | refine below_row ?_ ?_ _ | refine Below.drew ?_ | refine below_drewN ?_ _ | refine Below.trans ?_ (Below.mono (by assumption) ?_)) | exact Nat.le_refl _ | omega | (simp; done) | (simp; omega) | exact Below.size (by assumption)))); have LB3 := Lib.hid (LB_2.out.after hv3); have x3 := LB3.out.cell 0; have z3 := LB3.out.lt; have HS3 := Lib.hid hil; clear hil))
  refine hK.out _ _ ?_ (fun hHeld => ?_)
  · exact x3
  clear hK K
  try simp only [Act.put, List.setIfInBounds_toArray, List.set_cons_zero, List.set_cons_succ]
  refine wpAnyH_ready (rs := [5]) (by kernel_rfl) (by simp) ?_
  refine cons_at rfl (fun K hK => ?_) AllReadyH.nil
  (first | (go_at_call 58; refine (HDR.out _ (RA_2.out.after hv3)).mono ?_; rintro e4 w4 ⟨rfl, ga4⟩; have hv4 : Below w2.heap.size w2 w4 := (by (repeat' (first | (with_reducible first | exact Below.refl _ _ | assumption | refine Below.alloc ?_ ?_ _ | refine Below.setCell ?_ ?_ _ | refine below_row ?_ ?_ _ | refine Below.drew ?_ | refine below_drewN ?_ _ | refine Below.trans ?_ (Below.mono (by assumption) ?_)) | exact Nat.le_refl _ | omega | (simp; done) | (simp; omega) | exact Below.size (by assumption)))); have LB4 := Lib.hid (LB_2.out.after hv4); have x4 := LB4.out.cell 0; have z4 := LB4.out.lt) | (go_simp; go_at_call 58; refine (HDR.out _ (RA_2.out.after hv3)).mono ?_; rintro e4 w4 ⟨rfl, ga4⟩; have hv4 : Below w2.heap.size w2 w4 := (by (repeat' (first | (with_reducible first | exact Below.refl _ _ | assumption | refine Below.alloc ?_ ?_ _ | refine Below.setCell ?_ ?_ _ | refine below_row ?_ ?_ _ | refine Below.drew ?_ | refine below_drewN ?_ _ | refine Below.trans ?_ (Below.mono (by assumption) ?_)) | exact Nat.le_refl _ | omega | (simp; done) | (simp; omega) | exact Below.size (by assumption)))); have LB4 := Lib.hid (LB_2.out.after hv4); have x4 := LB4.out.cell 0; have z4 := LB4.out.lt))
  refine hK.out _ _ ?_ (fun hHeld => ?_)
  · exact x4
  clear hK K
  try simp only [Act.put, List.setIfInBounds_toArray, List.set_cons_zero, List.set_cons_succ]
  refine take_at (i := 6) (v := ?_) rfl (by kernel_rfl) (by kernel_rfl) (by kernel_rfl) (fun _ _ _ h => h) (Or.inl ⟨by rfl, ?_⟩) (by assumption) ?_
  rotate_left
  · (intro w hSw; (try dsimp only at hSw); go_simp; (try with_reducible rfl))
  try simp only [Act.put, List.setIfInBounds_toArray, List.set_cons_zero, List.set_cons_succ]
  refine take_at (i := 7) (v := ?_) rfl (by kernel_rfl) (by kernel_rfl) (by kernel_rfl) (fun _ _ _ h => h) (Or.inl ⟨by rfl, ?_⟩) (by assumption) ?_
  rotate_left
  · (intro w hSw; (try dsimp only at hSw); go_simp; (try with_reducible rfl))
  try simp only [Act.put, List.setIfInBounds_toArray, List.set_cons_zero, List.set_cons_succ]
  refine wpAnyH_done (by kernel_rfl) ?_ _
  have hq4 : Below w2.heap.size w2 w4 := hv4
  clear LBc LBz
  have LB_4 := Lib.hid (LB_2.out.after hq4)
  clear LB_2
  have RA_4 := Lib.hid (RA_2.out.after hq4)
  clear RA_2
  have RB_4 := Lib.hid (RB_2.out.after hq4)
  clear RB_2
  have HS_4 := Lib.hid (HS3.out.after ga4)
  have hb4 : Below w.heap.size w w4 := hb2.trans (hq4.mono hb2.size)
  clear hv3 hv4 ga3 ga4 LB3 x3 z3 LB4 x4 z4 HS3 hq4
  clear RB_4
  have LBc := LB_4.out.cell 0
  have LBz := LB_4.out.lt
  go_wp2_with fail
  refine (expl_s RA_4.out HS_4.out (by omega) HAX.out HPE.out).mono ?_
  rintro e5 w5 ⟨A5, c5, rfl, hr, hb⟩
  have hq5 : Below w4.heap.size w4 w5 := by (repeat' (first | (with_reducible first | exact Below.refl _ _ | assumption | refine Below.alloc ?_ ?_ _ | refine Below.setCell ?_ ?_ _ | refine below_row ?_ ?_ _ | refine Below.drew ?_ | refine below_drewN ?_ _ | refine Below.trans ?_ (Below.mono (by assumption) ?_)) | exact Nat.le_refl _ | omega | (simp; done) | (simp; omega) | exact Below.size (by assumption)))
  clear LBc LBz
  have LB_5 := Lib.hid (LB_4.out.after hq5)
  clear LB_4
  have RA_5 := Lib.hid (RA_4.out.after hq5)
  clear RA_4
  have HS_5 := Lib.hid (HS_4.out.after hq5)
  clear HS_4
  have PA_5 := Lib.hid hr
  have hb5 : Below w.heap.size w w5 := hb4.trans (hq5.mono hb4.size)
  clear hr hb hq5
  have hq := HS_5.out
  obtain ⟨A', c', bL, oL, eL, hAL, hcL⟩ := hq
  injection eL with e1 e2 e3
  subst e1 e3
  obtain rfl := hAL (by omega)
  have r5 := hcL p (by omega)
  rw [HGP.out] at r5
  clear hAL hcL
  have x5 := LB_5.out.cell 0
  have z5 := LB_5.out.lt
  go_upto_region 6 with fail
  go_cut [12, 13] (fun s12 s13 wx => ∃ (g : Nat) (x : Iss) (A3 : Option Addr) (c3 : Nat) (A4 : Option Addr) (c4 : Nat), s12 = .pointer (some ⟨g, 0, none⟩) ∧ s13 = .int .i64 0 ∧ Hid (Lies wx g 45 #[.int .i64 d, .int .i64 lt, .int .u8 x.k, .slice A3 x.items.length c3, .slice A4 x.dims.length c4]) ∧ Hid (ItemsAt wx (.slice A3 x.items.length c3) x.items) ∧ (x ∈ xs ∧ x.d = d ∧ x.l = lt) ∧ Below w5.heap.size w5 wx)
  case first =>
    have hv5 : Below w5.heap.size w5 w5 := Below.refl _ _
    refine wp_region_held_drew (S := fun W => W.cell? ⟨w.heap.size, 0, none⟩ = some (.slice A xs.length c) ∧ W.cell? ⟨bL, oL + p, none⟩ = some (.int .i64 lt)) (by kernel_rfl) ⟨x5, r5⟩ (fun hHeld => ?_)
    have hv5d : Below w5.heap.size w5 w5.drew := hv5.drew
    have x5d : w5.drew.cell? ⟨w.heap.size, 0, none⟩ = some (.slice A xs.length c) := x5
    have r5d : w5.drew.cell? ⟨bL, oL + p, none⟩ = some (.int .i64 lt) := r5
    generalize hwd : w5.drew = w5d at *
    refine take_at (i := 0) (v := ?_) rfl (by kernel_rfl) (by kernel_rfl) (by kernel_rfl) (fun _ _ _ h => h) (Or.inl ⟨by rfl, ?_⟩) (by assumption) ?_
    rotate_left
    · (intro w hSw; (try dsimp only at hSw); go_simp; (try with_reducible rfl))
    try simp only [Act.put, List.setIfInBounds_toArray, List.set_cons_zero, List.set_cons_succ]
    refine take_at (i := 1) (v := ?_) rfl (by kernel_rfl) (by kernel_rfl) (by kernel_rfl) (fun _ _ _ h => h) (Or.inl ⟨by rfl, ?_⟩) (by assumption) ?_
    rotate_left
    · (intro w hSw; (try dsimp only at hSw); go_simp; (try with_reducible rfl))
    try simp only [Act.put, List.setIfInBounds_toArray, List.set_cons_zero, List.set_cons_succ]
    refine take_at (i := 2) (v := ?_) rfl (by kernel_rfl) (by kernel_rfl) (by kernel_rfl) (fun _ _ _ h => h) (Or.inl ⟨by rfl, ?_⟩) (by assumption) ?_
    rotate_left
    · (intro w hSw; (try dsimp only at hSw); go_simp; (try with_reducible rfl))
    try simp only [Act.put, List.setIfInBounds_toArray, List.set_cons_zero, List.set_cons_succ]
    refine take_at (i := 3) (v := ?_) rfl (by kernel_rfl) (by kernel_rfl) (by kernel_rfl) (fun _ _ _ h => h) (Or.inl ⟨by rfl, ?_⟩) (by assumption) ?_
    rotate_left
    · (intro w hSw; (try dsimp only at hSw); go_simp; (try with_reducible rfl))
    try simp only [Act.put, List.setIfInBounds_toArray, List.set_cons_zero, List.set_cons_succ]
    refine take_at (i := 5) (v := ?_) rfl (by kernel_rfl) (by kernel_rfl) (by kernel_rfl) (fun _ _ _ h => h) (Or.inl ⟨by rfl, ?_⟩) (by assumption) ?_
    rotate_left
    · (intro w hSw; (try dsimp only at hSw); go_simp; (try with_reducible rfl))
    try simp only [Act.put, List.setIfInBounds_toArray, List.set_cons_zero, List.set_cons_succ]
    refine wpAnyH_ready (rs := [4, 14]) (by kernel_rfl) (by simp) ?_
    refine cons_at rfl (fun K hK => ?_) (cons_at rfl (fun K hK => ?_) AllReadyH.nil)
    · have hvd := hv5d
      (first | (go_at_call 59; refine (HNU.out _ (RA_5.out.after hvd)).mono ?_; rintro e6 w6 ⟨vN, rfl, hoN, gb⟩) | (go_simp; go_at_call 59; refine (HNU.out _ (RA_5.out.after hvd)).mono ?_; rintro e6 w6 ⟨vN, rfl, hoN, gb⟩))
      have hv6 : Below w5.heap.size w5 w6 := hvd.trans (gb.mono hvd.size)
      have x6 := cell_keep gb x5d
      have r6 := cell_keep gb r5d
      have HIX := Lib.hid (fun W (hW : Below w6.heap.size w6 W) => idx_s (ints_of_own (own_after hoN hW)) (by omega) HPI.out)
      refine hK.out _ _ ?_ (fun hHeld => ?_)
      · exact ⟨x6, r6⟩
      clear hK K gb hvd
      try simp only [Act.put, List.setIfInBounds_toArray, List.set_cons_zero, List.set_cons_succ]
      refine wpAnyH_ready (rs := [6, 14]) (by kernel_rfl) (by simp) ?_
      refine cons_at rfl (fun K hK => ?_) (cons_at rfl (fun K hK => ?_) AllReadyH.nil)
      · (first | (go_at_call 60; refine (HIX.out _ (by (repeat' (first | (with_reducible first | exact Below.refl _ _ | assumption | refine Below.alloc ?_ ?_ _ | refine Below.setCell ?_ ?_ _ | refine below_row ?_ ?_ _ | refine Below.drew ?_ | refine below_drewN ?_ _ | refine Below.trans ?_ (Below.mono (by assumption) ?_)) | exact Nat.le_refl _ | omega | (simp; done) | (simp; omega) | exact Below.size (by assumption))))).mono ?_; rintro e7 w7 ⟨rfl, rfl⟩) | (go_simp; go_at_call 60; refine (HIX.out _ (by (repeat' (first | (with_reducible first | exact Below.refl _ _ | assumption | refine Below.alloc ?_ ?_ _ | refine Below.setCell ?_ ?_ _ | refine below_row ?_ ?_ _ | refine Below.drew ?_ | refine below_drewN ?_ _ | refine Below.trans ?_ (Below.mono (by assumption) ?_)) | exact Nat.le_refl _ | omega | (simp; done) | (simp; omega) | exact Below.size (by assumption))))).mono ?_; rintro e7 w7 ⟨rfl, rfl⟩))
        refine hK.out _ _ ?_ (fun hHeld => ?_)
        · exact ⟨x6, r6⟩
        clear hK K
        try simp only [Act.put, List.setIfInBounds_toArray, List.set_cons_zero, List.set_cons_succ]
        refine take_at (i := 7) (v := ?_) rfl (by kernel_rfl) (by kernel_rfl) (by kernel_rfl) (fun _ _ _ h => h) (Or.inl ⟨by rfl, ?_⟩) (by assumption) ?_
        rotate_left
        · (intro w hSw; (try dsimp only at hSw); go_simp; (try with_reducible rfl))
        try simp only [Act.put, List.setIfInBounds_toArray, List.set_cons_zero, List.set_cons_succ]
        refine take_at (i := 8) (v := ?_) rfl (by kernel_rfl) (by kernel_rfl) (by kernel_rfl) (fun _ _ _ h => h) (Or.inl ⟨by rfl, ?_⟩) (by assumption) ?_
        rotate_left
        · (intro w hSw; (try dsimp only at hSw); go_simp; (try with_reducible rfl))
        try simp only [Act.put, List.setIfInBounds_toArray, List.set_cons_zero, List.set_cons_succ]
        refine take_at (i := 9) (v := ?_) rfl (by kernel_rfl) (by kernel_rfl) (by kernel_rfl) (fun _ _ _ h => h) (Or.inl ⟨by rfl, ?_⟩) (by assumption) ?_
        rotate_left
        · (intro w hSw; (try dsimp only at hSw); go_simp; (try with_reducible rfl))
        try simp only [Act.put, List.setIfInBounds_toArray, List.set_cons_zero, List.set_cons_succ]
        refine wpAnyH_ready (rs := [10, 14]) (by kernel_rfl) (by simp) ?_
        refine cons_at rfl (fun K hK => ?_) (cons_at rfl (fun K hK => ?_) AllReadyH.nil)
        · have hvd := hv6
          (first | (go_at_call 26; refine (HAY.out _ (RA_5.out.after hvd)).mono ?_; rintro e8 w8 ⟨x, A3, c3, A4, c4, g3, rfl, hi, hg3, hx, gb⟩) | (go_simp; go_at_call 26; refine (HAY.out _ (RA_5.out.after hvd)).mono ?_; rintro e8 w8 ⟨x, A3, c3, A4, c4, g3, rfl, hi, hg3, hx, gb⟩))
          have hv8 : Below w5.heap.size w5 w8 := hvd.trans (gb.mono hvd.size)
          have x8 := cell_keep gb x6
          have r8 := cell_keep gb r6
          have HI8 := Lib.hid hi
          have HG3 := Lib.hid hg3
          have HGG8 := Lib.hid (fun h => (hg3 h).2)
          refine hK.out _ _ ?_ (fun hHeld => ?_)
          · exact ⟨x8, r8⟩
          clear hK K gb hvd
          try simp only [Act.put, List.setIfInBounds_toArray, List.set_cons_zero, List.set_cons_succ]
          refine take_at (i := 11) (v := ?_) rfl (by kernel_rfl) (by kernel_rfl) (by kernel_rfl) (fun _ _ _ h => h) (Or.inl ⟨by rfl, ?_⟩) (by assumption) ?_
          rotate_left
          · (intro w hSw; (try dsimp only at hSw); go_simp; (try with_reducible rfl))
          try simp only [Act.put, List.setIfInBounds_toArray, List.set_cons_zero, List.set_cons_succ]
          refine take_at (i := 12) (v := ?_) rfl (by kernel_rfl) (by kernel_rfl) (by kernel_rfl) (fun _ _ _ h => h) (Or.inl ⟨by rfl, ?_⟩) (by assumption) ?_
          rotate_left
          · (intro w hSw; (try dsimp only at hSw); go_simp; (try with_reducible rfl))
          try simp only [Act.put, List.setIfInBounds_toArray, List.set_cons_zero, List.set_cons_succ]
          refine take_at (i := 13) (v := ?_) rfl (by kernel_rfl) (by kernel_rfl) (by kernel_rfl) (fun _ _ _ h => h) (Or.inl ⟨by rfl, ?_⟩) (by assumption) ?_
          rotate_left
          · (intro w hSw; (try dsimp only at hSw); go_simp; (try with_reducible rfl))
          try simp only [Act.put, List.setIfInBounds_toArray, List.set_cons_zero, List.set_cons_succ]
          refine wpAnyH_ready (rs := [14]) (by kernel_rfl) (by simp) ?_
          refine cons_at rfl (fun K hK => ?_) AllReadyH.nil
          go_simp
          refine hK.out _ _ ?_ (fun hHeld => ?_)
          · exact ⟨keep_nw x8, keep_nw r8⟩
          clear hK K
          try simp only [Act.put, List.setIfInBounds_toArray, List.set_cons_zero, List.set_cons_succ]
          have x9 := keep_nw (o := .cells #[.int .i64 0, .int .i64 0, .int .u8 0, .slice none 0 0, .slice none 0 0] 45) x8
          have r9 := keep_nw (o := .cells #[.int .i64 0, .int .i64 0, .int .u8 0, .slice none 0 0, .slice none 0 0] 45) r8
          have hv9 : Below w5.heap.size w5 (w8.alloc (.cells #[.int .i64 0, .int .i64 0, .int .u8 0, .slice none 0 0, .slice none 0 0] 45)) := hv8.alloc hv8.size _
          have LZ9 := Lib.hid (Lies.made w8 45 #[.int .i64 0, .int .i64 0, .int .u8 0, .slice none 0 0, .slice none 0 0])
          have hg9 : w5.heap.size ≤ w8.heap.size := hv8.size
          have hq9 : Below w8.heap.size w8 (w8.alloc (.cells #[.int .i64 0, .int .i64 0, .int .u8 0, .slice none 0 0, .slice none 0 0] 45)) := (Below.refl _ _).alloc (Nat.le_refl _) _
          have HI9 := Lib.hid (HI8.out.after ((Below.refl _ w8).alloc (Nat.le_refl _) (.cells #[.int .i64 0, .int .i64 0, .int .u8 0, .slice none 0 0, .slice none 0 0] 45)))
          have HGG9 := Lib.hid (fun h => (HGG8.out h).imp fun _ e => e.alloc (.cells #[.int .i64 0, .int .i64 0, .int .u8 0, .slice none 0 0, .slice none 0 0] 45))
          generalize hw9 : (w8.alloc (.cells #[.int .i64 0, .int .i64 0, .int .u8 0, .slice none 0 0, .slice none 0 0] 45)) = w9 at *
          refine wpAnyH_ready (rs := [15]) (by kernel_rfl) (by simp) ?_
          refine cons_at rfl (fun K hK => ?_) AllReadyH.nil
          have y0 := LZ9.out.cell 0
          have f0 := LZ9.out.free 0
          have y1 := LZ9.out.cell 1
          have f1 := LZ9.out.free 1
          have y2 := LZ9.out.cell 2
          have f2 := LZ9.out.free 2
          have y3 := LZ9.out.cell 3
          have f3 := LZ9.out.free 3
          have y4 := LZ9.out.cell 4
          have f4 := LZ9.out.free 4
          go_simp
          refine hK.out _ _ ?_ (fun hHeld => ?_)
          · exact ⟨(cell_five _ _ _ _ _ (by simp only; have := hg9; omega)).trans x9, (cell_five _ _ _ _ _ (by simp only; have := hg9; have := World.block_lt_of_cell? w5 _ r5; simp only at this; omega)).trans r9⟩
          clear hK K
          try simp only [Act.put, List.setIfInBounds_toArray, List.set_cons_zero, List.set_cons_succ]
          refine take_at (i := 16) (v := ?_) rfl (by kernel_rfl) (by kernel_rfl) (by kernel_rfl) (fun _ _ _ h => h) (Or.inl ⟨by rfl, ?_⟩) (by assumption) ?_
          rotate_left
          · (intro w hSw; (try dsimp only at hSw); go_simp; (try with_reducible rfl))
          try simp only [Act.put, List.setIfInBounds_toArray, List.set_cons_zero, List.set_cons_succ]
          refine wpAnyH_done (by kernel_rfl) ?_ _
          go_wp2_with fail
          go_meet
          exact ⟨_, x, A3, c3, A4, c4, rfl, rfl, Lib.hid (lies_five LZ9.out _ _ _ _ _), Lib.hid (items_five HI9.out (fun h => (HG3.out h).1) (fun h => lies_apart2 LZ9.out (HGG9.out h).choose_spec (by decide)) _ _ _ _ _), hx, below_5s hv9 hg9 _ _ _ _ _⟩
        · go_simp
          refine hK.out _ _ ?_ (fun hHeld => ?_)
          · exact ⟨keep_nw x6, keep_nw r6⟩
          clear hK K
          try simp only [Act.put, List.setIfInBounds_toArray, List.set_cons_zero, List.set_cons_succ]
          have x10 := keep_nw (o := .cells #[.int .i64 0, .int .i64 0, .int .u8 0, .slice none 0 0, .slice none 0 0] 45) x6
          have r10 := keep_nw (o := .cells #[.int .i64 0, .int .i64 0, .int .u8 0, .slice none 0 0, .slice none 0 0] 45) r6
          have hv10 : Below w5.heap.size w5 (w6.alloc (.cells #[.int .i64 0, .int .i64 0, .int .u8 0, .slice none 0 0, .slice none 0 0] 45)) := hv6.alloc hv6.size _
          have LZ10 := Lib.hid (Lies.made w6 45 #[.int .i64 0, .int .i64 0, .int .u8 0, .slice none 0 0, .slice none 0 0])
          have hg10 : w5.heap.size ≤ w6.heap.size := hv6.size
          have hq10 : Below w6.heap.size w6 (w6.alloc (.cells #[.int .i64 0, .int .i64 0, .int .u8 0, .slice none 0 0, .slice none 0 0] 45)) := (Below.refl _ _).alloc (Nat.le_refl _) _
          generalize hw10 : (w6.alloc (.cells #[.int .i64 0, .int .i64 0, .int .u8 0, .slice none 0 0, .slice none 0 0] 45)) = w10 at *
          refine wpAnyH_ready (rs := [10]) (by kernel_rfl) (by simp) ?_
          refine cons_at rfl (fun K hK => ?_) AllReadyH.nil
          have hvd := hv10
          (first | (go_at_call 26; refine (HAY.out _ (RA_5.out.after hvd)).mono ?_; rintro e11 w11 ⟨x, A3, c3, A4, c4, g3, rfl, hi, hg3, hx, gb⟩) | (go_simp; go_at_call 26; refine (HAY.out _ (RA_5.out.after hvd)).mono ?_; rintro e11 w11 ⟨x, A3, c3, A4, c4, g3, rfl, hi, hg3, hx, gb⟩))
          have hv11 : Below w5.heap.size w5 w11 := hvd.trans (gb.mono hvd.size)
          have x11 := cell_keep gb x10
          have r11 := cell_keep gb r10
          have LZ11 := Lib.hid (LZ10.out.after gb)
          have hg11 := hg10
          have HI11 := Lib.hid hi
          have HG3 := Lib.hid hg3
          have HGG11 := Lib.hid (fun h => (hg3 h).2)
          refine hK.out _ _ ?_ (fun hHeld => ?_)
          · exact ⟨x11, r11⟩
          clear hK K gb hvd
          try simp only [Act.put, List.setIfInBounds_toArray, List.set_cons_zero, List.set_cons_succ]
          refine take_at (i := 11) (v := ?_) rfl (by kernel_rfl) (by kernel_rfl) (by kernel_rfl) (fun _ _ _ h => h) (Or.inl ⟨by rfl, ?_⟩) (by assumption) ?_
          rotate_left
          · (intro w hSw; (try dsimp only at hSw); go_simp; (try with_reducible rfl))
          try simp only [Act.put, List.setIfInBounds_toArray, List.set_cons_zero, List.set_cons_succ]
          refine take_at (i := 12) (v := ?_) rfl (by kernel_rfl) (by kernel_rfl) (by kernel_rfl) (fun _ _ _ h => h) (Or.inl ⟨by rfl, ?_⟩) (by assumption) ?_
          rotate_left
          · (intro w hSw; (try dsimp only at hSw); go_simp; (try with_reducible rfl))
          try simp only [Act.put, List.setIfInBounds_toArray, List.set_cons_zero, List.set_cons_succ]
          refine take_at (i := 13) (v := ?_) rfl (by kernel_rfl) (by kernel_rfl) (by kernel_rfl) (fun _ _ _ h => h) (Or.inl ⟨by rfl, ?_⟩) (by assumption) ?_
          rotate_left
          · (intro w hSw; (try dsimp only at hSw); go_simp; (try with_reducible rfl))
          try simp only [Act.put, List.setIfInBounds_toArray, List.set_cons_zero, List.set_cons_succ]
          refine wpAnyH_ready (rs := [15]) (by kernel_rfl) (by simp) ?_
          refine cons_at rfl (fun K hK => ?_) AllReadyH.nil
          have y0 := LZ11.out.cell 0
          have f0 := LZ11.out.free 0
          have y1 := LZ11.out.cell 1
          have f1 := LZ11.out.free 1
          have y2 := LZ11.out.cell 2
          have f2 := LZ11.out.free 2
          have y3 := LZ11.out.cell 3
          have f3 := LZ11.out.free 3
          have y4 := LZ11.out.cell 4
          have f4 := LZ11.out.free 4
          go_simp
          refine hK.out _ _ ?_ (fun hHeld => ?_)
          · exact ⟨(cell_five _ _ _ _ _ (by simp only; have := hg11; omega)).trans x11, (cell_five _ _ _ _ _ (by simp only; have := hg11; have := World.block_lt_of_cell? w5 _ r5; simp only at this; omega)).trans r11⟩
          clear hK K
          try simp only [Act.put, List.setIfInBounds_toArray, List.set_cons_zero, List.set_cons_succ]
          refine take_at (i := 16) (v := ?_) rfl (by kernel_rfl) (by kernel_rfl) (by kernel_rfl) (fun _ _ _ h => h) (Or.inl ⟨by rfl, ?_⟩) (by assumption) ?_
          rotate_left
          · (intro w hSw; (try dsimp only at hSw); go_simp; (try with_reducible rfl))
          try simp only [Act.put, List.setIfInBounds_toArray, List.set_cons_zero, List.set_cons_succ]
          refine wpAnyH_done (by kernel_rfl) ?_ _
          go_wp2_with fail
          go_meet
          exact ⟨_, x, A3, c3, A4, c4, rfl, rfl, Lib.hid (lies_five LZ11.out _ _ _ _ _), Lib.hid (items_five HI11.out (fun h => (HG3.out h).1) (fun h => lies_apart2 LZ11.out (HGG11.out h).choose_spec (by decide)) _ _ _ _ _), hx, below_5s hv11 hg11 _ _ _ _ _⟩
      · go_simp
        refine hK.out _ _ ?_ (fun hHeld => ?_)
        · exact ⟨keep_nw x6, keep_nw r6⟩
        clear hK K
        try simp only [Act.put, List.setIfInBounds_toArray, List.set_cons_zero, List.set_cons_succ]
        have x12 := keep_nw (o := .cells #[.int .i64 0, .int .i64 0, .int .u8 0, .slice none 0 0, .slice none 0 0] 45) x6
        have r12 := keep_nw (o := .cells #[.int .i64 0, .int .i64 0, .int .u8 0, .slice none 0 0, .slice none 0 0] 45) r6
        have hv12 : Below w5.heap.size w5 (w6.alloc (.cells #[.int .i64 0, .int .i64 0, .int .u8 0, .slice none 0 0, .slice none 0 0] 45)) := hv6.alloc hv6.size _
        have LZ12 := Lib.hid (Lies.made w6 45 #[.int .i64 0, .int .i64 0, .int .u8 0, .slice none 0 0, .slice none 0 0])
        have hg12 : w5.heap.size ≤ w6.heap.size := hv6.size
        have hq12 : Below w6.heap.size w6 (w6.alloc (.cells #[.int .i64 0, .int .i64 0, .int .u8 0, .slice none 0 0, .slice none 0 0] 45)) := (Below.refl _ _).alloc (Nat.le_refl _) _
        generalize hw12 : (w6.alloc (.cells #[.int .i64 0, .int .i64 0, .int .u8 0, .slice none 0 0, .slice none 0 0] 45)) = w12 at *
        refine wpAnyH_ready (rs := [6]) (by kernel_rfl) (by simp) ?_
        refine cons_at rfl (fun K hK => ?_) AllReadyH.nil
        (first | (go_at_call 60; refine (HIX.out _ (by (repeat' (first | (with_reducible first | exact Below.refl _ _ | assumption | refine Below.alloc ?_ ?_ _ | refine Below.setCell ?_ ?_ _ | refine below_row ?_ ?_ _ | refine Below.drew ?_ | refine below_drewN ?_ _ | refine Below.trans ?_ (Below.mono (by assumption) ?_)) | exact Nat.le_refl _ | omega | (simp; done) | (simp; omega) | exact Below.size (by assumption))))).mono ?_; rintro e13 w13 ⟨rfl, rfl⟩) | (go_simp; go_at_call 60; refine (HIX.out _ (by (repeat' (first | (with_reducible first | exact Below.refl _ _ | assumption | refine Below.alloc ?_ ?_ _ | refine Below.setCell ?_ ?_ _ | refine below_row ?_ ?_ _ | refine Below.drew ?_ | refine below_drewN ?_ _ | refine Below.trans ?_ (Below.mono (by assumption) ?_)) | exact Nat.le_refl _ | omega | (simp; done) | (simp; omega) | exact Below.size (by assumption))))).mono ?_; rintro e13 w13 ⟨rfl, rfl⟩))
        refine hK.out _ _ ?_ (fun hHeld => ?_)
        · exact ⟨x12, r12⟩
        clear hK K
        try simp only [Act.put, List.setIfInBounds_toArray, List.set_cons_zero, List.set_cons_succ]
        refine take_at (i := 7) (v := ?_) rfl (by kernel_rfl) (by kernel_rfl) (by kernel_rfl) (fun _ _ _ h => h) (Or.inl ⟨by rfl, ?_⟩) (by assumption) ?_
        rotate_left
        · (intro w hSw; (try dsimp only at hSw); go_simp; (try with_reducible rfl))
        try simp only [Act.put, List.setIfInBounds_toArray, List.set_cons_zero, List.set_cons_succ]
        refine take_at (i := 8) (v := ?_) rfl (by kernel_rfl) (by kernel_rfl) (by kernel_rfl) (fun _ _ _ h => h) (Or.inl ⟨by rfl, ?_⟩) (by assumption) ?_
        rotate_left
        · (intro w hSw; (try dsimp only at hSw); go_simp; (try with_reducible rfl))
        try simp only [Act.put, List.setIfInBounds_toArray, List.set_cons_zero, List.set_cons_succ]
        refine take_at (i := 9) (v := ?_) rfl (by kernel_rfl) (by kernel_rfl) (by kernel_rfl) (fun _ _ _ h => h) (Or.inl ⟨by rfl, ?_⟩) (by assumption) ?_
        rotate_left
        · (intro w hSw; (try dsimp only at hSw); go_simp; (try with_reducible rfl))
        try simp only [Act.put, List.setIfInBounds_toArray, List.set_cons_zero, List.set_cons_succ]
        refine wpAnyH_ready (rs := [10]) (by kernel_rfl) (by simp) ?_
        refine cons_at rfl (fun K hK => ?_) AllReadyH.nil
        have hvd := hv12
        (first | (go_at_call 26; refine (HAY.out _ (RA_5.out.after hvd)).mono ?_; rintro e14 w14 ⟨x, A3, c3, A4, c4, g3, rfl, hi, hg3, hx, gb⟩) | (go_simp; go_at_call 26; refine (HAY.out _ (RA_5.out.after hvd)).mono ?_; rintro e14 w14 ⟨x, A3, c3, A4, c4, g3, rfl, hi, hg3, hx, gb⟩))
        have hv14 : Below w5.heap.size w5 w14 := hvd.trans (gb.mono hvd.size)
        have x14 := cell_keep gb x12
        have r14 := cell_keep gb r12
        have LZ14 := Lib.hid (LZ12.out.after gb)
        have hg14 := hg12
        have HI14 := Lib.hid hi
        have HG3 := Lib.hid hg3
        have HGG14 := Lib.hid (fun h => (hg3 h).2)
        refine hK.out _ _ ?_ (fun hHeld => ?_)
        · exact ⟨x14, r14⟩
        clear hK K gb hvd
        try simp only [Act.put, List.setIfInBounds_toArray, List.set_cons_zero, List.set_cons_succ]
        refine take_at (i := 11) (v := ?_) rfl (by kernel_rfl) (by kernel_rfl) (by kernel_rfl) (fun _ _ _ h => h) (Or.inl ⟨by rfl, ?_⟩) (by assumption) ?_
        rotate_left
        · (intro w hSw; (try dsimp only at hSw); go_simp; (try with_reducible rfl))
        try simp only [Act.put, List.setIfInBounds_toArray, List.set_cons_zero, List.set_cons_succ]
        refine take_at (i := 12) (v := ?_) rfl (by kernel_rfl) (by kernel_rfl) (by kernel_rfl) (fun _ _ _ h => h) (Or.inl ⟨by rfl, ?_⟩) (by assumption) ?_
        rotate_left
        · (intro w hSw; (try dsimp only at hSw); go_simp; (try with_reducible rfl))
        try simp only [Act.put, List.setIfInBounds_toArray, List.set_cons_zero, List.set_cons_succ]
        refine take_at (i := 13) (v := ?_) rfl (by kernel_rfl) (by kernel_rfl) (by kernel_rfl) (fun _ _ _ h => h) (Or.inl ⟨by rfl, ?_⟩) (by assumption) ?_
        rotate_left
        · (intro w hSw; (try dsimp only at hSw); go_simp; (try with_reducible rfl))
        try simp only [Act.put, List.setIfInBounds_toArray, List.set_cons_zero, List.set_cons_succ]
        refine wpAnyH_ready (rs := [15]) (by kernel_rfl) (by simp) ?_
        refine cons_at rfl (fun K hK => ?_) AllReadyH.nil
        have y0 := LZ14.out.cell 0
        have f0 := LZ14.out.free 0
        have y1 := LZ14.out.cell 1
        have f1 := LZ14.out.free 1
        have y2 := LZ14.out.cell 2
        have f2 := LZ14.out.free 2
        have y3 := LZ14.out.cell 3
        have f3 := LZ14.out.free 3
        have y4 := LZ14.out.cell 4
        have f4 := LZ14.out.free 4
        go_simp
        refine hK.out _ _ ?_ (fun hHeld => ?_)
        · exact ⟨(cell_five _ _ _ _ _ (by simp only; have := hg14; omega)).trans x14, (cell_five _ _ _ _ _ (by simp only; have := hg14; have := World.block_lt_of_cell? w5 _ r5; simp only at this; omega)).trans r14⟩
        clear hK K
        try simp only [Act.put, List.setIfInBounds_toArray, List.set_cons_zero, List.set_cons_succ]
        refine take_at (i := 16) (v := ?_) rfl (by kernel_rfl) (by kernel_rfl) (by kernel_rfl) (fun _ _ _ h => h) (Or.inl ⟨by rfl, ?_⟩) (by assumption) ?_
        rotate_left
        · (intro w hSw; (try dsimp only at hSw); go_simp; (try with_reducible rfl))
        try simp only [Act.put, List.setIfInBounds_toArray, List.set_cons_zero, List.set_cons_succ]
        refine wpAnyH_done (by kernel_rfl) ?_ _
        go_wp2_with fail
        go_meet
        exact ⟨_, x, A3, c3, A4, c4, rfl, rfl, Lib.hid (lies_five LZ14.out _ _ _ _ _), Lib.hid (items_five HI14.out (fun h => (HG3.out h).1) (fun h => lies_apart2 LZ14.out (HGG14.out h).choose_spec (by decide)) _ _ _ _ _), hx, below_5s hv14 hg14 _ _ _ _ _⟩
    · go_simp
      refine hK.out _ _ ?_ (fun hHeld => ?_)
      · exact ⟨keep_nw x5d, keep_nw r5d⟩
      clear hK K
      try simp only [Act.put, List.setIfInBounds_toArray, List.set_cons_zero, List.set_cons_succ]
      have x15 := keep_nw (o := .cells #[.int .i64 0, .int .i64 0, .int .u8 0, .slice none 0 0, .slice none 0 0] 45) x5d
      have r15 := keep_nw (o := .cells #[.int .i64 0, .int .i64 0, .int .u8 0, .slice none 0 0, .slice none 0 0] 45) r5d
      have hv15 : Below w5.heap.size w5 (w5d.alloc (.cells #[.int .i64 0, .int .i64 0, .int .u8 0, .slice none 0 0, .slice none 0 0] 45)) := hv5d.alloc hv5d.size _
      have LZ15 := Lib.hid (Lies.made w5d 45 #[.int .i64 0, .int .i64 0, .int .u8 0, .slice none 0 0, .slice none 0 0])
      have hg15 : w5.heap.size ≤ w5d.heap.size := hv5d.size
      have hq15 : Below w5d.heap.size w5d (w5d.alloc (.cells #[.int .i64 0, .int .i64 0, .int .u8 0, .slice none 0 0, .slice none 0 0] 45)) := (Below.refl _ _).alloc (Nat.le_refl _) _
      generalize hw15 : (w5d.alloc (.cells #[.int .i64 0, .int .i64 0, .int .u8 0, .slice none 0 0, .slice none 0 0] 45)) = w15 at *
      refine wpAnyH_ready (rs := [4]) (by kernel_rfl) (by simp) ?_
      refine cons_at rfl (fun K hK => ?_) AllReadyH.nil
      have hvd := hv15
      (first | (go_at_call 59; refine (HNU.out _ (RA_5.out.after hvd)).mono ?_; rintro e16 w16 ⟨vN, rfl, hoN, gb⟩) | (go_simp; go_at_call 59; refine (HNU.out _ (RA_5.out.after hvd)).mono ?_; rintro e16 w16 ⟨vN, rfl, hoN, gb⟩))
      have hv16 : Below w5.heap.size w5 w16 := hvd.trans (gb.mono hvd.size)
      have x16 := cell_keep gb x15
      have r16 := cell_keep gb r15
      have LZ16 := Lib.hid (LZ15.out.after gb)
      have hg16 := hg15
      have HIX := Lib.hid (fun W (hW : Below w16.heap.size w16 W) => idx_s (ints_of_own (own_after hoN hW)) (by omega) HPI.out)
      refine hK.out _ _ ?_ (fun hHeld => ?_)
      · exact ⟨x16, r16⟩
      clear hK K gb hvd
      try simp only [Act.put, List.setIfInBounds_toArray, List.set_cons_zero, List.set_cons_succ]
      refine wpAnyH_ready (rs := [6]) (by kernel_rfl) (by simp) ?_
      refine cons_at rfl (fun K hK => ?_) AllReadyH.nil
      (first | (go_at_call 60; refine (HIX.out _ (by (repeat' (first | (with_reducible first | exact Below.refl _ _ | assumption | refine Below.alloc ?_ ?_ _ | refine Below.setCell ?_ ?_ _ | refine below_row ?_ ?_ _ | refine Below.drew ?_ | refine below_drewN ?_ _ | refine Below.trans ?_ (Below.mono (by assumption) ?_)) | exact Nat.le_refl _ | omega | (simp; done) | (simp; omega) | exact Below.size (by assumption))))).mono ?_; rintro e17 w17 ⟨rfl, rfl⟩) | (go_simp; go_at_call 60; refine (HIX.out _ (by (repeat' (first | (with_reducible first | exact Below.refl _ _ | assumption | refine Below.alloc ?_ ?_ _ | refine Below.setCell ?_ ?_ _ | refine below_row ?_ ?_ _ | refine Below.drew ?_ | refine below_drewN ?_ _ | refine Below.trans ?_ (Below.mono (by assumption) ?_)) | exact Nat.le_refl _ | omega | (simp; done) | (simp; omega) | exact Below.size (by assumption))))).mono ?_; rintro e17 w17 ⟨rfl, rfl⟩))
      refine hK.out _ _ ?_ (fun hHeld => ?_)
      · exact ⟨x16, r16⟩
      clear hK K
      try simp only [Act.put, List.setIfInBounds_toArray, List.set_cons_zero, List.set_cons_succ]
      refine take_at (i := 7) (v := ?_) rfl (by kernel_rfl) (by kernel_rfl) (by kernel_rfl) (fun _ _ _ h => h) (Or.inl ⟨by rfl, ?_⟩) (by assumption) ?_
      rotate_left
      · (intro w hSw; (try dsimp only at hSw); go_simp; (try with_reducible rfl))
      try simp only [Act.put, List.setIfInBounds_toArray, List.set_cons_zero, List.set_cons_succ]
      refine take_at (i := 8) (v := ?_) rfl (by kernel_rfl) (by kernel_rfl) (by kernel_rfl) (fun _ _ _ h => h) (Or.inl ⟨by rfl, ?_⟩) (by assumption) ?_
      rotate_left
      · (intro w hSw; (try dsimp only at hSw); go_simp; (try with_reducible rfl))
      try simp only [Act.put, List.setIfInBounds_toArray, List.set_cons_zero, List.set_cons_succ]
      refine take_at (i := 9) (v := ?_) rfl (by kernel_rfl) (by kernel_rfl) (by kernel_rfl) (fun _ _ _ h => h) (Or.inl ⟨by rfl, ?_⟩) (by assumption) ?_
      rotate_left
      · (intro w hSw; (try dsimp only at hSw); go_simp; (try with_reducible rfl))
      try simp only [Act.put, List.setIfInBounds_toArray, List.set_cons_zero, List.set_cons_succ]
      refine wpAnyH_ready (rs := [10]) (by kernel_rfl) (by simp) ?_
      refine cons_at rfl (fun K hK => ?_) AllReadyH.nil
      have hvd := hv16
      (first | (go_at_call 26; refine (HAY.out _ (RA_5.out.after hvd)).mono ?_; rintro e18 w18 ⟨x, A3, c3, A4, c4, g3, rfl, hi, hg3, hx, gb⟩) | (go_simp; go_at_call 26; refine (HAY.out _ (RA_5.out.after hvd)).mono ?_; rintro e18 w18 ⟨x, A3, c3, A4, c4, g3, rfl, hi, hg3, hx, gb⟩))
      have hv18 : Below w5.heap.size w5 w18 := hvd.trans (gb.mono hvd.size)
      have x18 := cell_keep gb x16
      have r18 := cell_keep gb r16
      have LZ18 := Lib.hid (LZ16.out.after gb)
      have hg18 := hg16
      have HI18 := Lib.hid hi
      have HG3 := Lib.hid hg3
      have HGG18 := Lib.hid (fun h => (hg3 h).2)
      refine hK.out _ _ ?_ (fun hHeld => ?_)
      · exact ⟨x18, r18⟩
      clear hK K gb hvd
      try simp only [Act.put, List.setIfInBounds_toArray, List.set_cons_zero, List.set_cons_succ]
      refine take_at (i := 11) (v := ?_) rfl (by kernel_rfl) (by kernel_rfl) (by kernel_rfl) (fun _ _ _ h => h) (Or.inl ⟨by rfl, ?_⟩) (by assumption) ?_
      rotate_left
      · (intro w hSw; (try dsimp only at hSw); go_simp; (try with_reducible rfl))
      try simp only [Act.put, List.setIfInBounds_toArray, List.set_cons_zero, List.set_cons_succ]
      refine take_at (i := 12) (v := ?_) rfl (by kernel_rfl) (by kernel_rfl) (by kernel_rfl) (fun _ _ _ h => h) (Or.inl ⟨by rfl, ?_⟩) (by assumption) ?_
      rotate_left
      · (intro w hSw; (try dsimp only at hSw); go_simp; (try with_reducible rfl))
      try simp only [Act.put, List.setIfInBounds_toArray, List.set_cons_zero, List.set_cons_succ]
      refine take_at (i := 13) (v := ?_) rfl (by kernel_rfl) (by kernel_rfl) (by kernel_rfl) (fun _ _ _ h => h) (Or.inl ⟨by rfl, ?_⟩) (by assumption) ?_
      rotate_left
      · (intro w hSw; (try dsimp only at hSw); go_simp; (try with_reducible rfl))
      try simp only [Act.put, List.setIfInBounds_toArray, List.set_cons_zero, List.set_cons_succ]
      refine wpAnyH_ready (rs := [15]) (by kernel_rfl) (by simp) ?_
      refine cons_at rfl (fun K hK => ?_) AllReadyH.nil
      have y0 := LZ18.out.cell 0
      have f0 := LZ18.out.free 0
      have y1 := LZ18.out.cell 1
      have f1 := LZ18.out.free 1
      have y2 := LZ18.out.cell 2
      have f2 := LZ18.out.free 2
      have y3 := LZ18.out.cell 3
      have f3 := LZ18.out.free 3
      have y4 := LZ18.out.cell 4
      have f4 := LZ18.out.free 4
      go_simp
      refine hK.out _ _ ?_ (fun hHeld => ?_)
      · exact ⟨(cell_five _ _ _ _ _ (by simp only; have := hg18; omega)).trans x18, (cell_five _ _ _ _ _ (by simp only; have := hg18; have := World.block_lt_of_cell? w5 _ r5; simp only at this; omega)).trans r18⟩
      clear hK K
      try simp only [Act.put, List.setIfInBounds_toArray, List.set_cons_zero, List.set_cons_succ]
      refine take_at (i := 16) (v := ?_) rfl (by kernel_rfl) (by kernel_rfl) (by kernel_rfl) (fun _ _ _ h => h) (Or.inl ⟨by rfl, ?_⟩) (by assumption) ?_
      rotate_left
      · (intro w hSw; (try dsimp only at hSw); go_simp; (try with_reducible rfl))
      try simp only [Act.put, List.setIfInBounds_toArray, List.set_cons_zero, List.set_cons_succ]
      refine wpAnyH_done (by kernel_rfl) ?_ _
      go_wp2_with fail
      go_meet
      exact ⟨_, x, A3, c3, A4, c4, rfl, rfl, Lib.hid (lies_five LZ18.out _ _ _ _ _), Lib.hid (items_five HI18.out (fun h => (HG3.out h).1) (fun h => lies_apart2 LZ18.out (HGG18.out h).choose_spec (by decide)) _ _ _ _ _), hx, below_5s hv18 hg18 _ _ _ _ _⟩
  case rest =>
    obtain ⟨g, x, A3, c3, A4, c4, rfl, rfl, HLX, HIT, hx, hbx⟩ := hcut
    obtain ⟨wx, rfl⟩ : ∃ wx : World, wx = wc := ⟨_, rfl⟩
    have hbwx : Below w.heap.size w wx := hb5.trans (hbx.mono hb5.size)
    have htx := HTK.out x hx
    have HB := Lib.hid (fun W (hW : Below wx.heap.size wx W) => And.intro (RA_5.out.after (hbx.trans (hW.mono hbx.size))) (LB_5.out.after (hbx.trans (hW.mono hbx.size))))
    have HSX := Lib.hid (fun W (hW : Below wx.heap.size wx W) => HS_5.out.after (hbx.trans (hW.mono hbx.size)))
    have HPA := Lib.hid (PA_5.out.after hbx)
    have y2 := HLX.out.cell 2
    have y3 := HLX.out.cell 3
    have zx := HLX.out.lt
    clear RA_5 LB_5 HS_5 PA_5 x5 z5 r5 HTK HNU HAY HLT HDR HQ1 HPI HGP
    by_cases hk : x.k = 1
    · have hkx : (x.k != 1) = false := by simp [hk]
      have hkx2 : (x.k == 1) = true := by simp [hk]
      have hil := (hKK.out.itm HDZ.out).1
      have hii := (hKK.out.itm HDZ.out).2.2
      have hcn := cnt_items hKK.out HPS.out HDZ.out (by rw [htx]; exact hk)
      rw [htx] at hil hii hcn
      have HCN : Hid (∀ y, sumL (x.items.flatMap (addF xs (numbersL xs) q)) y = cntP xs q d y) := Lib.hid hcn
      have HPLM : Hid (((numbersL xs).filter fun z => decide (0 < cntP xs q d z)).length = pl.length) := Lib.hid (by rw [HPP.out]; unfold partsL; rw [List.length_map]; rfl)
      have HPM : Hid (∀ y ∈ pl, y.1 ∈ numbersL xs ∧ cntP xs q d y.1 = y.2 ∧ ∀ x' ∈ xs, x'.d = y.1 → x'.k ≠ 1) := Lib.hid (fun y hy => by
        rw [HPP.out] at hy
        obtain ⟨h1, h2, h3⟩ := parts_mem hy
        refine ⟨h1, h2.symm, fun x' hx' e => ?_⟩
        rw [HKI.out _ h1 x' hx' e]
        exact (cnt_in hKK.out HDZ.out (by omega)).2)
      have HOW : Hid (∀ it ∈ x.items, (it.1 ∈ numbersL xs ∧ 1 ≤ it.2 ∧ it.2 ≤ 20) ∧ (askE xs ls it.1 = 0 ∧ explL xs ls it.1 = partsL xs (numbersL xs) q it.1) ∧ 0 < (partsL xs (numbersL xs) q it.1).length ∧ (partsL xs (numbersL xs) q it.1).length ≤ 20 ∧ ∀ p ∈ partsL xs (numbersL xs) q it.1, p.1 ∈ numbersL xs ∧ 0 < p.2 ∧ p.2 ≤ 16777216000000) := Lib.hid (fun it hit => by
        obtain ⟨h1, -⟩ := hii it hit
        have h2 := HEX.out _ h1.1
        refine ⟨h1, h2, parts_some hKK.out HIS.out h1.1, by rw [← h2.2]; exact HEL.out _, fun p hp => ?_⟩
        obtain ⟨h3, h4, h5⟩ := parts_mem hp
        exact ⟨h3, h5, by rw [h4]; exact cnt_le hKK.out h1.1 _⟩)
      have HF0 : Hid (∀ it ∈ x.items, ∀ p ∈ addF xs (numbersL xs) q it, 0 ≤ p.2) := Lib.hid (fun it hit p hp => by
        obtain ⟨p', hp', rfl⟩ := List.mem_map.1 hp
        obtain ⟨h1, -, -, -, h2⟩ := HOW.out it hit
        have h3 := (h2 p' hp').2.1
        exact Int.mul_nonneg (by omega) (by omega))
      have HCL : Hid (∀ y, cntP xs q d y ≤ 16777216000000) := Lib.hid (fun y => cnt_le hKK.out HDZ.out y)
      obtain ⟨A', c', bI, oI, eI, hAI, hcI⟩ := HIT.out
      injection eI with e1 e2 e3
      subst e1 e3
      have HAI := Lib.hid hAI
      have HCI := Lib.hid hcI
      obtain ⟨A', c', bP, oP, eP, hAP, hcP⟩ := HPA.out
      injection eP with e1 e2 e3
      subst e1 e3
      have HAP := Lib.hid hAP
      have HCP := Lib.hid hcP
      have HXK := Lib.hid hk
      clear hAI hcI hAP hcP hii hcn htx HIT HPA HLX HEX HIS HKI HPP hKK hx hk
      generalize x.items = il at *
      generalize hF : addF xs (numbersL xs) q = F at *
      have hFF : ∀ it, F it = (partsL xs (numbersL xs) q it.1).map fun p => (p.1, p.2 * it.2) := fun it => by rw [← hF]; rfl
      have HFF := Lib.hid hFF
      clear hF hFF
      have hmm := @run_makeMap Try.prog
      go_wp2_with fail
      clear hmm
      go_loopw [82] (fun j ws => ∃ (jj nn : Nat), j = .int .i64 jj ∧ jj ≤ il.length ∧ nn ≤ jj * 20 ∧ Hid (CMap ws wx.heap.size nn (numbersL xs) (sumL (accL F il jj 0))) ∧ Below wx.heap.size wx ws) (fun j _ => il.length - (intOf j).toNat)
      case atStart => exact ⟨0, 0, rfl, by omega, by omega, Lib.hid (by rw [acc_zero]; exact CMap.made wx (numbersL xs)), by (repeat' (first | (with_reducible first | exact Below.refl _ _ | assumption | refine Below.alloc ?_ ?_ _ | refine Below.setCell ?_ ?_ _ | refine below_row ?_ ?_ _ | refine Below.drew ?_ | refine below_drewN ?_ _ | refine Below.trans ?_ (Below.mono (by assumption) ?_)) | exact Nat.le_refl _ | omega | (simp; done) | (simp; omega) | exact Below.size (by assumption)))⟩
      case round =>
        obtain ⟨j, nn, rfl, hj, hnn, HM, hb⟩ := hrel
        have hal := HB.out wr hb
        have x6 := hal.2.cell 0
        have z6 := hal.2.lt
        clear hal
        by_cases hjt : j < il.length
        · have kl1 : (j : Int) < (il.length : Int) := by omega
          obtain rfl := HAI.out (by omega)
          have i0 := cell_keep hb (HCI.out j hjt).1
          have i1 := cell_keep hb (HCI.out j hjt).2
          obtain ⟨⟨hz1, hz2, hz3⟩, ⟨ha, he⟩, hl0, hl20, ho1⟩ := HOW.out _ (List.getElem_mem hjt)
          have HN1 : Hid (∀ i (hi : i < (partsL xs (numbersL xs) q il[j].1).length), accL F il j (i + 1) = accL F il j i ++ [((partsL xs (numbersL xs) q il[j].1)[i].1, (partsL xs (numbersL xs) q il[j].1)[i].2 * il[j].2)]) := Lib.hid (fun i hi => by
            rw [acc_next hjt (by rw [HFF.out, List.length_map]; exact hi)]
            congr 2
            simp [HFF.out])
          have HR1 : Hid (accL F il j (partsL xs (numbersL xs) q il[j].1).length = accL F il (j + 1) 0) := Lib.hid (by rw [← acc_row hjt, HFF.out, List.length_map])
          have HL1 : Hid (∀ i y, 0 ≤ sumL (accL F il j i) y ∧ sumL (accL F il j i) y ≤ 16777216000000) := Lib.hid (fun i y => by
            have h1 := acc_le (i := i) hjt HF0.out y
            have h2 := HCN.out y
            have h3 := HCL.out y
            refine ⟨sumL_pos fun p hp => ?_, by omega⟩
            unfold accL at hp
            rw [acc_get hjt] at hp
            rcases List.mem_append.1 hp with hp | hp
            · obtain ⟨it, hit, h4⟩ := List.mem_flatMap.1 hp
              exact HF0.out it (List.mem_of_mem_take hit) p h4
            · exact HF0.out _ (List.getElem_mem hjt) p (List.mem_of_mem_take hp))
          have HO1 := Lib.hid ho1
          have HAE := Lib.hid ha
          have HEE := Lib.hid he
          clear ho1 ha he hz1
          generalize hacc : (fun i => accL F il j i) = acc at *
          have hac : ∀ i, accL F il j i = acc i := fun i => by rw [← hacc]
          simp only [hac] at HN1 HR1 HL1 HM
          generalize partsL xs (numbersL xs) q il[j].1 = ow at *
          generalize il[j] = it at *
          obtain ⟨ia, ic⟩ := it
          simp only at i0 i1 hz2 hz3 HN1 HAE HEE
          clear hac hacc
          have hol : ((ow.length : Int) == 0) = false := by rw [beq_eq_false_iff_ne]; omega
          go_wp2_with fail
          refine (expl_s (HB.out _ (by (repeat' (first | (with_reducible first | exact Below.refl _ _ | assumption | refine Below.alloc ?_ ?_ _ | refine Below.setCell ?_ ?_ _ | refine below_row ?_ ?_ _ | refine Below.drew ?_ | refine below_drewN ?_ _ | refine Below.trans ?_ (Below.mono (by assumption) ?_)) | exact Nat.le_refl _ | omega | (simp; done) | (simp; omega) | exact Below.size (by assumption))))).1 (HSX.out _ (by (repeat' (first | (with_reducible first | exact Below.refl _ _ | assumption | refine Below.alloc ?_ ?_ _ | refine Below.setCell ?_ ?_ _ | refine below_row ?_ ?_ _ | refine Below.drew ?_ | refine below_drewN ?_ _ | refine Below.trans ?_ (Below.mono (by assumption) ?_)) | exact Nat.le_refl _ | omega | (simp; done) | (simp; omega) | exact Below.size (by assumption))))) (by omega) HAE.out HEE.out).mono ?_
          rintro e7 w7 ⟨A7, c7, rfl, hr7, gb7⟩
          have hss := hb.size
          have hv7 : Below wx.heap.size wx w7 := (hb.alloc hss _).trans (gb7.mono (hb.alloc hss _).size)
          have HM7 : Hid (CMap w7 wx.heap.size nn (numbersL xs) (sumL (acc 0))) := Lib.hid (KMap.after (KMap.alloc HM.out _) gb7)
          have k7 := ((Lies.made wr 52 #[.int .i64 ia, .int .i64 ic]).after gb7).cell 1
          have K7 := Lib.hid k7
          obtain ⟨A', c', bO, oO, eO, hAO, hcO⟩ := hr7
          injection eO with e1 e2 e3
          subst e1 e3
          have HAO := Lib.hid hAO
          have HCO := Lib.hid hcO
          clear hAO hcO gb7 k7 HM
          go_wp2_with fail
          go_loopw [103] (fun i ws => ∃ ii : Nat, i = .int .i64 ii ∧ ii ≤ ow.length ∧ Hid (CMap ws wx.heap.size (nn + ii) (numbersL xs) (sumL (acc ii))) ∧ Hid (CK w7 ws) ∧ Below wx.heap.size wx ws) (fun i _ => ow.length - (intOf i).toNat)
          case atStart => exact ⟨0, rfl, by omega, HM7, Lib.hid (CK.refl _), hv7⟩
          case round =>
            obtain ⟨i, rfl, hi, HM2, HCK, hb2⟩ := hrel
            by_cases hit : i < ow.length
            · have kl2 : (i : Int) < (ow.length : Int) := by omega
              obtain rfl := HAO.out (by omega)
              have j0 := HCK.out _ _ (HCO.out i hit).1
              have j1 := HCK.out _ _ (HCO.out i hit).2
              have k1 := HCK.out _ _ K7.out
              have zk1 := World.block_lt_of_cell? _ _ k1
              simp only at zk1
              obtain ⟨hp1, hp2, hp3⟩ := HO1.out _ (List.getElem_mem hit)
              have HN2 := Lib.hid (HN1.out i hit)
              generalize ow[i] = pz at *
              obtain ⟨za, zc⟩ := pz
              simp only at j0 j1 hp1 hp2 hp3 HN2
              have hnz := HNB.out za hp1
              have hNz : NIn za := by unfold NIn; omega
              obtain ⟨hs0, hs1⟩ := HL1.out i za
              have hm0 : 0 < zc * ic := Int.mul_pos hp2 (by omega)
              have hm1 : zc * ic ≤ 16777216000000 * 20 := Int.le_trans (Int.mul_le_mul_of_nonneg_right hp3 (by omega)) (by omega)
              have HMW := Lib.hid (KMap.alloc HM2.out (.cells #[.int .i64 za, .int .i64 zc] 52))
              have hlk := (KMap.imap HMW.out).look hNz
              obtain ⟨sv, hsv⟩ : ∃ sv, sumL (acc i) za = sv := ⟨_, rfl⟩
              rw [hsv] at hs0 hs1 hlk
              have hNv : NIn (sv + zc * ic) := by unfold NIn; omega
              obtain ⟨w9, hrun, hm9, ht9⟩ := CMap.add HMW.out (by omega) HPS.out hp1 hNz hNv (by omega)
              have hck9 : CK w7 w9 := CK.turned (HCK.out.alloc _) HMW.out ht9
              have hb9 : Below wx.heap.size wx w9 := turned_below ht9 (Nat.le_refl _) wx (hb2.alloc hb2.size _) (by have := hb2.size; simp; omega)
              have HM9 : Hid (CMap w9 wx.heap.size (nn + (i + 1)) (numbersL xs) (sumL (acc (i + 1)))) := Lib.hid (by
                have h5 : (fun y => if y = za then sv + zc * ic else sumL (acc i) y) = sumL (acc (i + 1)) := by
                  funext y
                  rw [HN2.out, sumL_app, sumL_one]
                  by_cases e : y = za
                  · subst e; rw [if_pos rfl, if_pos rfl, hsv]
                  · rw [if_neg e, if_neg (fun e2 => e e2.symm)]; omega
                rw [h5] at hm9
                exact hm9)
              have kw1 : IntKind.i64.wrap (zc * ic) = zc * ic := IntWalk.i64_in _ (by omega)
              have kw2 : IntKind.i64.wrap (sv + zc * ic) = sv + zc * ic := IntWalk.i64_in _ (by omega)
              have HC9 := Lib.hid hck9
              clear hck9 hm9 ht9 HMW hsv HM2 HN2 hNv hNz
              go_wp2_with fail
              go_roundw
              case rel => exact ⟨i + 1, by go_num, by omega, HM9, HC9, hb9⟩
              case measure => simp [intOf]; omega
            · have hie : i = ow.length := by omega
              have kl2 : ¬ (i : Int) < (ow.length : Int) := by omega
              have HME : Hid (CMap wr wx.heap.size (nn + ow.length) (numbersL xs) (sumL (accL F il (j + 1) 0))) := Lib.hid (by have := HM2.out; rw [hie, HR1.out] at this; exact this)
              go_wp2_with fail
              go_roundw
              case rel => exact ⟨j + 1, nn + ow.length, by go_num, by omega, by omega, HME, hb2⟩
              case measure => simp [intOf]; omega
        · have hje : j = il.length := by omega
          subst hje
          have HMF : Hid (CMap wr wx.heap.size nn (numbersL xs) (cntP xs q d)) := Lib.hid (by
            have h5 : sumL (accL F il il.length 0) = cntP xs q d := by funext y; rw [acc_end, HCN.out]
            have := HM.out
            rw [h5] at this
            exact this)
          have hln := KMap.len HMF.out 3
          rw [HPLM.out] at hln
          obtain ⟨wz, rfl⟩ : ∃ z, z = wr := ⟨_, rfl⟩
          have hbz : Below wx.heap.size wx wz := hb
          clear HM HOW HF0 HFF
          go_wp2_with fail
          go_loopw [126] (fun i ws => ∃ ii : Nat, i = .int .i64 ii ∧ ii ≤ pl.length ∧ Below wz.heap.size wz ws) (fun i _ => pl.length - (intOf i).toNat)
          case atStart => exact ⟨0, rfl, by omega, by (repeat' (first | (with_reducible first | exact Below.refl _ _ | assumption | refine Below.alloc ?_ ?_ _ | refine Below.setCell ?_ ?_ _ | refine below_row ?_ ?_ _ | refine Below.drew ?_ | refine below_drewN ?_ _ | refine Below.trans ?_ (Below.mono (by assumption) ?_)) | exact Nat.le_refl _ | omega | (simp; done) | (simp; omega) | exact Below.size (by assumption)))⟩
          case round =>
            obtain ⟨i, rfl, hi, hb2⟩ := hrel
            have hvx : Below wx.heap.size wx wr := hbz.trans (hb2.mono hbz.size)
            by_cases hit : i < pl.length
            · have kl2 : (i : Int) < (pl.length : Int) := by omega
              obtain rfl := HAP.out (by omega)
              have j0 := cell_keep hvx (HCP.out i hit).1
              have j1 := cell_keep hvx (HCP.out i hit).2
              have hal := HB.out wr hvx
              have x7 := hal.2.cell 0
              have z7 := hal.2.lt
              obtain ⟨hp1, hp2, hp3⟩ := HPM.out _ (List.getElem_mem hit)
              have HP3 := Lib.hid hp3
              have hat := HA1.out _ _ hp1 (HB.out _ (hvx.alloc hvx.size (.cells #[.int .i64 (pl[i].1), .int .i64 (pl[i].2)] 52))).1
              have hnz := HNB.out _ hp1
              clear hp3 hal hp1
              generalize pl[i] = pz at *
              obtain ⟨za, zc⟩ := pz
              simp only at j0 j1 hp2 HP3 hat hnz
              have hNz : NIn za := by unfold NIn; omega
              go_wp2_with fail
              refine hat.mono ?_
              rintro e8 w8 ⟨x8, A8, c8, A9, c9, rfl, -, -, hx8, gb8⟩
              have hs2 := hb2.size
              have hv8 : Below wz.heap.size wz w8 := (hb2.alloc hs2 _).trans (gb8.mono (hb2.alloc hs2 _).size)
              have hlk := (KMap.imap (KMap.alloc (KMap.after HMF.out hv8) (.cells #[.int .i64 za, .int .i64 1, .int .u8 x8.k, .slice A8 x8.items.length c8, .slice A9 x8.dims.length c9] 45))).look hNz
              rw [hp2] at hlk
              have hk8 : (x8.k == 1) = false := by rw [beq_eq_false_iff_ne]; exact HP3.out x8 hx8.1 hx8.2.1
              have k8 := ((Lies.made wr 52 #[.int .i64 za, .int .i64 zc]).after gb8).cell 0
              have k9 := ((Lies.made wr 52 #[.int .i64 za, .int .i64 zc]).after gb8).cell 1
              have zk := ((Lies.made wr 52 #[.int .i64 za, .int .i64 zc]).after gb8).lt
              clear gb8 hat HP3
              go_wp2_with fail
              go_roundw
              case rel => exact ⟨i + 1, by go_num, by omega, hv8.alloc hv8.size _⟩
              case measure => simp [intOf]; omega
            · have kl2 : ¬ (i : Int) < (pl.length : Int) := by omega
              go_wp2_with fail
              go_ret
              exact ⟨rfl, hbwx.trans (hvx.mono hbwx.size)⟩
    · have hkx : (x.k != 1) = true := by simp [hk]
      have hkx2 : (x.k == 1) = false := by simp [hk]
      have HPL1 : Hid (pl = [(d, 1)]) := Lib.hid (by rw [HPP.out]; exact parts_one hKK.out HPS.out HDZ.out (by rw [htx]; exact hk))
      clear HEX HIS HKI HPP hKK
      go_wp2_with fail
      refine (item_any d 1 _).mono ?_
      rintro e7 w7 ⟨rfl, gb7⟩
      have hv7 : Below wx.heap.size wx w7 := by (repeat' (first | (with_reducible first | exact Below.refl _ _ | assumption | refine Below.alloc ?_ ?_ _ | refine Below.setCell ?_ ?_ _ | refine below_row ?_ ?_ _ | refine Below.drew ?_ | refine below_drewN ?_ _ | refine Below.trans ?_ (Below.mono (by assumption) ?_)) | exact Nat.le_refl _ | omega | (simp; done) | (simp; omega) | exact Below.size (by assumption)))
      have hcs := rSameItems_v (HPA.out.after (hv7.alloc hv7.size (.cells #[.int .i64 d, .int .i64 1] 52))) (items_lies (c := 1) (l := [(d, 1)]) (Lies.made w7 52 #[.int .i64 d, .int .i64 1]) rfl) (by omega) (by simp)
      rw [decide_eq_true HPL1.out] at hcs
      go_wp2_with fail
      refine hcs.mono ?_
      rintro e8 w8 ⟨rfl, gb8⟩
      have hv8 : Below wx.heap.size wx w8 := (hv7.alloc hv7.size _).trans (gb8.mono (hv7.alloc hv7.size _).size)
      go_wp2_with fail
      go_ret
      exact ⟨rfl, hbwx.trans (hv8.mono hbwx.size)⟩
end Go.Proofs.Ythfpjeeedhahbaa
