/- Differ. -/
import Derived.Test.YtkjfceajakhlfaaUG
import Derived.Test.YtkjfceajakhlfaaUD
import Derived.Test.YtkjfceajakhlfaaUB
import Derived.Deep.RegionLaw
namespace Go.Proofs.Ytkjfceajakhlfaa
set_option linter.unusedVariables false
set_option linter.unusedSimpArgs false
open Go.RowKit

theorem infoChange : (Try.prog.info? 110).map (fun i => (i.zero, i.size, i.bytes)) = some (some (.agg #[.int .i64 0, .int .i64 0, .int .i64 0]), 3, 24) := by kernel_rfl
theorem changes_of_own {w : World} {base : Nat} {v : Value} {l : List D3} (h : w.ownsRow base 110 3 v l.length (cellsS l)) : ChangesAt w v l := by
  obtain ⟨A, c, g, hv, hc⟩ := own_form h
  refine ⟨A, c, g, 0, hv, fun h0 => (hc h0).2.1, fun i hi => ?_⟩
  obtain ⟨-, -, cur, hl, hcur⟩ := hc (by omega)
  rw [Nat.zero_add, hl.cell, hl.cell, hl.cell, hcur _ (by omega), hcur _ (by omega), hcur _ (by omega)]
  exact cellsS_at hi
theorem changes_nil (w : World) : ChangesAt w (.slice none 0 0) [] := ⟨none, 0, 0, 0, rfl, fun h => absurd h (by simp), fun i h => absurd h (by simp)⟩
/-- How often drawings are items of two issues, where they differ. -/
def changesL (zs : List Int) (ca cb : Int → Int) : List D3 := (zs.filter fun z => decide (ca z ≠ cb z)).map fun z => (z, ca z, cb z)
def chgI (zs : List Int) (ca cb : Int → Int) (i : Int) : D3 := (zs.getD i.toNat 0, ca (zs.getD i.toNat 0), cb (zs.getD i.toNat 0))
theorem getD_lt {zs : List Int} {p : Nat} (h : p < zs.length) : zs.getD p 0 = zs[p] := by rw [List.getD_eq_getElem?_getD, List.getElem?_eq_getElem h]; rfl
theorem diff_mem {zs : List Int} {ca cb : Int → Int} {i : Int} (h : i ∈ diffL (zs.map ca) (zs.map cb)) : ∃ p : Nat, p < zs.length ∧ i = p := by
  unfold diffL diffJ at h
  obtain ⟨p, hp, rfl⟩ := List.mem_map.1 h
  have := (List.mem_filter.1 hp).1
  rw [List.mem_range] at this
  simp at this
  exact ⟨p, this, rfl⟩
theorem diff_changes (zs : List Int) (ca cb : Int → Int) : (diffL (zs.map ca) (zs.map cb)).map (chgI zs ca cb) = changesL zs ca cb := by
  unfold diffL diffJ changesL
  have hr : zs = (List.range zs.length).map fun p => zs.getD p 0 := by
    apply List.ext_getElem
    · simp
    · intro i h1 h2
      rw [List.getElem_map, List.getElem_range, getD_lt h1]
  conv => rhs; rw [hr]
  rw [List.filter_map, List.map_map, List.map_map]
  have hm : max (zs.map ca).length (zs.map cb).length = zs.length := by simp
  rw [hm]
  have hf : (List.range zs.length).filter (fun i => decide ((zs.map ca)[i]? ≠ (zs.map cb)[i]?)) = (List.range zs.length).filter ((fun z => decide (ca z ≠ cb z)) ∘ fun p => zs.getD p 0) := by
    apply List.filter_congr
    intro p hp
    rw [List.mem_range] at hp
    simp only [Function.comp, List.getElem?_map, List.getElem?_eq_getElem hp, Option.map_some, getD_lt hp]
    simp
  rw [hf]
  apply List.map_congr_left
  intro p hp
  simp [chgI]
/-- What Differ tells. -/
def differE (xs : List Iss) (d f t : Int) : List D3 × List Int × Int :=
  if layE xs ≠ 0 then ([], [], layE xs) else if (hasN xs d f && hasN xs d t) = true then
    (changesL (numbersL xs) (countI (xs.getD (idxN xs d f) zeroI).items) (countI (xs.getD (idxN xs d t) zeroI).items), diffL (xs.getD (idxN xs d f) zeroI).dims (xs.getD (idxN xs d t) zeroI).dims, 0) else ([], [], 6)
def DifferP (r : List D3 × List Int × Int) (w : World) (e : Ending) (w' : World) : Prop := ∃ v u, e = .returned (.tuple #[v, u, .int .i64 r.2.2]) ∧ ChangesAt w' v r.1 ∧ IntsAt w' u r.2.1 ∧ Below w.heap.size w w'
theorem diffS_v {w : World} {u v : Value} {a b : List D3} (h1 : DimsAt w u a) (h2 : DimsAt w v b) (hla : a.length ≤ 1000) (hlb : b.length ≤ 1000) : Calls Try.prog 91 #[u, v, .func (.func 92) #[] #[]] w fun e w' => ∃ v, e = .returned v ∧ w'.ownsRow w.heap.size 3 1 v (diffL a b).length (cellsN (diffL a b)) ∧ Below w.heap.size w w' := by
  obtain ⟨A, cA, bA, oA, rfl, hA, hc⟩ := h1
  obtain ⟨B, cB, bB, oB, rfl, hB, hd⟩ := h2
  exact diffS_any A B cA bA oA cB bB oB a b w hla hlb hA hc hB hd
theorem diffN_v {w : World} {u v : Value} {a b : List Int} (h1 : IntsAt w u a) (h2 : IntsAt w v b) (hla : a.length ≤ 1000) (hlb : b.length ≤ 1000) : Calls Try.prog 89 #[u, v, .func (.func 90) #[] #[]] w fun e w' => ∃ v, e = .returned v ∧ w'.ownsRow w.heap.size 3 1 v (diffL a b).length (cellsN (diffL a b)) ∧ Below w.heap.size w w' := by
  obtain ⟨A, cA, bA, oA, rfl, hA, hc⟩ := h1
  obtain ⟨B, cB, bB, oB, rfl, hB, hd⟩ := h2
  exact diffN_any A B cA bA oA cB bB oB a b w hla hlb hA hc hB hd
theorem ints_of_lies {w : World} {g : Nat} {l : List Int} {n : Nat} (h : Lies w g 3 (rowN l)) (hn : n = l.length) : IntsAt w (.slice (some ⟨g, 0, none⟩) n n) l := by
  subst hn
  exact ⟨some ⟨g, 0, none⟩, l.length, g, 0, rfl, fun _ => rfl, h.ints⟩
theorem diffJ_lt {α : Type} [DecidableEq α] (a b : List α) : (diffL a b).length ≤ max a.length b.length := diffJ_le a b _

set_option maxRecDepth 100000 in
set_option maxHeartbeats 16000000 in
theorem sDiffer_any {vI : Value} {xs : List Iss} {w : World} (d f t : Int) (h : RegAt w vI xs) : Calls Try.prog 43 #[.agg #[vI], .int .i64 d, .int .i64 f, .int .i64 t] w (DifferP (differE xs d f t) w) := by
  have HRG := Lib.hid (fun W (hW : Below w.heap.size w W) => h.after hW)
  obtain ⟨A, c, b, off, vi, vd, rfl, hA, hc⟩ := h.at_.row
  have hlen := h.len
  have HSM := Lib.hid (fun x hx => (h.small x hx))
  unfold differE
  by_cases h0 : layE xs = 0
  · have HL := Lib.hid (fun W hW => lay_yes (HRG.out W hW) h0)
    obtain ⟨-, h2, h3, h4, -, -⟩ := layE_ok h0
    have hst := numbers_strict h2
    have HF := Lib.hid (fun (vN vD : Value) l W (hW : Below w.heap.size w W) => find_any A c b off vN vD xs vi vd d l W hlen (right_sorted h2) hA (hc.after hW))
    have HFY := Lib.hid (fun vN vD l hh W hW => (HF.out vN vD l W hW).mono (fun e w' h => h.yes hh))
    have HFN := Lib.hid (fun vN vD l hh W hW => (HF.out vN vD l W hW).mono (fun e w' h => h.no hh))
    rw [if_neg (by simpa using h0)]
    have hz20 : (numbersL xs).length ≤ 1000 := by omega
    by_cases hf : hasN xs d f = true
    · have HF1 := Lib.hid (fun vN vD W hW => HFY.out vN vD f hf W hW)
      obtain ⟨⟨A1, n1, c1, hv1⟩, A2, n2, c2, hv2⟩ := hc.slices (of_decide_eq_true hf)
      by_cases ht : hasN xs d t = true
      · have HF2 := Lib.hid (fun vN vD W hW => HFY.out vN vD t ht W hW)
        obtain ⟨⟨B1, m1, e1, hu1⟩, B2, m2, e2, hu2⟩ := hc.slices (of_decide_eq_true ht)
        rw [if_pos (by rw [hf, ht]; rfl)]
        have hqf : idxN xs d f < xs.length := of_decide_eq_true hf
        have hqt : idxN xs d t < xs.length := of_decide_eq_true ht
        have hif := (hc _ hqf).2.2.2.2.2.2
        have hit := (hc _ hqt).2.2.2.2.2.2
        rw [hv1, hv2] at hif
        rw [hu1, hu2] at hit
        rw [← getD_at hqf] at hif
        rw [← getD_at hqt] at hit
        have HIF := Lib.hid (fun W (hW : Below w.heap.size w W) => And.intro (hif.1.after hW) (hif.2.1.after hW))
        have HIT := Lib.hid (fun W (hW : Below w.heap.size w W) => And.intro (hit.1.after hW) (hit.2.1.after hW))
        have hrf := right_items h2 h4 (List.getElem_mem hqf)
        have hrt := right_items h2 h4 (List.getElem_mem hqt)
        rw [← getD_at hqf] at hrf
        rw [← getD_at hqt] at hrt
        have hdf := (HSM.out _ (List.getElem_mem hqf)).2
        have hdt := (HSM.out _ (List.getElem_mem hqt)).2
        rw [← getD_at hqf] at hdf
        rw [← getD_at hqt] at hdt
        rw [hv1, hv2] at HF1
        rw [hu1, hu2] at HF2
        have HRF := Lib.hid hrf
        have HRT := Lib.hid hrt
        have HST := Lib.hid hst
        obtain ⟨i0, hi0, hz0, hz1, hz2⟩ := info_parts infoChange
        clear h0 h2 h3 h4 hst HF HFY HFN h hA hc hf ht hqf hqt hif hit hrf hrt hv1 hv2 hu1 hu2 HRG HSM
        generalize xs.getD (idxN xs d f) zeroI = x at *
        generalize xs.getD (idxN xs d t) zeroI = y at *
        unfold DeskAt at HL
        have HCL : Hid (∃ cs, chainsL xs (numbersL xs) = cs) := Lib.hid ⟨_, rfl⟩
        obtain ⟨cs, hcs⟩ := HCL.out
        rw [hcs] at HL
        clear hcs HCL
        generalize numbersL xs = zs at *
        have HDC := Lib.hid (diff_changes zs (countI x.items) (countI y.items))
        have HDM := Lib.hid (fun i hi => diff_mem (zs := zs) (ca := countI x.items) (cb := countI y.items) (i := i) hi)
        obtain ⟨RR, hRR⟩ : ∃ RR : List D3 × List Int × Int, (changesL zs (countI x.items) (countI y.items), diffL x.dims y.dims, (0 : Int)) = RR := ⟨_, rfl⟩
        rw [hRR]
        have HRR := Lib.hid hRR
        clear hRR
        go_enter Try.func43, Try.ntmps43
        go_wp2_with fail
        refine (HL.out _ (by (repeat' (first | (with_reducible first | exact Below.refl _ _ | assumption | refine Below.alloc ?_ ?_ _ | refine Below.setCell ?_ ?_ _ | refine below_row ?_ ?_ _ | refine Below.drew ?_ | refine below_drewN ?_ _ | refine Below.trans ?_ (Below.mono (by assumption) ?_)) | exact Nat.le_refl _ | omega | (simp; done) | (simp; omega) | exact Below.size (by assumption))))).mono ?_
        rintro e w1 ⟨⟨vN, vD, rfl, hN, hD⟩, hb1⟩
        have s1 := hb1.size; try simp only [World.size_alloc, World.size_setCell, World.size_drew, setRow_size] at s1
        have HI1 := Lib.hid (fun W (hW : Below w1.heap.size w1 W) => hN.after hW)
        obtain ⟨AN, cN, bN, oN, rfl, hAN, hcN⟩ := hN
        obtain ⟨AD, cD, rfl⟩ := hD.slice
        have HAN := Lib.hid hAN
        have HCN := Lib.hid (fun W (hW : Below w1.heap.size w1 W) i (h : i < zs.length) => cell_keep hW (hcN i h))
        have hbw1 : Below w.heap.size w w1 := by (repeat' (first | (with_reducible first | exact Below.refl _ _ | assumption | refine Below.alloc ?_ ?_ _ | refine Below.setCell ?_ ?_ _ | refine below_row ?_ ?_ _ | refine Below.drew ?_ | refine below_drewN ?_ _ | refine Below.trans ?_ (Below.mono (by assumption) ?_)) | exact Nat.le_refl _ | omega | (simp; done) | (simp; omega) | exact Below.size (by assumption)))
        have hs1 := hbw1.size
        have LD1 := Lib.hid (Lies.made w1 118 #[.slice A xs.length c, .slice AN zs.length cN, .slice AD cs.length cD])
        clear hD hb1 HL hAN hcN
        go_wp2_with fail
        refine (HF1.out _ _ _ (by (repeat' (first | (with_reducible first | exact Below.refl _ _ | assumption | refine Below.alloc ?_ ?_ _ | refine Below.setCell ?_ ?_ _ | refine below_row ?_ ?_ _ | refine Below.drew ?_ | refine below_drewN ?_ _ | refine Below.trans ?_ (Below.mono (by assumption) ?_)) | exact Nat.le_refl _ | omega | (simp; done) | (simp; omega) | exact Below.size (by assumption))))).mono ?_
        rintro e w2 ⟨rfl, hb2⟩
        have s2 := hb2.size; try simp only [World.size_alloc, World.size_setCell, World.size_drew, setRow_size] at s2
        have LD2 := Lib.hid ((LD1.out.after hb2).alloc (.cells #[.int .i64 x.d, .int .i64 x.l, .int .u8 x.k, .slice A1 n1 c1, .slice A2 n2 c2] 45))
        have LX2 := Lib.hid (Lies.made w2 45 #[.int .i64 x.d, .int .i64 x.l, .int .u8 x.k, .slice A1 n1 c1, .slice A2 n2 c2])
        have e0 := LD2.out.cell 0
        have e1' := LD2.out.cell 1
        have e2' := LD2.out.cell 2
        have ze := LD2.out.lt
        have hb12 : Below w1.heap.size w1 w2 := by (repeat' (first | (with_reducible first | exact Below.refl _ _ | assumption | refine Below.alloc ?_ ?_ _ | refine Below.setCell ?_ ?_ _ | refine below_row ?_ ?_ _ | refine Below.drew ?_ | refine below_drewN ?_ _ | refine Below.trans ?_ (Below.mono (by assumption) ?_)) | exact Nat.le_refl _ | omega | (simp; done) | (simp; omega) | exact Below.size (by assumption)))
        have hbw2 : Below w.heap.size w w2 := by (repeat' (first | (with_reducible first | exact Below.refl _ _ | assumption | refine Below.alloc ?_ ?_ _ | refine Below.setCell ?_ ?_ _ | refine below_row ?_ ?_ _ | refine Below.drew ?_ | refine below_drewN ?_ _ | refine Below.trans ?_ (Below.mono (by assumption) ?_)) | exact Nat.le_refl _ | omega | (simp; done) | (simp; omega) | exact Below.size (by assumption)))
        have hs2 := hbw2.size
        clear hb2 HF1 LD1
        go_wp2_with fail
        refine (HF2.out _ _ _ (by (repeat' (first | (with_reducible first | exact Below.refl _ _ | assumption | refine Below.alloc ?_ ?_ _ | refine Below.setCell ?_ ?_ _ | refine below_row ?_ ?_ _ | refine Below.drew ?_ | refine below_drewN ?_ _ | refine Below.trans ?_ (Below.mono (by assumption) ?_)) | exact Nat.le_refl _ | omega | (simp; done) | (simp; omega) | exact Below.size (by assumption))))).mono ?_
        rintro e w3 ⟨rfl, hb3⟩
        have s3 := hb3.size; try simp only [World.size_alloc, World.size_setCell, World.size_drew, setRow_size] at s3
        have LD3 := Lib.hid ((LD2.out.after hb3).alloc (.cells #[.int .i64 y.d, .int .i64 y.l, .int .u8 y.k, .slice B1 m1 e1, .slice B2 m2 e2] 45))
        have LX3 := Lib.hid ((LX2.out.after hb3).alloc (.cells #[.int .i64 y.d, .int .i64 y.l, .int .u8 y.k, .slice B1 m1 e1, .slice B2 m2 e2] 45))
        have LY3 := Lib.hid (Lies.made w3 45 #[.int .i64 y.d, .int .i64 y.l, .int .u8 y.k, .slice B1 m1 e1, .slice B2 m2 e2])
        have hb13 : Below w1.heap.size w1 w3 := (hb12.alloc hb12.size _).trans (hb3.mono (by simp; have := hb12.size; omega))
        have hbw3 : Below w.heap.size w w3 := hbw1.trans (hb13.mono hs1)
        have hs3 := hbw3.size
        clear hb3 HF2 LD2 LX2 e0 e1' e2' ze
        go_upto_region 8 with fail
        obtain ⟨wA, hWA⟩ : ∃ W, w3.alloc (.cells #[.int .i64 y.d, .int .i64 y.l, .int .u8 y.k, .slice B1 m1 e1, .slice B2 m2 e2] 45) = W := ⟨_, rfl⟩
        have hbA1 : Below w1.heap.size w1 wA := by rw [← hWA]; exact hb13.alloc hb13.size _
        have hbwA : Below w.heap.size w wA := hbw1.trans (hbA1.mono hs1)
        have hsA := hbwA.size
        rw [hWA] at LD3 LX3 LY3 ⊢
        clear hWA hbw3 hs3 hb13 hbw2 hs2 hb12 s2 s3
        have hlt1 := LD3.out.lt
        have hlt2 := LX3.out.lt
        have hlt3 := LY3.out.lt
        have HALL := Lib.hid (fun W (hW : Below wA.heap.size wA W) => And.intro (LD3.out.after hW) (And.intro (LX3.out.after hW) (LY3.out.after hW)))
        have HCX := Lib.hid (fun W (hW : Below wA.heap.size wA W) => counts_any (.slice A xs.length c) (.slice AD cs.length cD) x (.slice A1 n1 c1) (.slice A2 n2 c2) zs W ⟨_, _, _, rfl⟩ ⟨_, _, _, rfl⟩ (HI1.out W (hbA1.trans (hW.mono hbA1.size))) HST.out hz20 HRF.out.1 HRF.out.2.1 HRF.out.2.2 (HIF.out W (hbwA.trans (hW.mono hsA))).1 ⟨_, _, _, rfl⟩)
        have HCY := Lib.hid (fun W (hW : Below wA.heap.size wA W) => counts_any (.slice A xs.length c) (.slice AD cs.length cD) y (.slice B1 m1 e1) (.slice B2 m2 e2) zs W ⟨_, _, _, rfl⟩ ⟨_, _, _, rfl⟩ (HI1.out W (hbA1.trans (hW.mono hbA1.size))) HST.out hz20 HRT.out.1 HRT.out.2.1 HRT.out.2.2 (HIT.out W (hbwA.trans (hW.mono hsA))).1 ⟨_, _, _, rfl⟩)
        have hallA := HALL.out wA (Below.refl _ _)
        have mAd0 := hallA.1.cell 0
        have mAd1 := hallA.1.cell 1
        have mAd2 := hallA.1.cell 2
        have mAx0 := hallA.2.1.cell 0
        have mAx1 := hallA.2.1.cell 1
        have mAx2 := hallA.2.1.cell 2
        have mAx3 := hallA.2.1.cell 3
        have mAx4 := hallA.2.1.cell 4
        have mAy0 := hallA.2.2.cell 0
        have mAy1 := hallA.2.2.cell 1
        have mAy2 := hallA.2.2.cell 2
        have mAy3 := hallA.2.2.cell 3
        have mAy4 := hallA.2.2.cell 4
        clear hallA LD3 LX3 LY3
        generalize x.d = xd at *
        generalize x.l = xl at *
        generalize x.k = xk at *
        generalize y.d = yd at *
        generalize y.l = yl at *
        generalize y.k = yk at *
        go_cut [16, 17] (fun s16 s17 wx => ∃ (ga gb : Nat), s16 = .slice (some ⟨ga, 0, none⟩) zs.length zs.length ∧ s17 = .slice (some ⟨gb, 0, none⟩) zs.length zs.length ∧ Hid (Lies wx ga 3 (rowN (zs.map (countI x.items)))) ∧ Hid (Lies wx gb 3 (rowN (zs.map (countI y.items)))) ∧ Below wA.heap.size wA wx)
        case first =>
          go_region_held3 (fun W => W.cell? ⟨w1.heap.size, 0, none⟩ = some (.slice A xs.length c) ∧ W.cell? ⟨w1.heap.size, 1, none⟩ = some (.slice AN zs.length cN) ∧ W.cell? ⟨w1.heap.size, 2, none⟩ = some (.slice AD cs.length cD) ∧ W.cell? ⟨w2.heap.size, 0, none⟩ = some (.int .i64 xd) ∧ W.cell? ⟨w2.heap.size, 1, none⟩ = some (.int .i64 xl) ∧ W.cell? ⟨w2.heap.size, 2, none⟩ = some (.int .u8 xk) ∧ W.cell? ⟨w2.heap.size, 3, none⟩ = some (.slice A1 n1 c1) ∧ W.cell? ⟨w2.heap.size, 4, none⟩ = some (.slice A2 n2 c2) ∧ W.cell? ⟨w3.heap.size, 0, none⟩ = some (.int .i64 yd) ∧ W.cell? ⟨w3.heap.size, 1, none⟩ = some (.int .i64 yl) ∧ W.cell? ⟨w3.heap.size, 2, none⟩ = some (.int .u8 yk) ∧ W.cell? ⟨w3.heap.size, 3, none⟩ = some (.slice B1 m1 e1) ∧ W.cell? ⟨w3.heap.size, 4, none⟩ = some (.slice B2 m2 e2)) (go_keep) (first
            | (go_at_call 88; (with_reducible refine (HCX.out _ (by (repeat' (first | (with_reducible first | exact Below.refl _ _ | assumption | refine Below.alloc ?_ ?_ _ | refine Below.setCell ?_ ?_ _ | refine below_row ?_ ?_ _ | refine Below.drew ?_ | refine below_drewN ?_ _ | refine Below.trans ?_ (Below.mono (by assumption) ?_)) | exact Nat.le_refl _ | omega | (simp; done) | (simp; omega) | exact Below.size (by assumption))))).mono ?_); rintro e w5 ⟨ga, rfl, hga, hb5⟩; have hbA5 : Below wA.heap.size wA w5 := (by (repeat' (first | (with_reducible first | exact Below.refl _ _ | assumption | refine Below.alloc ?_ ?_ _ | refine Below.setCell ?_ ?_ _ | refine below_row ?_ ?_ _ | refine Below.drew ?_ | refine below_drewN ?_ _ | refine Below.trans ?_ (Below.mono (by assumption) ?_)) | exact Nat.le_refl _ | omega | (simp; done) | (simp; omega) | exact Below.size (by assumption)))); have Hga := Lib.hid hga; (first | (have HOga := Lib.hid (Hgb.out.after hb5)) | skip); have hall5 := HALL.out w5 hbA5; have m5d0 := hall5.1.cell 0; have m5d1 := hall5.1.cell 1; have m5d2 := hall5.1.cell 2; have m5x0 := hall5.2.1.cell 0; have m5x1 := hall5.2.1.cell 1; have m5x2 := hall5.2.1.cell 2; have m5x3 := hall5.2.1.cell 3; have m5x4 := hall5.2.1.cell 4; have m5y0 := hall5.2.2.cell 0; have m5y1 := hall5.2.2.cell 1; have m5y2 := hall5.2.2.cell 2; have m5y3 := hall5.2.2.cell 3; have m5y4 := hall5.2.2.cell 4; clear hga hb5 hall5)
            | (go_at_call 88; (with_reducible refine (HCY.out _ (by (repeat' (first | (with_reducible first | exact Below.refl _ _ | assumption | refine Below.alloc ?_ ?_ _ | refine Below.setCell ?_ ?_ _ | refine below_row ?_ ?_ _ | refine Below.drew ?_ | refine below_drewN ?_ _ | refine Below.trans ?_ (Below.mono (by assumption) ?_)) | exact Nat.le_refl _ | omega | (simp; done) | (simp; omega) | exact Below.size (by assumption))))).mono ?_); rintro e w6 ⟨gb, rfl, hgb, hb6⟩; have hbA6 : Below wA.heap.size wA w6 := (by (repeat' (first | (with_reducible first | exact Below.refl _ _ | assumption | refine Below.alloc ?_ ?_ _ | refine Below.setCell ?_ ?_ _ | refine below_row ?_ ?_ _ | refine Below.drew ?_ | refine below_drewN ?_ _ | refine Below.trans ?_ (Below.mono (by assumption) ?_)) | exact Nat.le_refl _ | omega | (simp; done) | (simp; omega) | exact Below.size (by assumption)))); have Hgb := Lib.hid hgb; (first | (have HOgb := Lib.hid (Hga.out.after hb6)) | skip); have hall6 := HALL.out w6 hbA6; have m6d0 := hall6.1.cell 0; have m6d1 := hall6.1.cell 1; have m6d2 := hall6.1.cell 2; have m6x0 := hall6.2.1.cell 0; have m6x1 := hall6.2.1.cell 1; have m6x2 := hall6.2.1.cell 2; have m6x3 := hall6.2.1.cell 3; have m6x4 := hall6.2.1.cell 4; have m6y0 := hall6.2.2.cell 0; have m6y1 := hall6.2.2.cell 1; have m6y2 := hall6.2.2.cell 2; have m6y3 := hall6.2.2.cell 3; have m6y4 := hall6.2.2.cell 4; clear hgb hb6 hall6))
          all_goals (go_wp2_with fail; go_meet)
          all_goals first
            | exact ⟨ga, gb, rfl, rfl, HOgb, Hgb, hbA6⟩
            | exact ⟨ga, gb, rfl, rfl, Hga, HOga, hbA5⟩
            | exact ⟨ga, gb, rfl, rfl, HOga, Hgb, hbA6⟩
            | exact ⟨ga, gb, rfl, rfl, Hga, HOgb, hbA5⟩
        case rest =>
          obtain ⟨ga, gb, rfl, rfl, LA, LB, hbx⟩ := hcut
          obtain ⟨wx, rfl⟩ : ∃ wx : World, wx = wc := ⟨_, rfl⟩
          have hbx1 : Below w1.heap.size w1 wx := hbA1.trans (hbx.mono hbA1.size)
          have hbwx : Below w.heap.size w wx := hbwA.trans (hbx.mono hsA)
          have hsx := hbx.size
          have HDF := Lib.hid (diffN_v (ints_of_lies (n := zs.length) LA.out (by simp)) (ints_of_lies (n := zs.length) LB.out (by simp)) (by simp; omega) (by simp; omega))
          have hdl := diffJ_lt (zs.map (countI x.items)) (zs.map (countI y.items))
          have hdl2 : (diffL (zs.map (countI x.items)) (zs.map (countI y.items))).length ≤ zs.length := by simpa using hdl
          have HLA := Lib.hid (fun W (hW : Below wx.heap.size wx W) => And.intro (LA.out.after hW) (LB.out.after hW))
          have HALX := Lib.hid (fun W (hW : Below wx.heap.size wx W) => HALL.out W (hbx.trans (hW.mono hsx)))
          have HZX := Lib.hid (fun W (hW : Below wx.heap.size wx W) i (h : i < zs.length) => HCN.out W (hbx1.trans (hW.mono hbx1.size)) i h)
          have HDX := Lib.hid (fun W (hW : Below wx.heap.size wx W) => diffS_v (HIF.out W (hbwx.trans (hW.mono hbwx.size))).2 (HIT.out W (hbwx.trans (hW.mono hbwx.size))).2 hdf hdt)
          clear hdl hdf hdt HCX HCY HALL HI1 HIF HIT HRF HRT HCN
          generalize countI x.items = ca at *
          generalize countI y.items = cb at *
          generalize diffL x.dims y.dims = DD at *
          generalize diffL (zs.map ca) (zs.map cb) = D at *
          have hlc : D.length ≤ 1000 := by omega
          have HCHL : Hid ((changesL zs ca cb).length = D.length) := Lib.hid (by rw [← HDC.out]; simp)
          generalize changesL zs ca cb = CL at *
          go_wp2_with fail
          refine HDF.out.mono ?_
          rintro e w7 ⟨v7, rfl, hown, hb7⟩
          have hbx7 : Below wx.heap.size wx w7 := hb7
          have hs7 := hb7.size
          obtain ⟨A7, c7, b7, o7, rfl, hA7, hc7⟩ := ints_of_own hown
          have HA7 := Lib.hid hA7
          have HC7 := Lib.hid (fun W (hW : Below w7.heap.size w7 W) i (h : i < D.length) => cell_keep hW (hc7 i h))
          clear hown hb7 HDF hA7 hc7
          go_wp2_with fail
          go_loopw [8, 60] (fun v i wr => ∃ (k : Nat) (AO : Option Addr) (cO : Nat), k ≤ D.length ∧ i = .int .i64 k ∧ v = .slice AO k cO ∧ Hid (wr.ownsRow w7.heap.size 110 3 (.slice AO k cO) k (cellsS ((D.take k).map (chgI zs ca cb)))) ∧ Below w7.heap.size w7 wr) (fun _ i _ => D.length - (intOf i).toNat)
          case atStart => exact ⟨0, none, 0, by omega, rfl, rfl, Lib.hid (World.ownsRow_nil _ _ _ _), Below.refl _ _⟩
          case round =>
            obtain ⟨k, AO, cO, hk, rfl, rfl, HO, hb⟩ := hrel
            have hzz := hb.size
            have hbxr : Below wx.heap.size wx wr := hbx7.trans (hb.mono hs7)
            by_cases hlt : k < D.length
            · obtain rfl := HA7.out (by omega)
              obtain ⟨p, hp, hpe⟩ := HDM.out _ (List.getElem_mem hlt)
              obtain rfl := HAN.out (by omega)
              have d7 := HC7.out wr hb k hlt
              rw [hpe] at d7
              have kl1 : (k : Int) < (D.length : Int) := by omega
              have kp1 : (p : Int) < (zs.length : Int) := by omega
              have hall := HALX.out wr hbxr
              have g1 := hall.1.cell 1
              have zg := hall.1.lt
              have z0 := HZX.out wr hbxr p hp
              have ra := (HLA.out wr hbxr).1.cell p
              have rb := (HLA.out wr hbxr).2.cell p
              rw [rowN_at (by simpa using hp)] at ra rb
              have hCI : Hid (cellsS ((D.take k).map (chgI zs ca cb)) ++ [.int .i64 (zs[p]), .int .i64 ((zs.map ca)[p]'(by simpa using hp)), .int .i64 ((zs.map cb)[p]'(by simpa using hp))] = cellsS ((D.take (k + 1)).map (chgI zs ca cb))) := Lib.hid (by
                rw [List.take_succ_eq_append_getElem hlt, List.map_append]
                unfold cellsS
                rw [List.flatMap_append, hpe]
                simp [chgI, getD_lt hp, List.getElem?_eq_getElem hp])
              have zc : (cellsS ((D.take k).map (chgI zs ca cb))).length = k * 3 := by rw [cellsS_len]; simp; omega
              clear hall hpe
              generalize (zs.map ca)[p]'(by simpa using hp) = va at *
              generalize (zs.map cb)[p]'(by simpa using hp) = vb at *
              generalize zs[p] = zp at *
              generalize cellsS ((D.take k).map (chgI zs ca cb)) = ck at *
              go_wp2_with fail
              go_region_law (first
                | (refine step_row (o := ⟨some 80, _, _, _, _, _⟩) (by rfl) (.tmp 64) (.tmp 79) 77 (by rfl) w7.heap.size 110 i0 (.agg #[.int .i64 0, .int .i64 0, .int .i64 0]) 3 24 Try.underlying77 hi0 hz0 hz1 hz2 rfl (by decide) (.slice AO k cO) k ck (by rfl) ?_ (some ⟨_, 0, none⟩) 1 1 [.int .i64 zp, .int .i64 va, .int .i64 vb] (by rfl) (fun h => by cases h) (by rfl) ?_ (by simp [Value.oneCell']) (by unfold maxLen; omega) (by omega) (by first | omega | (simp; omega)) ?_; (focus (first | exact HO.out.drew.alloc _ | exact (HO.out.alloc _).drew | exact HO.out.alloc _)); (focus (intro ad had; injection had with had; subst had; first | exact World.news_of_block (Lies.made _ _ _) | exact World.news_of_block (Lies.made _ _ _).drew)); intro v4 w4 ho4 hap4 hapo4 hbl4; have hb4 : Below w7.heap.size w7 w4 := hbl4 w7 (by (repeat' (first | (with_reducible first | exact Below.refl _ _ | assumption | refine Below.alloc ?_ ?_ _ | refine Below.setCell ?_ ?_ _ | refine below_row ?_ ?_ _ | refine Below.drew ?_ | refine below_drewN ?_ _ | refine Below.trans ?_ (Below.mono (by assumption) ?_)) | exact Nat.le_refl _ | omega | (simp; done) | (simp; omega) | exact Below.size (by assumption)))) (Nat.le_refl _); rw [hCI.out] at ho4; have HO4 := Lib.hid ho4; obtain ⟨A5, c5, g5, rfl, -⟩ := own_form ho4; clear ho4 hap4 hapo4 hbl4))
              all_goals
                go_wp2_with fail
                go_roundw
                case rel => exact ⟨k + 1, A5, c5, by omega, by go_num, rfl, HO4, hb4⟩
                case measure => simp [intOf]; omega
            · have hke : k = D.length := by omega
              have HCH : Hid (ChangesAt wr (.slice AO D.length cO) CL) := Lib.hid (by
                have h9 := HO.out
                rw [hke, List.take_length, HDC.out, ← HCHL.out] at h9
                have := changes_of_own h9
                rwa [HCHL.out] at this)
              clear HO
              subst hke
              have kl0 : ¬ (D.length : Int) < (D.length : Int) := by omega
              have hall := HALX.out wr hbxr
              have x4 := hall.2.1.cell 4
              have y4 := hall.2.2.cell 4
              have zx4 := hall.2.1.lt
              have zy4 := hall.2.2.lt
              have HDS := Lib.hid (HDX.out wr hbxr)
              have hbwr : Below w.heap.size w wr := hbwx.trans (hbxr.mono hbwx.size)
              clear hall
              go_wp2_with fail
              refine HDS.out.mono ?_
              rintro e w8 ⟨v8, rfl, hown, hb8⟩
              have HI8 := Lib.hid (ints_of_own hown)
              have hbw8 : Below w.heap.size w w8 := hbwr.trans (hb8.mono hbwr.size)
              have HC8 : Hid (ChangesAt w8 (.slice AO D.length cO) CL) := Lib.hid (HCH.out.after hb8)
              obtain ⟨A8, c8, g8, rfl, -⟩ := own_form hown
              clear hown hb8
              go_wp2_with fail
              go_ret3
              obtain rfl := HRR.out
              exact ⟨.slice AO D.length cO, .slice A8 DD.length c8, rfl, HC8.out, HI8.out, hbw8⟩
      · rw [Bool.not_eq_true] at ht
        rw [if_neg (by rw [hf, ht]; decide)]
        have HF2 := Lib.hid (fun vN vD W hW => HFN.out vN vD t ht W hW)
        rw [hv1, hv2] at HF1
        clear h0 h2 h3 h4 hst HF HFY HFN h hA hc hf ht hv1 hv2 HRG HSM
        generalize xs.getD (idxN xs d f) zeroI = x at *
        unfold DeskAt at HL
        generalize chainsL xs (numbersL xs) = cs at *
        generalize numbersL xs = zs at *
        go_enter Try.func43, Try.ntmps43
        go_wp2_with fail
        refine (HL.out _ (by (repeat' (first | (with_reducible first | exact Below.refl _ _ | assumption | refine Below.alloc ?_ ?_ _ | refine Below.setCell ?_ ?_ _ | refine below_row ?_ ?_ _ | refine Below.drew ?_ | refine below_drewN ?_ _ | refine Below.trans ?_ (Below.mono (by assumption) ?_)) | exact Nat.le_refl _ | omega | (simp; done) | (simp; omega) | exact Below.size (by assumption))))).mono ?_
        rintro e w1 ⟨⟨vN, vD, rfl, hN, hD⟩, hb1⟩
        have s1 := hb1.size; try simp only [World.size_alloc, World.size_setCell, World.size_drew, setRow_size] at s1
        obtain ⟨AN, cN, rfl⟩ := hN.slice
        obtain ⟨AD, cD, rfl⟩ := hD.slice
        have hbw1 : Below w.heap.size w w1 := by (repeat' (first | (with_reducible first | exact Below.refl _ _ | assumption | refine Below.alloc ?_ ?_ _ | refine Below.setCell ?_ ?_ _ | refine below_row ?_ ?_ _ | refine Below.drew ?_ | refine below_drewN ?_ _ | refine Below.trans ?_ (Below.mono (by assumption) ?_)) | exact Nat.le_refl _ | omega | (simp; done) | (simp; omega) | exact Below.size (by assumption)))
        have LD1 := Lib.hid (Lies.made w1 118 #[.slice A xs.length c, .slice AN zs.length cN, .slice AD cs.length cD])
        clear hD hN hb1 HL
        go_wp2_with fail
        refine (HF1.out _ _ _ (by (repeat' (first | (with_reducible first | exact Below.refl _ _ | assumption | refine Below.alloc ?_ ?_ _ | refine Below.setCell ?_ ?_ _ | refine below_row ?_ ?_ _ | refine Below.drew ?_ | refine below_drewN ?_ _ | refine Below.trans ?_ (Below.mono (by assumption) ?_)) | exact Nat.le_refl _ | omega | (simp; done) | (simp; omega) | exact Below.size (by assumption))))).mono ?_
        rintro e w2 ⟨rfl, hb2⟩
        have s2 := hb2.size; try simp only [World.size_alloc, World.size_setCell, World.size_drew, setRow_size] at s2
        have LD2 := Lib.hid ((LD1.out.after hb2).alloc (.cells #[.int .i64 x.d, .int .i64 x.l, .int .u8 x.k, .slice A1 n1 c1, .slice A2 n2 c2] 45))
        have e0 := LD2.out.cell 0
        have e1 := LD2.out.cell 1
        have e2 := LD2.out.cell 2
        have ze := LD2.out.lt
        have hbw2 : Below w.heap.size w w2 := by (repeat' (first | (with_reducible first | exact Below.refl _ _ | assumption | refine Below.alloc ?_ ?_ _ | refine Below.setCell ?_ ?_ _ | refine below_row ?_ ?_ _ | refine Below.drew ?_ | refine below_drewN ?_ _ | refine Below.trans ?_ (Below.mono (by assumption) ?_)) | exact Nat.le_refl _ | omega | (simp; done) | (simp; omega) | exact Below.size (by assumption)))
        clear hb2 HF1 LD1
        go_wp2_with fail
        refine (HF2.out _ _ _ (by (repeat' (first | (with_reducible first | exact Below.refl _ _ | assumption | refine Below.alloc ?_ ?_ _ | refine Below.setCell ?_ ?_ _ | refine below_row ?_ ?_ _ | refine Below.drew ?_ | refine below_drewN ?_ _ | refine Below.trans ?_ (Below.mono (by assumption) ?_)) | exact Nat.le_refl _ | omega | (simp; done) | (simp; omega) | exact Below.size (by assumption))))).mono ?_
        rintro e w3 ⟨rfl, hb3⟩
        have s3 := hb3.size; try simp only [World.size_alloc, World.size_setCell, World.size_drew, setRow_size] at s3
        have hbw3 : Below w.heap.size w w3 := by (repeat' (first | (with_reducible first | exact Below.refl _ _ | assumption | refine Below.alloc ?_ ?_ _ | refine Below.setCell ?_ ?_ _ | refine below_row ?_ ?_ _ | refine Below.drew ?_ | refine below_drewN ?_ _ | refine Below.trans ?_ (Below.mono (by assumption) ?_)) | exact Nat.le_refl _ | omega | (simp; done) | (simp; omega) | exact Below.size (by assumption)))
        clear hb3 HF2 e0 e1 e2
        go_wp2_with fail
        go_ret3
        exact ⟨.slice none 0 0, .slice none 0 0, rfl, changes_nil _, ints_nil _, by (repeat' (first | (with_reducible first | exact Below.refl _ _ | assumption | refine Below.alloc ?_ ?_ _ | refine Below.setCell ?_ ?_ _ | refine below_row ?_ ?_ _ | refine Below.drew ?_ | refine below_drewN ?_ _ | refine Below.trans ?_ (Below.mono (by assumption) ?_)) | exact Nat.le_refl _ | omega | (simp; done) | (simp; omega) | exact Below.size (by assumption)))⟩
    · rw [Bool.not_eq_true] at hf
      rw [if_neg (by rw [hf]; simp)]
      have HF1 := Lib.hid (fun vN vD W hW => HFN.out vN vD f hf W hW)
      have HF2 : Hid (∀ vN vD W, Below w.heap.size w W → Calls Try.prog 69 #[.agg #[.slice A xs.length c, vN, vD], .agg #[.int .i64 d, .int .i64 t]] W fun e w' => (∃ xd xl xk A1 n1 c1 A2 n2 c2 r, e = .returned (.tuple #[.agg #[.int .i64 xd, .int .i64 xl, .int .u8 xk, .slice A1 n1 c1, .slice A2 n2 c2], .bool r])) ∧ Below W.heap.size W w') := Lib.hid (fun vN vD W hW => by
        by_cases ht : hasN xs d t = true
        · obtain ⟨⟨B1, m1, e1, hu1⟩, B2, m2, e2, hu2⟩ := hc.slices (of_decide_eq_true ht)
          refine (HFY.out vN vD t ht W hW).mono ?_
          rintro e w' ⟨rfl, hb⟩
          rw [hu1, hu2]
          exact ⟨⟨_, _, _, _, _, _, _, _, _, _, rfl⟩, hb⟩
        · rw [Bool.not_eq_true] at ht
          refine (HFN.out vN vD t ht W hW).mono ?_
          rintro e w' ⟨rfl, hb⟩
          exact ⟨⟨0, 0, 0, none, 0, 0, none, 0, 0, false, rfl⟩, hb⟩)
      clear h0 h2 h3 h4 hst HF HFY HFN h hA hc hf HRG HSM
      unfold DeskAt at HL
      generalize chainsL xs (numbersL xs) = cs at *
      generalize numbersL xs = zs at *
      go_enter Try.func43, Try.ntmps43
      go_wp2_with fail
      refine (HL.out _ (by (repeat' (first | (with_reducible first | exact Below.refl _ _ | assumption | refine Below.alloc ?_ ?_ _ | refine Below.setCell ?_ ?_ _ | refine below_row ?_ ?_ _ | refine Below.drew ?_ | refine below_drewN ?_ _ | refine Below.trans ?_ (Below.mono (by assumption) ?_)) | exact Nat.le_refl _ | omega | (simp; done) | (simp; omega) | exact Below.size (by assumption))))).mono ?_
      rintro e w1 ⟨⟨vN, vD, rfl, hN, hD⟩, hb1⟩
      have s1 := hb1.size; try simp only [World.size_alloc, World.size_setCell, World.size_drew, setRow_size] at s1
      obtain ⟨AN, cN, rfl⟩ := hN.slice
      obtain ⟨AD, cD, rfl⟩ := hD.slice
      have hbw1 : Below w.heap.size w w1 := by (repeat' (first | (with_reducible first | exact Below.refl _ _ | assumption | refine Below.alloc ?_ ?_ _ | refine Below.setCell ?_ ?_ _ | refine below_row ?_ ?_ _ | refine Below.drew ?_ | refine below_drewN ?_ _ | refine Below.trans ?_ (Below.mono (by assumption) ?_)) | exact Nat.le_refl _ | omega | (simp; done) | (simp; omega) | exact Below.size (by assumption)))
      have LD1 := Lib.hid (Lies.made w1 118 #[.slice A xs.length c, .slice AN zs.length cN, .slice AD cs.length cD])
      clear hD hN hb1 HL
      go_wp2_with fail
      refine (HF1.out _ _ _ (by (repeat' (first | (with_reducible first | exact Below.refl _ _ | assumption | refine Below.alloc ?_ ?_ _ | refine Below.setCell ?_ ?_ _ | refine below_row ?_ ?_ _ | refine Below.drew ?_ | refine below_drewN ?_ _ | refine Below.trans ?_ (Below.mono (by assumption) ?_)) | exact Nat.le_refl _ | omega | (simp; done) | (simp; omega) | exact Below.size (by assumption))))).mono ?_
      rintro e w2 ⟨rfl, hb2⟩
      have s2 := hb2.size; try simp only [World.size_alloc, World.size_setCell, World.size_drew, setRow_size] at s2
      have LD2 := Lib.hid ((LD1.out.after hb2).alloc (.cells #[.int .i64 0, .int .i64 0, .int .u8 0, .slice none 0 0, .slice none 0 0] 45))
      have e0 := LD2.out.cell 0
      have e1 := LD2.out.cell 1
      have e2 := LD2.out.cell 2
      have ze := LD2.out.lt
      have hbw2 : Below w.heap.size w w2 := by (repeat' (first | (with_reducible first | exact Below.refl _ _ | assumption | refine Below.alloc ?_ ?_ _ | refine Below.setCell ?_ ?_ _ | refine below_row ?_ ?_ _ | refine Below.drew ?_ | refine below_drewN ?_ _ | refine Below.trans ?_ (Below.mono (by assumption) ?_)) | exact Nat.le_refl _ | omega | (simp; done) | (simp; omega) | exact Below.size (by assumption)))
      clear hb2 HF1 LD1
      go_wp2_with fail
      refine (HF2.out _ _ _ (by (repeat' (first | (with_reducible first | exact Below.refl _ _ | assumption | refine Below.alloc ?_ ?_ _ | refine Below.setCell ?_ ?_ _ | refine below_row ?_ ?_ _ | refine Below.drew ?_ | refine below_drewN ?_ _ | refine Below.trans ?_ (Below.mono (by assumption) ?_)) | exact Nat.le_refl _ | omega | (simp; done) | (simp; omega) | exact Below.size (by assumption))))).mono ?_
      rintro e w3 ⟨⟨xd, xl, xk, B1, m1, f1, B2, m2, f2, rr, rfl⟩, hb3⟩
      have s3 := hb3.size; try simp only [World.size_alloc, World.size_setCell, World.size_drew, setRow_size] at s3
      have hbw3 : Below w.heap.size w w3 := by (repeat' (first | (with_reducible first | exact Below.refl _ _ | assumption | refine Below.alloc ?_ ?_ _ | refine Below.setCell ?_ ?_ _ | refine below_row ?_ ?_ _ | refine Below.drew ?_ | refine below_drewN ?_ _ | refine Below.trans ?_ (Below.mono (by assumption) ?_)) | exact Nat.le_refl _ | omega | (simp; done) | (simp; omega) | exact Below.size (by assumption)))
      clear hb3 HF2 e0 e1 e2
      go_wp2_with fail
      go_ret3
      exact ⟨.slice none 0 0, .slice none 0 0, rfl, changes_nil _, ints_nil _, by (repeat' (first | (with_reducible first | exact Below.refl _ _ | assumption | refine Below.alloc ?_ ?_ _ | refine Below.setCell ?_ ?_ _ | refine below_row ?_ ?_ _ | refine Below.drew ?_ | refine below_drewN ?_ _ | refine Below.trans ?_ (Below.mono (by assumption) ?_)) | exact Nat.le_refl _ | omega | (simp; done) | (simp; omega) | exact Below.size (by assumption)))⟩
  · have HL := Lib.hid (fun W hW => lay_err (HRG.out W hW) h0)
    rw [if_pos h0]
    have hne : (layE xs != 0) = true := by simpa using h0
    obtain ⟨A', c', hAc⟩ : ∃ A' c', (Value.slice A xs.length c) = .slice A' xs.length c' := ⟨_, _, rfl⟩
    clear h0 hc hA h hAc
    generalize layE xs = ee at *
    go_enter Try.func43, Try.ntmps43
    go_wp2_with fail
    refine (HL.out _ (by (repeat' (first | (with_reducible first | exact Below.refl _ _ | assumption | refine Below.alloc ?_ ?_ _ | refine Below.setCell ?_ ?_ _ | refine below_row ?_ ?_ _ | refine Below.drew ?_ | refine below_drewN ?_ _ | refine Below.trans ?_ (Below.mono (by assumption) ?_)) | exact Nat.le_refl _ | omega | (simp; done) | (simp; omega) | exact Below.size (by assumption))))).mono ?_
    rintro e w1 ⟨rfl, hb1⟩
    have s1 := hb1.size; try simp only [World.size_alloc, World.size_setCell, World.size_drew, setRow_size] at s1
    go_wp2_with fail
    go_ret3
    exact ⟨_, _, rfl, changes_nil _, ints_nil _, by (repeat' (first | (with_reducible first | exact Below.refl _ _ | assumption | refine Below.alloc ?_ ?_ _ | refine Below.setCell ?_ ?_ _ | refine below_row ?_ ?_ _ | refine Below.drew ?_ | refine below_drewN ?_ _ | refine Below.trans ?_ (Below.mono (by assumption) ?_)) | exact Nat.le_refl _ | omega | (simp; done) | (simp; omega) | exact Below.size (by assumption)))⟩
end Go.Proofs.Ytkjfceajakhlfaa
