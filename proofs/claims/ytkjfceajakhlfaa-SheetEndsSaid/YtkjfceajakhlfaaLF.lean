/- JG: Check, Drawings, Depth, At. JI: Last. JM2: The reference's listed is the program's. Y0: Letters, parts and trees: the mathematics. -/
import Derived.Test.YtkjfceajakhlfaaLE
import Derived.Test.YtkjfceajakhlfaaLC
namespace Go.Proofs.Ytkjfceajakhlfaa
set_option linter.unusedVariables false
set_option linter.unusedSimpArgs false
section
open Go.RowKit

/-- A register that can be looked through. -/
structure RegAt (w : World) (vI : Value) (xs : List Iss) : Prop where
  at_ : IssuesAt w vI xs
  len : xs.length ≤ 1000
  small : ∀ x ∈ xs, x.items.length ≤ 1000 ∧ x.dims.length ≤ 1000
theorem RegAt.after {w w' : World} {vI : Value} {xs : List Iss} (h : RegAt w vI xs) (hb : Below w.heap.size w w') : RegAt w' vI xs := ⟨h.at_.after hb, h.len, h.small⟩
theorem lay_v {w : World} {vI : Value} {xs : List Iss} (h : RegAt w vI xs) : Calls Try.prog 65 #[.agg #[vI]] w (LayP xs vI w) := by
  obtain ⟨A, c, b, off, vi, vd, rfl, hA, hc⟩ := h.at_.row
  exact lay_any A c b off xs vi vd w h.len (fun x hx => (h.small x hx).1) hA hc
theorem lay_yes {w : World} {vI : Value} {xs : List Iss} (h : RegAt w vI xs) (h0 : layE xs = 0) : Calls Try.prog 65 #[.agg #[vI]] w fun e w' => (∃ vN vD, e = .returned (.tuple #[.agg #[vI, vN, vD], .int .i64 0]) ∧ DeskAt w' xs vN vD) ∧ Below w.heap.size w w' :=
  (lay_v h).mono fun e w' ⟨hp, hb⟩ => ⟨hp.elim (fun h => h.2) (fun h => absurd h0 h.1), hb⟩
theorem lay_err {w : World} {vI : Value} {xs : List Iss} (h : RegAt w vI xs) (h0 : layE xs ≠ 0) : Calls Try.prog 65 #[.agg #[vI]] w fun e w' => e = .returned (.tuple #[zDesk, .int .i64 (layE xs)]) ∧ Below w.heap.size w w' :=
  (lay_v h).mono fun e w' ⟨hp, hb⟩ => ⟨hp.elim (fun h => absurd h.1 h0) (fun h => h.2), hb⟩
theorem RegAt.slice {w : World} {vI : Value} {xs : List Iss} (h : RegAt w vI xs) : ∃ A c, vI = .slice A xs.length c := by
  obtain ⟨A, c, b, off, hv, -⟩ := h.at_
  exact ⟨A, c, hv⟩
theorem IntsAt.slice {w : World} {v : Value} {l : List Int} (h : IntsAt w v l) : ∃ A c, v = .slice A l.length c := by
  obtain ⟨A, c, b, off, hv, -⟩ := h
  exact ⟨A, c, hv⟩

set_option maxHeartbeats 1000000 in
theorem sCheck_any {vI : Value} {xs : List Iss} {w : World} (h : RegAt w vI xs) : Calls Try.prog 23 #[.agg #[vI]] w fun e w' => e = .returned (.int .i64 (layE xs)) ∧ Below w.heap.size w w' := by
  have hr := h.after ((Below.refl w.heap.size w).alloc (Nat.le_refl _) (.cells #[vI] 24))
  obtain ⟨A, c, rfl⟩ := h.slice
  clear h
  by_cases h0 : layE xs = 0
  · have HL := Lib.hid (lay_yes hr h0)
    rw [h0]
    clear h0 hr
    go_enter Try.func23, Try.ntmps23
    go_wp2_with fail
    refine HL.out.mono ?_
    rintro e w1 ⟨⟨vN, vD, rfl, hN, hD⟩, hb1⟩
    have s1 := hb1.size; try simp only [World.size_alloc, World.size_setCell, World.size_drew, setRow_size] at s1
    obtain ⟨AN, cN, rfl⟩ := hN.slice
    obtain ⟨AD, cD, rfl⟩ := hD.slice
    clear hN hD
    go_wp2
    go_ret
    exact ⟨rfl, by (repeat' (first | (with_reducible first | exact Below.refl _ _ | assumption | refine Below.alloc ?_ ?_ _ | refine Below.setCell ?_ ?_ _ | refine below_row ?_ ?_ _ | refine Below.drew ?_ | refine below_drewN ?_ _ | refine Below.trans ?_ (Below.mono (by assumption) ?_)) | exact Nat.le_refl _ | omega | (simp; done) | (simp; omega) | exact Below.size (by assumption)))⟩
  · have HL := Lib.hid (lay_err hr h0)
    generalize layE xs = ee at *
    clear h0 hr
    go_enter Try.func23, Try.ntmps23
    go_wp2_with fail
    refine HL.out.mono ?_
    rintro e w1 ⟨rfl, hb1⟩
    have s1 := hb1.size; try simp only [World.size_alloc, World.size_setCell, World.size_drew, setRow_size] at s1
    go_wp2
    go_ret
    exact ⟨rfl, by (repeat' (first | (with_reducible first | exact Below.refl _ _ | assumption | refine Below.alloc ?_ ?_ _ | refine Below.setCell ?_ ?_ _ | refine below_row ?_ ?_ _ | refine Below.drew ?_ | refine below_drewN ?_ _ | refine Below.trans ?_ (Below.mono (by assumption) ?_)) | exact Nat.le_refl _ | omega | (simp; done) | (simp; omega) | exact Below.size (by assumption)))⟩
/-- What Drawings tells. -/
def DrawP (xs : List Iss) (w : World) (e : Ending) (w' : World) : Prop :=
  ∃ v, e = .returned (.tuple #[v, .int .i64 (layE xs)]) ∧ IntsAt w' v (if layE xs = 0 then numbersL xs else []) ∧ Below w.heap.size w w'
def DrawQ (ee : Int) (zs : List Int) (w : World) (e : Ending) (w' : World) : Prop := ∃ v, e = .returned (.tuple #[v, .int .i64 ee]) ∧ IntsAt w' v zs ∧ Below w.heap.size w w'
set_option maxHeartbeats 1000000 in
theorem sDrawings_any {vI : Value} {xs : List Iss} {w : World} (h : RegAt w vI xs) : Calls Try.prog 19 #[.agg #[vI]] w (DrawP xs w) := by
  have hr := h.after ((Below.refl w.heap.size w).alloc (Nat.le_refl _) (.cells #[vI] 24))
  obtain ⟨A, c, rfl⟩ := h.slice
  clear h
  by_cases h0 : layE xs = 0
  · have HL := Lib.hid (lay_yes hr h0)
    show Calls _ _ _ _ (DrawQ (layE xs) (if layE xs = 0 then numbersL xs else []) w)
    rw [h0, if_pos rfl]
    clear h0 hr
    go_enter Try.func19, Try.ntmps19
    go_wp2_with fail
    refine HL.out.mono ?_
    rintro e w1 ⟨⟨vN, vD, rfl, hN, hD⟩, hb1⟩
    have s1 := hb1.size; try simp only [World.size_alloc, World.size_setCell, World.size_drew, setRow_size] at s1
    have HN := Lib.hid hN
    obtain ⟨AN, cN, rfl⟩ := hN.slice
    obtain ⟨AD, cD, rfl⟩ := hD.slice
    clear hN hD
    go_wp2
    go_ret2
    exact ⟨_, rfl, HN.out.after ((Below.refl _ _).alloc (Nat.le_refl _) _), by (repeat' (first | (with_reducible first | exact Below.refl _ _ | assumption | refine Below.alloc ?_ ?_ _ | refine Below.setCell ?_ ?_ _ | refine below_row ?_ ?_ _ | refine Below.drew ?_ | refine below_drewN ?_ _ | refine Below.trans ?_ (Below.mono (by assumption) ?_)) | exact Nat.le_refl _ | omega | (simp; done) | (simp; omega) | exact Below.size (by assumption)))⟩
  · have HL := Lib.hid (lay_err hr h0)
    show Calls _ _ _ _ (DrawQ (layE xs) (if layE xs = 0 then numbersL xs else []) w)
    rw [if_neg h0]
    generalize layE xs = ee at *
    clear h0 hr
    go_enter Try.func19, Try.ntmps19
    go_wp2_with fail
    refine HL.out.mono ?_
    rintro e w1 ⟨rfl, hb1⟩
    have s1 := hb1.size; try simp only [World.size_alloc, World.size_setCell, World.size_drew, setRow_size] at s1
    go_wp2
    go_ret2
    exact ⟨_, rfl, ⟨none, 0, 0, 0, rfl, fun h => absurd h (by simp), fun i h => absurd h (by simp)⟩, by (repeat' (first | (with_reducible first | exact Below.refl _ _ | assumption | refine Below.alloc ?_ ?_ _ | refine Below.setCell ?_ ?_ _ | refine below_row ?_ ?_ _ | refine Below.drew ?_ | refine below_drewN ?_ _ | refine Below.trans ?_ (Below.mono (by assumption) ?_)) | exact Nat.le_refl _ | omega | (simp; done) | (simp; omega) | exact Below.size (by assumption)))⟩
/-- What Depth tells. -/
def depthE (xs : List Iss) (d : Int) : Int × Int :=
  if layE xs ≠ 0 then (0, layE xs) else if d ∈ numbersL xs then (depW xs (numbersL xs) (numbersL xs).length d, 0) else (0, 6)
set_option maxHeartbeats 2000000 in
theorem sDepth_any {vI : Value} {xs : List Iss} {w : World} (d : Int) (h : RegAt w vI xs) : Calls Try.prog 28 #[.agg #[vI], .int .i64 d] w fun e w' => e = .returned (.tuple #[.int .i64 ((depthE xs d).1), .int .i64 ((depthE xs d).2)]) ∧ Below w.heap.size w w' := by
  have hr := h.after ((Below.refl w.heap.size w).alloc (Nat.le_refl _) (.cells #[vI] 24))
  have hlen := h.len
  obtain ⟨A, c, rfl⟩ := h.slice
  clear h
  unfold depthE
  by_cases h0 : layE xs = 0
  · rw [if_neg (by rw [h0]; decide)]
    have HL := Lib.hid (lay_yes hr h0)
    obtain ⟨hx, hrt, hn, hcm, -, -⟩ := layE_ok h0
    have hst := numbers_strict hrt
    have hcl : (chainsL xs (numbersL xs)).length = (numbersL xs).length := by simp [chainsL]
    have hda : ∀ i (h : i < (numbersL xs).length) (h2 : i < (chainsL xs (numbersL xs)).length), (chainsL xs (numbersL xs))[i] = depW xs (numbersL xs) (numbersL xs).length (numbersL xs)[i] := fun i h h2 => by simp [chainsL]
    have HST := Lib.hid hst
    have HDA := Lib.hid hda
    have HCL := Lib.hid hcl
    unfold DeskAt at HL
    clear h0 hst hda hcl hr hrt hcm hx
    generalize numbersL xs = zs at *
    generalize chainsL xs zs = cs at *
    have hfin : ∀ r : Nat, (∀ i (h : i < zs.length), i < r → zs[i] < d) → (∀ i (h : i < zs.length), r ≤ i → d ≤ zs[i]) → d ∈ zs → ∃ hk : r < zs.length, zs[r] = d := by
      intro r hr2 hr3 hm
      obtain ⟨k, hk, hke⟩ := List.getElem_of_mem hm
      have hrk : r = k := by
        by_cases h1 : r < k
        · have h2 := hr3 r (by omega) (Nat.le_refl _)
          have h3 := List.pairwise_iff_getElem.1 HST.out r k (by omega) hk h1
          omega
        · by_cases h2 : k < r
          · have := hr2 k hk h2; omega
          · omega
      subst hrk
      exact ⟨hk, hke⟩
    have HFIN := Lib.hid hfin
    clear hfin
    by_cases hm : d ∈ zs
    · rw [if_pos hm]
      have HM := Lib.hid hm
      have hdm : decide (d ∈ zs) = true := decide_eq_true hm
      have HDM := Lib.hid hdm
      clear hm hdm
      generalize hdd : depW xs zs zs.length d = dd at *
      have HDD := Lib.hid hdd
      clear hdd
      go_enter Try.func28, Try.ntmps28
      go_wp2_with fail
      refine HL.out.mono ?_
      rintro e w1 ⟨⟨vN, vD, rfl, hN, hD⟩, hb1⟩
      have s1 := hb1.size; try simp only [World.size_alloc, World.size_setCell, World.size_drew, setRow_size] at s1
      obtain ⟨AN, cN, bN, oN, rfl, hAN, hcN⟩ := hN
      obtain ⟨AD, cD, bD, oD, rfl, hAD, hcD⟩ := hD
      have HP := Lib.hid (place_any (.slice A xs.length c) (.slice AD cs.length cD) AN cN bN oN zs d (w1.alloc (.cells #[.slice A xs.length c, .slice AN zs.length cN, .slice AD cs.length cD] 118)) HST.out hAN (by omega) (fun i h => cell_keep ((Below.refl _ _).alloc (Nat.le_refl _) _) (hcN i h)))
      have HD := Lib.hid (fun i (h : i < cs.length) => cell_keep ((Below.refl _ _).alloc (Nat.le_refl _) (.cells #[.slice A xs.length c, .slice AN zs.length cN, .slice AD cs.length cD] 118)) (hcD i h))
      have HAD := Lib.hid hAD
      have LG := Lib.hid (Lies.made w1 118 #[.slice A xs.length c, .slice AN zs.length cN, .slice AD cs.length cD])
      have hbw : Below w.heap.size w w1 := by (repeat' (first | (with_reducible first | exact Below.refl _ _ | assumption | refine Below.alloc ?_ ?_ _ | refine Below.setCell ?_ ?_ _ | refine below_row ?_ ?_ _ | refine Below.drew ?_ | refine below_drewN ?_ _ | refine Below.trans ?_ (Below.mono (by assumption) ?_)) | exact Nat.le_refl _ | omega | (simp; done) | (simp; omega) | exact Below.size (by assumption)))
      clear hcN hcD hAN hAD hb1 HL
      unfold PlaceAt at HP
      rw [HDM.out] at HP
      go_wp2_with fail
      refine HP.out.mono ?_
      rintro e w2 ⟨r, hr1, hr2, hr3, rfl, hb2⟩
      have s2 := hb2.size; try simp only [World.size_alloc, World.size_setCell, World.size_drew, setRow_size] at s2
      have LG2 := Lib.hid (LG.out.after hb2)
      have g2 := LG2.out.cell 2
      have zg := LG2.out.lt
      have hbw2 : Below w.heap.size w w2 := by (repeat' (first | (with_reducible first | exact Below.refl _ _ | assumption | refine Below.alloc ?_ ?_ _ | refine Below.setCell ?_ ?_ _ | refine below_row ?_ ?_ _ | refine Below.drew ?_ | refine below_drewN ?_ _ | refine Below.trans ?_ (Below.mono (by assumption) ?_)) | exact Nat.le_refl _ | omega | (simp; done) | (simp; omega) | exact Below.size (by assumption)))
      have HFK := Lib.hid (HFIN.out r hr2 hr3 HM.out)
      have hrl : r < zs.length := by obtain ⟨hk, -⟩ := HFK.out; exact hk
      obtain rfl := HAD.out (by rw [HCL.out]; omega)
      have r0 : w2.cell? ⟨bD, oD + r, none⟩ = some (.int .i64 dd) := by
        obtain ⟨hk, hke⟩ := HFK.out
        have h1 := cell_keep hb2 (HD.out r (by rw [HCL.out]; exact hk))
        rw [HDA.out r hk (by rw [HCL.out]; exact hk), hke, HDD.out] at h1
        exact h1
      have hlt : (r : Int) < (cs.length : Int) := by rw [HCL.out]; omega
      have hlt2 : r < cs.length := by rw [HCL.out]; exact hrl
      clear hr2 hr3 hb2
      go_wp2
      go_ret2
      exact ⟨rfl, by (repeat' (first | (with_reducible first | exact Below.refl _ _ | assumption | refine Below.alloc ?_ ?_ _ | refine Below.setCell ?_ ?_ _ | refine below_row ?_ ?_ _ | refine Below.drew ?_ | refine below_drewN ?_ _ | refine Below.trans ?_ (Below.mono (by assumption) ?_)) | exact Nat.le_refl _ | omega | (simp; done) | (simp; omega) | exact Below.size (by assumption)))⟩
    · rw [if_neg hm]
      have hdm : decide (d ∈ zs) = false := decide_eq_false hm
      have HDM := Lib.hid hdm
      clear hm hdm
      go_enter Try.func28, Try.ntmps28
      go_wp2_with fail
      refine HL.out.mono ?_
      rintro e w1 ⟨⟨vN, vD, rfl, hN, hD⟩, hb1⟩
      have s1 := hb1.size; try simp only [World.size_alloc, World.size_setCell, World.size_drew, setRow_size] at s1
      obtain ⟨AN, cN, bN, oN, rfl, hAN, hcN⟩ := hN
      obtain ⟨AD, cD, bD, oD, rfl, hAD, hcD⟩ := hD
      have HP := Lib.hid (place_any (.slice A xs.length c) (.slice AD cs.length cD) AN cN bN oN zs d (w1.alloc (.cells #[.slice A xs.length c, .slice AN zs.length cN, .slice AD cs.length cD] 118)) HST.out hAN (by omega) (fun i h => cell_keep ((Below.refl _ _).alloc (Nat.le_refl _) _) (hcN i h)))
      have hbw : Below w.heap.size w w1 := by (repeat' (first | (with_reducible first | exact Below.refl _ _ | assumption | refine Below.alloc ?_ ?_ _ | refine Below.setCell ?_ ?_ _ | refine below_row ?_ ?_ _ | refine Below.drew ?_ | refine below_drewN ?_ _ | refine Below.trans ?_ (Below.mono (by assumption) ?_)) | exact Nat.le_refl _ | omega | (simp; done) | (simp; omega) | exact Below.size (by assumption)))
      clear hcN hcD hAN hAD hb1 HL
      unfold PlaceAt at HP
      rw [HDM.out] at HP
      go_wp2_with fail
      refine HP.out.mono ?_
      rintro e w2 ⟨r, -, -, -, rfl, hb2⟩
      have s2 := hb2.size; try simp only [World.size_alloc, World.size_setCell, World.size_drew, setRow_size] at s2
      have hbw2 : Below w.heap.size w w2 := by (repeat' (first | (with_reducible first | exact Below.refl _ _ | assumption | refine Below.alloc ?_ ?_ _ | refine Below.setCell ?_ ?_ _ | refine below_row ?_ ?_ _ | refine Below.drew ?_ | refine below_drewN ?_ _ | refine Below.trans ?_ (Below.mono (by assumption) ?_)) | exact Nat.le_refl _ | omega | (simp; done) | (simp; omega) | exact Below.size (by assumption)))
      clear hb2
      go_wp2
      go_ret2
      exact ⟨rfl, by (repeat' (first | (with_reducible first | exact Below.refl _ _ | assumption | refine Below.alloc ?_ ?_ _ | refine Below.setCell ?_ ?_ _ | refine below_row ?_ ?_ _ | refine Below.drew ?_ | refine below_drewN ?_ _ | refine Below.trans ?_ (Below.mono (by assumption) ?_)) | exact Nat.le_refl _ | omega | (simp; done) | (simp; omega) | exact Below.size (by assumption)))⟩
  · rw [if_pos h0]
    have HL := Lib.hid (lay_err hr h0)
    have hne : (layE xs == 0) = false := by rw [beq_eq_false_iff_ne]; exact h0
    clear h0 hr
    generalize layE xs = ee at *
    go_enter Try.func28, Try.ntmps28
    go_wp2_with fail
    refine HL.out.mono ?_
    rintro e w1 ⟨rfl, hb1⟩
    have s1 := hb1.size; try simp only [World.size_alloc, World.size_setCell, World.size_drew, setRow_size] at s1
    go_wp2
    go_ret2
    exact ⟨rfl, by (repeat' (first | (with_reducible first | exact Below.refl _ _ | assumption | refine Below.alloc ?_ ?_ _ | refine Below.setCell ?_ ?_ _ | refine below_row ?_ ?_ _ | refine Below.drew ?_ | refine below_drewN ?_ _ | refine Below.trans ?_ (Below.mono (by assumption) ?_)) | exact Nat.le_refl _ | omega | (simp; done) | (simp; omega) | exact Below.size (by assumption)))⟩
end
section
open Go.RowKit Go.Shelf
attribute [local go_sem] Oper.semAt_some

/-- The letter of the last of some issues; 0 if there is none. -/
def lastI (xs : List Iss) (ks : List (Fin xs.length)) : Int := (ks.getLast?.map fun k => xs[k].l).getD 0
theorem lastI_snoc (xs : List Iss) (ks : List (Fin xs.length)) (k : Fin xs.length) : lastI xs (ks ++ [k]) = xs[k].l := by simp [lastI]
def lastS (xs : List Iss) (d : Int) : Int := lastI xs (idxs xs d)
/-- What Last tells. -/
def lastE (xs : List Iss) (d : Int) : Int × Int := if layE xs ≠ 0 then (0, layE xs) else if lastS xs d = 0 then (0, 6) else (lastS xs d, 0)
theorem CellsKept.stored {X : Nat → Prop} {A W : World} (h : CellsKept X A W) {g : Nat} (hx : X g) (i : Nat) (u : Value) : CellsKept X A (W.setCell ⟨g, i, none⟩ u) :=
  ⟨by simp [World.setCell]; exact h.1, fun k cs' t fr hk e => (Below.heap_setCell W ⟨g, i, none⟩ u k (by show k ≠ g; rintro rfl; exact hk hx)).trans (h.2 k cs' t fr hk e)⟩

set_option maxRecDepth 100000 in
set_option maxHeartbeats 4000000 in
theorem sLast_any {vI : Value} {xs : List Iss} {w : World} (d : Int) (h : RegAt w vI xs) : Calls Try.prog 21 #[.agg #[vI], .int .i64 d] w fun e w' => e = .returned (.tuple #[.int .i64 ((lastE xs d).1), .int .i64 ((lastE xs d).2)]) ∧ Below w.heap.size w w' := by
  have HRG := Lib.hid (fun W (hW : Below w.heap.size w W) => h.after hW)
  obtain ⟨A, c, b, off, vi, vd, rfl, hA, hc⟩ := h.at_.row
  have HA := Lib.hid hA
  have HC := Lib.hid hc
  have hlen := h.len
  clear h hA hc
  unfold lastE
  by_cases h0 : layE xs = 0
  · have HL := Lib.hid (fun W hW => lay_yes (HRG.out W hW) h0)
    rw [if_neg (by rw [h0]; decide)]
    have HSR := Lib.hid (right_sorted (layE_ok h0).2.1)
    obtain ⟨r, hr⟩ : ∃ r, (if lastS xs d = 0 then ((0 : Int), (6 : Int)) else (lastS xs d, 0)) = r := ⟨_, rfl⟩
    have HR := Lib.hid hr
    rw [hr]
    obtain ⟨r1, r2⟩ := r
    simp only
    clear h0 hr
    refine (callsIn_wide (n := 5)).1 ?_
    refine callsIn_of_wp_marks Try.func21 rfl trivial ?_ rfl
    simp only [Try.ntmps21, List.size_toArray, List.length_cons, List.length_nil, Nat.reduceAdd, Nat.reduceSub, Array.replicate_succ, Array.replicate_zero, List.push_toArray, List.append_toArray, List.nil_append, List.cons_append]
    gi_wp2_with fail
    refine ⟨trivial, (callsIn_wide.2 (HL.out _ (by (repeat' (first | (with_reducible first | exact Below.refl _ _ | assumption | refine Below.alloc ?_ ?_ _ | refine Below.setCell ?_ ?_ _ | refine below_row ?_ ?_ _ | refine Below.drew ?_ | refine below_drewN ?_ _ | refine Below.trans ?_ (Below.mono (by assumption) ?_)) | exact Nat.le_refl _ | omega | (simp; done) | (simp; omega) | exact Below.size (by assumption)))))).mono ?_⟩
    rintro e w1 ⟨⟨vN, vD, rfl, hN, hD⟩, hb1⟩
    have s1 := hb1.size; try simp only [World.size_alloc, World.size_setCell, World.size_drew, setRow_size] at s1
    obtain ⟨AN, cN, rfl⟩ := hN.slice
    obtain ⟨AD, cD, rfl⟩ := hD.slice
    have hbw : Below w.heap.size w w1 := by (repeat' (first | (with_reducible first | exact Below.refl _ _ | assumption | refine Below.alloc ?_ ?_ _ | refine Below.setCell ?_ ?_ _ | refine below_row ?_ ?_ _ | refine Below.drew ?_ | refine below_drewN ?_ _ | refine Below.trans ?_ (Below.mono (by assumption) ?_)) | exact Nat.le_refl _ | omega | (simp; done) | (simp; omega) | exact Below.size (by assumption)))
    clear hN hD hb1 HL
    generalize (numbersL xs).length = nn at *
    generalize (chainsL xs (numbersL xs)).length = nc at *
    gi_wp2_with fail
    refine ⟨trivial, (callsIn_wide.2 (issuesOf_any _ _ _ _ _ ⟨A, xs.length, c, rfl⟩)).mono ?_⟩
    rintro e w3 ⟨rfl, rfl⟩
    gi_wp2_with fail
    obtain ⟨wR, hwR⟩ : ∃ W, ((((w1.alloc (.cells #[.slice A xs.length c, .slice AN nn cN, .slice AD nc cD] 118)).alloc (.cells #[.int .i64 0] 3)).alloc (.cells #[.slice A xs.length c, .slice AN nn cN, .slice AD nc cD] 118)).alloc (.cells #[.int .i64 d] 3)) = W := ⟨_, rfl⟩
    have hsR : wR.heap.size = w1.heap.size + 4 := by rw [← hwR]; simp
    have Ml : Lies wR (w1.heap.size + 1) 3 #[.int .i64 0] := by rw [← hwR]; exact ((Lies.new (by simp)).alloc _).alloc _
    have Md : Lies wR (w1.heap.size + 1 + 1) 118 #[.slice A xs.length c, .slice AN nn cN, .slice AD nc cD] := by rw [← hwR]; exact (Lies.new (by simp)).alloc _
    have Mt : Lies wR (w1.heap.size + 1 + 1 + 1) 3 #[.int .i64 d] := by rw [← hwR]; exact Lies.new (by simp)
    have hbR : Below w.heap.size w wR := by rw [← hwR]; (repeat' (first | (with_reducible first | exact Below.refl _ _ | assumption | refine Below.alloc ?_ ?_ _ | refine Below.setCell ?_ ?_ _ | refine below_row ?_ ?_ _ | refine Below.drew ?_ | refine below_drewN ?_ _ | refine Below.trans ?_ (Below.mono (by assumption) ?_)) | exact Nat.le_refl _ | omega | (simp; done) | (simp; omega) | exact Below.size (by assumption)))
    rw [hwR]
    clear hwR
    have hXb : 0 < xs.length → ¬ (b = w1.heap.size + 1) := fun h => by
      have := World.block_lt_of_cell? w _ (HC.out 0 h).1
      have := hbw.size
      rintro rfl
      exact absurd this (by simp only; omega)
    have hIter := isit_any 4 (by omega) (w1.heap.size + 1 + 1) (w1.heap.size + 1 + 1 + 1) A c b off (.slice AN nn cN) (.slice AD nc cD) xs vi vd d (fun g => g = w1.heap.size + 1) wR hlen HSR.out Md Mt HA.out (HC.out.after hbR) (by show ¬ (_ = _); omega) (by show ¬ (_ = _); omega) hXb
    refine range_own (F := Fence.wide) (X := fun g => g = w1.heap.size + 1) rfl (by omega) (gf := 111) rfl trivial (enters_of Try.func111 (by kernel_rfl) rfl) hIter (Below.refl _ _) (fun _ => rfl)
      (fun pre W => Lies W (w1.heap.size + 1) 3 #[.int .i64 (lastI xs pre)] ∧ Below w.heap.size w W)
      (fun _ _ _ => False) ?_ ?_ ⟨Ml, hbR⟩
      (fun pre x a' W => ∃ B, wR.heap.size ≤ B ∧ a' = { tmps := #[.agg #[.slice A xs.length c], .int .i64 d, .pointer (some ⟨w.heap.size, 0, none⟩), undef, .int .i64 0, .int .i64 0, .pointer (some ⟨w1.heap.size, 0, none⟩), .int .i64 0, .pointer (some ⟨w1.heap.size + 1, 0, none⟩), .pointer (some ⟨B, 0, none⟩), .tuple #[.agg #[.slice A xs.length c, .slice AN nn cN, .slice AD nc cD], .int .i64 0], .agg #[.slice A xs.length c], .tuple #[.agg #[.slice A xs.length c, .slice AN nn cN, .slice AD nc cD], .int .i64 0], .agg #[.slice A xs.length c, .slice AN nn cN, .slice AD nc cD], .int .i64 0, .int .i64 0, .bool false, undef, .agg #[.slice A xs.length c, .slice AN nn cN, .slice AD nc cD], .int .i64 d, .func (.func 111) #[] #[.pointer (some ⟨w1.heap.size + 1 + 1, 0, none⟩), .pointer (some ⟨w1.heap.size + 1 + 1 + 1, 0, none⟩)], .agg #[.int .i64 (xs[x].d), .int .i64 (xs[x].l), .int .u8 (xs[x].k), vi x, vd x], undef, undef, undef, undef, undef], defers := [] } ∧ Lies W B 45 #[.int .i64 (xs[x].d), .int .i64 (xs[x].l), .int .u8 (xs[x].k), vi x, vd x] ∧
        Lies W (w1.heap.size + 1) 3 #[.int .i64 (lastI xs pre)] ∧ Below w.heap.size w W) ?_ ?assign ?body ?done ?stop
    · rintro pre A' B row ⟨i2, i4⟩ hg hr
      exact ⟨i2.turned hg (by omega) hr, i4.grown hg (by have := i4.size; omega) (fun k e => by have := hr k e; have := hbw.size; omega)⟩
    · rintro j pre A' B row h hg hr
      exact h
    · rintro pre x a' W l' o o' ⟨B, hB, rfl, j1, j3, j5⟩ hl' ho hcl
      exact ⟨B, hB, rfl, j1.put o' ho hcl, j3.put o' ho hcl, j5.grown (grown_put o') (by have := j5.size; omega) (fun k e => by injection e with e; have := hbw.size; omega)⟩
    case assign =>
      rintro l' pre x W K ⟨i2, i4⟩ hsW hK
      have HI2 := Lib.hid i2
      have HK := Lib.hid hK
      clear i2 hK
      obtain ⟨e1, e2⟩ := HC.out.slices x.2
      unfold encF
      generalize vi x = v1 at *
      generalize vd x = v2 at *
      obtain ⟨A1, n1, c1, rfl⟩ := e1
      obtain ⟨A2, n2, c2, rfl⟩ := e2
      gi_wp2
      refine HK.out _ _ (KeepsOthers.alloc _ _) ⟨by simp, fun g cs t fr _ e => (Below.heap_alloc _ _ g (Array.getElem?_eq_some_iff.1 e).1).trans e⟩ ⟨W.heap.size, hsW, rfl, Lies.made _ _ _, HI2.out.alloc _, i4.alloc (by have := i4.size; omega) _⟩
    case body =>
      rintro l' pre x a' W ⟨B, hB, rfl, j1, j3, j5⟩ hsW
      have x1 := j1.cell 1
      have q0 := j3.cell 0
      have g0 := j3.free 0
      have z0 := j1.lt
      have z1 := j3.lt
      have J3 := Lib.hid j3
      have HLS := Lib.hid (lastI_snoc xs pre x)
      clear j1 j3
      generalize xs[x].l = lx at *
      gi_wp2
      refine ⟨KeepsOthers.setCell _ _ _, CellsKept.stored (X := fun g => g = w1.heap.size + 1) (CellsKept.refl _ _) rfl 0 _, ?_, j5.setCell (p := ⟨w1.heap.size + 1, 0, none⟩) (by have := hbw.size; show _ ≤ w1.heap.size + 1; omega) _⟩
      rw [HLS.out]
      exact J3.out.store 0 _
    case done =>
      rintro D ks W hD rfl ⟨i3, i4⟩ hK
      have HKK := Lib.hid hK
      have q0 := i3.cell 0
      have z1 := i3.lt
      clear i3 hK
      have hS : lastI xs (idxs xs d) = lastS xs d := rfl
      rw [hS] at q0
      clear hS
      generalize lastS xs d = ls at *
      by_cases hz : ls = 0
      · subst hz
        gi_wp2
        refine ⟨by simp, .inl ⟨_, _, rfl, run_takeDeferred HKK.out, ?_⟩⟩
        have HR2 := HR.out
        simp only [↓reduceIte] at HR2
        injection HR2 with e1 e2
        subst e1 e2
        refine ⟨_, results_tmp2 rfl _ _ _, rfl, ?_⟩
        · exact i4.grown (grown_put _) (by have := i4.size; omega) (fun k e => by injection e with e; have := hbw.size; omega)
      · have hz' : (ls == 0) = false := by rw [beq_eq_false_iff_ne]; exact hz
        have HZ := Lib.hid hz
        clear hz
        gi_wp2
        refine ⟨by simp, .inl ⟨_, _, rfl, run_takeDeferred HKK.out, ?_⟩⟩
        have HR2 := HR.out
        rw [if_neg HZ.out] at HR2
        injection HR2 with e1 e2
        subst e1 e2
        refine ⟨_, results_tmp2 rfl _ _ _, rfl, ?_⟩
        · exact i4.grown (grown_put _) (by have := i4.size; omega) (fun k e => by injection e with e; have := hbw.size; omega)
    case stop =>
      rintro D cd pre W hD hpre h
      exact h.elim
  · have HL := Lib.hid (fun W hW => lay_err (HRG.out W hW) h0)
    rw [if_pos h0]
    have hne : (layE xs == 0) = false := by rw [beq_eq_false_iff_ne]; exact h0
    clear h0
    generalize layE xs = ee at *
    go_enter Try.func21, Try.ntmps21
    go_wp2_with fail
    refine (HL.out _ (by (repeat' (first | (with_reducible first | exact Below.refl _ _ | assumption | refine Below.alloc ?_ ?_ _ | refine Below.setCell ?_ ?_ _ | refine below_row ?_ ?_ _ | refine Below.drew ?_ | refine below_drewN ?_ _ | refine Below.trans ?_ (Below.mono (by assumption) ?_)) | exact Nat.le_refl _ | omega | (simp; done) | (simp; omega) | exact Below.size (by assumption))))).mono ?_
    rintro e w1 ⟨rfl, hb1⟩
    have s1 := hb1.size; try simp only [World.size_alloc, World.size_setCell, World.size_drew, setRow_size] at s1
    go_wp2
    go_ret2
    exact ⟨rfl, by (repeat' (first | (with_reducible first | exact Below.refl _ _ | assumption | refine Below.alloc ?_ ?_ _ | refine Below.setCell ?_ ?_ _ | refine below_row ?_ ?_ _ | refine Below.drew ?_ | refine below_drewN ?_ _ | refine Below.trans ?_ (Below.mono (by assumption) ?_)) | exact Nat.le_refl _ | omega | (simp; done) | (simp; omega) | exact Below.size (by assumption)))⟩
end
section
open Go.RowKit

/-- Items with drawings up to 9999. -/
def lowB (x : Iss) : Prop := ∀ it ∈ x.items, it.1 ≤ 9999
theorem itemsB_iff {d : Int} : ∀ {l : List (Int × Int)} {last : Int}, itemsB d last l = true ↔ (∀ it ∈ l, it.1 ≠ d ∧ 1 ≤ it.2 ∧ it.2 ≤ 20) ∧ ∀ j (h : j < l.length), (if j = 0 then last else (l[j - 1]'(by omega)).1) < l[j].1
  | [], last => by simp [itemsB]
  | it :: r, last => by
    rw [itemsB]
    by_cases h : it.1 = d ∨ it.1 ≤ last ∨ ¬ (1 ≤ it.2 ∧ it.2 ≤ 20)
    · rw [if_pos h]
      constructor
      · intro e; cases e
      · rintro ⟨h1, h2⟩
        have a := h1 it (by simp)
        have b := h2 0 (by simp)
        simp at b
        rcases h with h | h | h
        · exact absurd h a.1
        · omega
        · exact absurd a.2 h
    · rw [if_neg h, itemsB_iff]
      constructor
      · rintro ⟨h1, h2⟩
        refine ⟨fun z hz => ?_, fun j hj => ?_⟩
        · rcases List.mem_cons.1 hz with rfl | hz
          · exact ⟨fun e => h (.inl e), by omega, by omega⟩
          · exact h1 z hz
        · cases j with
          | zero => simp; omega
          | succ j =>
            have := h2 j (by simpa using hj)
            cases j with
            | zero => simpa using this
            | succ j => simpa using this
      · rintro ⟨h1, h2⟩
        refine ⟨fun z hz => h1 z (List.mem_cons_of_mem _ hz), fun j hj => ?_⟩
        have := h2 (j + 1) (by simpa using hj)
        cases j with
        | zero => simpa using this
        | succ j => simpa using this
theorem itemsB_low : ∀ {l : List (Int × Int)} {d last : Int}, itemsB d last l = true → ∀ it ∈ l, last < it.1
  | [], _, _, _, _, h => by cases h
  | x :: r, d, last, h, it, hit => by
    rw [itemsB] at h
    split at h
    · cases h
    · rename_i hn
      rcases List.mem_cons.1 hit with rfl | hit
      · omega
      · have := itemsB_low h it hit; omega
theorem itemsR_iff {d : Int} {l : List (Int × Int)} : itemsR d l = true ↔ itemsB d 0 l = true ∧ ∀ it ∈ l, it.1 ≤ 9999 := by
  constructor
  · intro h
    have hj : ∀ j (h : j < l.length), itemR d l j = true := fun j h2 => by
      unfold itemsR at h; rw [List.all_eq_true] at h; exact h j (List.mem_range.2 h2)
    have hk : ∀ j (h : j < l.length), (1 ≤ l[j].1 ∧ l[j].1 ≤ 9999) ∧ (1 ≤ l[j].2 ∧ l[j].2 ≤ 20) ∧ l[j].1 ≠ d ∧ (j = 0 ∨ (l[j - 1]'(by omega)).1 < l[j].1) := fun j h2 => by
      have := hj j h2
      unfold itemR at this
      rw [dif_pos h2] at this
      simp only [Bool.and_eq_true, Bool.or_eq_true, Bool.not_eq_true', decide_eq_true_eq, decide_eq_false_iff_not, inB] at this
      exact ⟨this.1.1.1, this.1.1.2, this.1.2, this.2⟩
    rw [itemsB_iff]
    refine ⟨⟨fun it hit => ?_, fun j h2 => ?_⟩, fun it hit => ?_⟩
    · obtain ⟨j, h2, rfl⟩ := List.getElem_of_mem hit
      have := hk j h2; exact ⟨this.2.2.1, this.2.1.1, this.2.1.2⟩
    · have := hk j h2
      split
      · omega
      · rcases this.2.2.2 with e | e
        · contradiction
        · exact e
    · obtain ⟨j, h2, rfl⟩ := List.getElem_of_mem hit
      exact (hk j h2).1.2
  · rintro ⟨h, h9⟩
    have hlo := itemsB_low h
    rw [itemsB_iff] at h
    apply itemsR_yes
    intro j h2
    have hm : l[j] ∈ l := List.getElem_mem h2
    have a := h.1 _ hm
    have b := h.2 j h2
    have c := h9 _ hm
    have e := hlo _ hm
    unfold itemR
    rw [dif_pos h2]
    simp only [Bool.and_eq_true, Bool.or_eq_true, Bool.not_eq_true', decide_eq_true_eq, decide_eq_false_iff_not, inB]
    refine ⟨⟨⟨⟨by omega, by omega⟩, a.2⟩, a.1⟩, ?_⟩
    by_cases e : j = 0
    · exact .inl e
    · rw [if_neg e] at b; exact .inr b
theorem dims_iff {l : List D3} : dimsR l = true ↔ measuredB.badD0 l = false := by
  unfold dimsR measuredB.badD0
  rw [List.all_eq_true, List.any_eq_false]
  simp
theorem issueR_iff {x : Iss} : issueR x = true ↔ (namedB x = true ∧ madeB x = true ∧ measuredB x = true) ∧ lowB x := by
  unfold issueR headR
  simp only [Bool.and_eq_true, itemsR_iff, dims_iff]
  unfold madeB measuredB lowB
  by_cases hk : x.k = 1
  · simp only [if_pos hk, Bool.and_eq_true, decide_eq_true_eq]
    constructor
    · rintro ⟨⟨⟨h1, h2, h3⟩, h4, h5⟩, h6⟩
      exact ⟨⟨h1, ⟨h2, h4⟩, h3⟩, h5⟩
    · rintro ⟨⟨h1, ⟨h2, h4⟩, h3⟩, h5⟩
      refine ⟨⟨⟨h1, h2, h3⟩, h4, h5⟩, ?_⟩
      rw [List.length_eq_zero_iff.1 h3]; rfl
  · simp only [if_neg hk, Bool.and_eq_true, decide_eq_true_eq, Bool.not_eq_true']
    constructor
    · rintro ⟨⟨⟨h1, h2, h3⟩, h4, h5⟩, h6⟩
      exact ⟨⟨h1, h3, h2, h6⟩, h5⟩
    · rintro ⟨⟨h1, h3, h2, h6⟩, h5⟩
      refine ⟨⟨⟨h1, h2, h3⟩, ?_, h5⟩, h6⟩
      rw [List.length_eq_zero_iff.1 h3]; rfl
theorem rightR_iff : ∀ {xs : List Iss} {b : Iss}, rightR b xs = true ↔ rightB b xs = true ∧ ∀ x ∈ xs, lowB x
  | [], b => by simp [rightR, rightB]
  | x :: r, b => by
    rw [rightR, rightB, metB]
    simp only [Bool.and_eq_true, rightR_iff, issueR_iff]
    constructor
    · rintro ⟨⟨⟨⟨h1, h2, h3⟩, h4⟩, h5⟩, h6, h7⟩
      refine ⟨⟨⟨⟨⟨h1, h5⟩, h2⟩, h3⟩, h6⟩, fun z hz => ?_⟩
      rcases List.mem_cons.1 hz with rfl | hz
      · exact h4
      · exact h7 z hz
    · rintro ⟨⟨⟨⟨⟨h1, h5⟩, h2⟩, h3⟩, h6⟩, h7⟩
      exact ⟨⟨⟨⟨h1, h2, h3⟩, h7 x (by simp)⟩, h5⟩, h6, fun z hz => h7 z (List.mem_cons_of_mem _ hz)⟩
/-- The numbers behind a number. -/
def nfR : Option Int → List Iss → List Int
  | _, [] => []
  | p, x :: r => (if p = some x.d then [] else [x.d]) ++ nfR (some x.d) r
theorem numbersR_from {xs : List Iss} : ∀ (m k : Nat), k + m = xs.length → ((List.range' k m).flatMap fun k => if h : k < xs.length then (if k = 0 then [xs[k].d] else if (xs[k - 1]'(by omega)).d = xs[k].d then [] else [xs[k].d]) else []) = nfR (if h : 0 < k ∧ k - 1 < xs.length then some xs[k - 1].d else none) (xs.drop k)
  | 0, k, h => by
    rw [List.drop_of_length_le (by omega)]; rfl
  | m + 1, k, h => by
    have hk : k < xs.length := by omega
    rw [List.range'_succ, List.flatMap_cons, numbersR_from m (k + 1) (by omega), List.drop_eq_getElem_cons hk, nfR, dif_pos hk]
    congr 1
    · by_cases e : k = 0
      · subst e; simp
      · rw [if_neg e, dif_pos ⟨by omega, by omega⟩]
        simp only [Option.some.injEq]
    · rw [dif_pos ⟨by omega, by simpa using hk⟩]
      simp
theorem numbersR_nf (xs : List Iss) : numbersR xs = nfR none xs := by
  unfold numbersR
  rw [List.range_eq_range', numbersR_from xs.length 0 (by omega)]
  simp
theorem nfR_right : ∀ {xs : List Iss} {b : Iss} {p : Option Int}, rightB b xs = true → (p = some b.d ∧ 1 ≤ b.l ∨ p = none ∧ b.d = 0) → nfR p xs = numbersL xs
  | [], _, _, _, _ => rfl
  | x :: r, b, p, h, hp => by
    obtain ⟨h1, h2⟩ := right_cons h
    obtain ⟨hn, ho, -, -⟩ := met_parts h1
    have hn := namedB_iff.1 hn
    rw [nfR, numbersL_cons, nfR_right h2 (.inl ⟨rfl, by omega⟩)]
    have ho := orderB_iff.1 ho
    rcases hp with ⟨rfl, hb⟩ | ⟨rfl, hb⟩
    · simp only [Option.some.injEq]
      rcases ho with ⟨e1, e2, -⟩ | ⟨e1, e2⟩
      · rw [if_pos e1.symm, if_neg (by omega)]; rfl
      · rw [if_neg (by omega), if_pos e2]; rfl
    · rcases ho with ⟨e1, e2, -⟩ | ⟨e1, e2⟩
      · omega
      · rw [if_neg (by simp), if_pos e2]; rfl
theorem numbers_same {xs : List Iss} (h : rightB zeroI xs = true) : numbersR xs = numbersL xs := by
  rw [numbersR_nf, nfR_right h (.inr ⟨rfl, rfl⟩)]
theorem listed_iff {xs : List Iss} : listedR xs = true ↔ inB 1 60 xs.length = true ∧ rightB zeroI xs = true ∧ (numbersL xs).length ≤ 20 ∧ completeB xs (numbersL xs) = true := by
  unfold listedR
  simp only [Bool.and_eq_true, decide_eq_true_eq, rightR_iff]
  constructor
  · rintro ⟨⟨⟨h1, h2, h3⟩, h4⟩, h5⟩
    rw [numbers_same h2] at h4 h5
    exact ⟨h1, h2, h5, h4⟩
  · rintro ⟨h1, h2, h5, h4⟩
    rw [numbers_same h2]
    refine ⟨⟨⟨h1, h2, fun x hx it hit => ?_⟩, h4⟩, h5⟩
    exact (numbers_in h2 _ (complete_mem h4 x hx it hit)).2
theorem right_shut {xs : List Iss} (h : rightB zeroI xs = true) (hc : completeB xs (numbersL xs) = true) : Shut xs (numbersL xs) :=
  ⟨fun y hy => by obtain ⟨x, hx, -, e⟩ := numbers_mem hy; exact ⟨x, hx, e⟩, complete_mem hc⟩
/-- The reference's Check. -/
def checkR (xs : List Iss) : Int := if listedR xs = false then 20 else circR (numbersR xs).length ((numbersR xs).map (depF xs ((numbersR xs).length + 1)))
theorem check_same (xs : List Iss) : checkR xs = layE xs := by
  unfold checkR
  by_cases hl : listedR xs = true
  · rw [if_neg (by rw [hl]; decide)]
    obtain ⟨h1, h2, h3, h4⟩ := listed_iff.1 hl
    rw [numbers_same h2]
    have hpos : 0 < (numbersL xs).length := by
      cases xs with
      | nil => exact absurd h1 (by decide)
      | cons x r => exact List.length_pos_of_mem (numbers_has h2 x (by simp))
    rw [circ_same (right_shut h2 h4) hpos]
    unfold layE
    rw [if_neg (show ¬ ((inB 1 60 xs.length && rightB zeroI xs) = false) by rw [h1, h2]; decide), if_neg (show ¬ ((decide ((numbersL xs).length ≤ 20) && completeB xs (numbersL xs)) = false) by rw [h4, decide_eq_true h3]; decide)]
  · rw [if_pos (by simpa using hl)]
    unfold layE
    by_cases h1 : (inB 1 60 xs.length && rightB zeroI xs) = false
    · rw [if_pos h1]
    · rw [if_neg h1]
      by_cases h2 : (decide ((numbersL xs).length ≤ 20) && completeB xs (numbersL xs)) = false
      · rw [if_pos h2]
      · exfalso
        apply hl
        rw [listed_iff]
        simp only [Bool.not_eq_false, Bool.and_eq_true, decide_eq_true_eq] at h1 h2
        exact ⟨h1.1, h1.2, h2.1, h2.2⟩
/-- Behind a right Check, the reference's depths are the program's chains. -/
theorem depths_same {xs : List Iss} (h : layE xs = 0) : (numbersR xs).map (depF xs ((numbersR xs).length + 1)) = chainsL xs (numbersL xs) := by
  obtain ⟨-, h2, -, h4, h5, -⟩ := layE_ok h
  rw [numbers_same h2]
  unfold chainsL
  apply List.map_congr_left
  intro y hy
  rw [dep_same (right_shut h2 h4) hy, if_neg]
  intro e
  exact h5 (List.mem_map.2 ⟨y, hy, e⟩)
theorem last_fold (d : Int) : ∀ (xs : List Iss) (p : Int), ((xs.filter fun x => decide (x.d = d)).getLast?.map (·.l)).getD p = xs.foldl (fun n x => if x.d = d then x.l else n) p
  | [], p => rfl
  | x :: r, p => by
    rw [List.foldl_cons, ← last_fold d r]
    by_cases e : x.d = d
    · rw [if_pos e, List.filter_cons_of_pos (by simpa using e), List.getLast?_cons]
      cases (r.filter fun x => decide (x.d = d)).getLast? <;> rfl
    · rw [if_neg e, List.filter_cons_of_neg (by simpa using e)]
theorem idxs_map (xs : List Iss) (d : Int) : (idxs xs d).map (fun k => xs[k]) = xs.filter fun x => decide (x.d = d) := by
  unfold idxs
  have h : (List.finRange xs.length).map (fun k => xs[k]) = xs := by
    apply List.ext_getElem
    · simp
    · intro i h1 h2; simp
  conv => rhs; rw [← h]
  rw [List.filter_map]
  rfl
theorem lastS_fold (xs : List Iss) (d : Int) : lastS xs d = xs.foldl (fun n x => if x.d = d then x.l else n) 0 := by
  rw [← last_fold]
  unfold lastS lastI
  rw [← idxs_map, List.getLast?_map]
  simp [Function.comp_def]
theorem last_right {d : Int} : ∀ {xs : List Iss} {b : Iss} {n : Int}, rightB b xs = true → (b.d = d → n = b.l) → (b.d < d → n = 0) → 0 ≤ n → lastOfR d n xs = xs.foldl (fun n x => if x.d = d then x.l else n) n
  | [], _, _, _, _, _, _ => rfl
  | x :: r, b, n, h, h1, h2, h3 => by
    obtain ⟨h4, h5⟩ := right_cons h
    obtain ⟨hn, ho, -, -⟩ := met_parts h4
    have hn := namedB_iff.1 hn
    have ho := orderB_iff.1 ho
    rw [List.foldl_cons, lastOfR]
    by_cases e : x.d = d
    · have hm : max n x.l = x.l := by
        rcases ho with ⟨e1, e2, -⟩ | ⟨e1, e2⟩
        · have := h1 (by omega); omega
        · have := h2 (by omega); omega
      simp only [if_pos e, hm]
      exact last_right h5 (fun _ => rfl) (fun h => by omega) (by omega)
    · simp only [if_neg e]
      refine last_right h5 (fun h => absurd h e) (fun h => ?_) h3
      rcases ho with ⟨e1, e2, -⟩ | ⟨e1, e2⟩
      · exact h2 (by omega)
      · exact h2 (by omega)
theorem last_same {xs : List Iss} {d : Int} (h : rightB zeroI xs = true) : lastOfR d 0 xs = lastS xs d := by
  rw [lastS_fold]
  exact last_right h (fun _ => rfl) (fun _ => rfl) (Int.le_refl _)
end
section
open Go.RowKit

/-- The place of the first issue with a name; the list's length if there is none. -/
def idxN (xs : List Iss) (d l : Int) : Nat := xs.findIdx fun x => decide (x.d = d) && decide (x.l = l)
def hasN (xs : List Iss) (d l : Int) : Bool := decide (idxN xs d l < xs.length)
theorem hasN_iff {xs : List Iss} {d l : Int} : hasN xs d l = true ↔ ∃ x ∈ xs, x.d = d ∧ x.l = l := by
  unfold hasN idxN
  rw [decide_eq_true_eq, List.findIdx_lt_length]
  simp only [Bool.and_eq_true, decide_eq_true_eq]
theorem idxN_at {xs : List Iss} {d l : Int} (h : idxN xs d l < xs.length) : xs[idxN xs d l].d = d ∧ xs[idxN xs d l].l = l := by
  have := List.findIdx_getElem (xs := xs) (p := fun x : Iss => decide (x.d = d) && decide (x.l = l)) (w := h)
  rw [Bool.and_eq_true, decide_eq_true_eq, decide_eq_true_eq] at this
  exact this
theorem idxN_first {xs : List Iss} {d l : Int} {k : Nat} (hk : k < xs.length) (h1 : xs[k].d = d ∧ xs[k].l = l) (h2 : ∀ j (hj : j < xs.length), j < k → ¬ (xs[j].d = d ∧ xs[j].l = l)) : idxN xs d l = k := by
  have hlt : idxN xs d l < xs.length := by
    have := hasN_iff.2 ⟨xs[k], List.getElem_mem hk, h1⟩
    unfold hasN at this
    exact of_decide_eq_true this
  have ha := idxN_at hlt
  rcases Nat.lt_trichotomy (idxN xs d l) k with h | h | h
  · exact absurd ha (h2 _ hlt h)
  · exact h
  · exfalso
    have := List.not_of_lt_findIdx (p := fun x : Iss => decide (x.d = d) && decide (x.l = l)) (xs := xs) (i := k) h
    simp [h1] at this
theorem idxN_none {xs : List Iss} {d l : Int} (h : ∀ j (hj : j < xs.length), ¬ (xs[j].d = d ∧ xs[j].l = l)) : hasN xs d l = false := by
  rw [← Bool.not_eq_true, hasN_iff]
  rintro ⟨x, hx, h1⟩
  obtain ⟨j, hj, rfl⟩ := List.getElem_of_mem hx
  exact h j hj h1

theorem lastOfR_ge {d : Int} : ∀ {xs : List Iss} {n : Int}, n ≤ lastOfR d n xs
  | [], n => Int.le_refl _
  | x :: r, n => by
    rw [lastOfR]
    split
    · exact Int.le_trans (by omega) (lastOfR_ge (xs := r) (n := max n x.l))
    · exact lastOfR_ge
theorem lastOfR_none {d : Int} : ∀ {xs : List Iss} {n : Int}, (∀ x ∈ xs, x.d ≠ d) → lastOfR d n xs = n
  | [], n, _ => rfl
  | x :: r, n, h => by
    rw [lastOfR, if_neg (h x (by simp))]
    exact lastOfR_none (fun y hy => h y (List.mem_cons_of_mem _ hy))
theorem letters_between {d l : Int} : ∀ {xs : List Iss} {b : Iss} {n : Int}, rightB b xs = true → (b.d = d → n = b.l) → (b.d < d → n = 0) → b.d ≤ d → ((∃ x ∈ xs, x.d = d ∧ x.l = l) ↔ n < l ∧ l ≤ lastOfR d n xs)
  | [], b, n, _, _, _, _ => by
    rw [lastOfR]
    constructor
    · rintro ⟨x, hx, -⟩; cases hx
    · intro h; omega
  | y :: r, b, n, h, h1, h2, h3 => by
    obtain ⟨h4, h5⟩ := right_cons h
    obtain ⟨hn, ho, -, -⟩ := met_parts h4
    have hn := namedB_iff.1 hn
    have hsplit : (∃ x ∈ y :: r, x.d = d ∧ x.l = l) ↔ (y.d = d ∧ y.l = l) ∨ ∃ x ∈ r, x.d = d ∧ x.l = l := by simp [List.mem_cons, or_and_right, exists_or]
    rw [hsplit, lastOfR]
    rcases Int.lt_trichotomy y.d d with e | e | e
    · rw [if_neg (by omega), letters_between (l := l) (n := n) h5 (fun e2 => by omega) (fun _ => ?_) (by omega)]
      · constructor
        · rintro (h6 | h6)
          · omega
          · exact h6
        · exact fun h6 => .inr h6
      · rcases orderB_iff.1 ho with ⟨e1, -, -⟩ | ⟨e1, -⟩
        · exact h2 (by omega)
        · exact h2 (by omega)
    · have hyl : y.l = n + 1 ∧ max n y.l = y.l := by
        rcases orderB_iff.1 ho with ⟨e1, e2, -⟩ | ⟨e1, e2⟩
        · have := h1 (by omega); omega
        · have := h2 (by omega); omega
      rw [if_pos e, hyl.2]
      have hge := lastOfR_ge (d := d) (xs := r) (n := y.l)
      rw [letters_between (l := l) (b := y) (n := y.l) h5 (fun _ => rfl) (fun e2 => by omega) (by omega)]
      constructor
      · rintro (h6 | h6)
        · omega
        · omega
      · intro h6
        by_cases e3 : y.l = l
        · exact .inl ⟨e, e3⟩
        · exact .inr (by omega)
    · have hno : ∀ x ∈ r, x.d ≠ d := fun x hx => by have := right_ge h5 x hx; omega
      rw [if_neg (by omega), lastOfR_none hno]
      constructor
      · rintro (h6 | ⟨x, hx, h6, -⟩)
        · omega
        · exact absurd h6 (hno x hx)
      · intro h6; omega
theorem letter_iff {xs : List Iss} {d l : Int} (h : rightB zeroI xs = true) (hd : 1 ≤ d) : hasN xs d l = inB 1 (lastOfR d 0 xs) l := by
  have := letters_between (d := d) (l := l) (n := 0) h (fun e => by simp [zeroI] at e; omega) (fun _ => rfl) (by simp [zeroI]; omega)
  unfold inB
  rw [Bool.eq_iff_iff, hasN_iff, this, decide_eq_true_eq]
  omega

/-- Whether a list is letters; which issues they choose. -/
def lettersB (xs : List Iss) (zs ls : List Int) : Bool := decide (ls.length = zs.length) && (List.zipWith (hasN xs) zs ls).all id
def qsL (xs : List Iss) (zs ls : List Int) : List Nat := List.zipWith (idxN xs) zs ls
theorem lettersB_iff {xs : List Iss} {zs ls : List Int} : lettersB xs zs ls = true ↔ ls.length = zs.length ∧ ∀ i (h : i < zs.length) (h2 : i < ls.length), hasN xs zs[i] ls[i] = true := by
  unfold lettersB
  rw [Bool.and_eq_true, decide_eq_true_eq, List.all_eq_true]
  constructor
  · rintro ⟨h1, h2⟩
    refine ⟨h1, fun i hi hi2 => ?_⟩
    exact h2 _ (List.mem_iff_getElem.2 ⟨i, by simp; omega, List.getElem_zipWith⟩)
  · rintro ⟨h1, h2⟩
    refine ⟨h1, fun x hx => ?_⟩
    obtain ⟨i, hi, rfl⟩ := List.getElem_of_mem hx
    simp only [List.length_zipWith] at hi
    simp only [List.getElem_zipWith, id]
    exact h2 i (by omega) (by omega)
theorem lettersB_no {xs : List Iss} {zs ls : List Int} {i : Nat} (h : i < zs.length) (h2 : i < ls.length) (hn : hasN xs zs[i] ls[i] = false) : lettersB xs zs ls = false := by
  rw [← Bool.not_eq_true, lettersB_iff]
  rintro ⟨-, h3⟩
  rw [h3 i h h2] at hn; cases hn
theorem qsL_len {xs : List Iss} {zs ls : List Int} (h : ls.length = zs.length) : (qsL xs zs ls).length = zs.length := by unfold qsL; simp; omega
/-- The place of the issue that is taken of a drawing. -/
def qOf (xs : List Iss) (zs ls : List Int) (d : Int) : Nat := idxN xs d (ls.getD (idxL zs d).toNat 0)
theorem qOf_at {xs : List Iss} {zs ls : List Int} {d : Int} {p : Nat} (hp : p < zs.length) (hz : zs[p] = d) (hi : idxL zs d = p) (hl : p < ls.length) : qOf xs zs ls d = idxN xs d ls[p] := by
  unfold qOf; rw [hi]; simp [hl]
/-- What is taken of the drawings zs: places of their issues; items are drawings; ranks fall. -/
structure Kit (xs : List Iss) (zs : List Int) (q rk : Int → Nat) : Prop where
  lt : ∀ d ∈ zs, q d < xs.length
  d_ : ∀ d ∈ zs, ∀ h : q d < xs.length, xs[q d].d = d
  items : ∀ x ∈ xs, x.items.length ≤ 8 ∧ (x.k ≠ 1 → x.items = []) ∧ ∀ it ∈ x.items, it.1 ∈ zs ∧ 1 ≤ it.2 ∧ it.2 ≤ 20
  rank : ∀ x ∈ xs, ∀ it ∈ x.items, rk it.1 + 1 ≤ rk x.d
  pos : ∀ d ∈ zs, 1 ≤ rk d
  le : ∀ d ∈ zs, rk d ≤ 6
  nin : ∀ d ∈ zs, 1 ≤ d ∧ d ≤ 9999
theorem dep_item {xs : List Iss} (h : layE xs = 0) {x : Iss} (hx : x ∈ xs) {it : Int × Int} (hit : it ∈ x.items) : depW xs (numbersL xs) (numbersL xs).length it.1 + 1 ≤ depW xs (numbersL xs) (numbersL xs).length x.d := by
  obtain ⟨-, h2, -, h4, h5, -⟩ := layE_ok h
  have hs := right_shut h2 h4
  have hd := numbers_has h2 x hx
  have hi := complete_mem h4 x hx it hit
  have hne : ∀ y ∈ numbersL xs, depW xs (numbersL xs) (numbersL xs).length y ≠ 0 := fun y hy e => h5 (List.mem_map.2 ⟨y, hy, e⟩)
  have e1 := dep_same hs hd (numbersL xs).length
  have e2 := dep_same hs hi (numbersL xs).length
  rw [if_neg (hne _ hd)] at e1
  rw [if_neg (hne _ hi)] at e2
  have b1 := depW_le (xs := xs) hd (numbersL xs).length
  have h6 := ((depF_le (xs := xs) (k := (numbersL xs).length) (v := depF xs ((numbersL xs).length + 1) x.d) (y := x.d)).1 (Int.le_refl _)).2 x hx rfl
  have h7 := h6.2 it hit
  have h0 := (depF_bd xs (numbersL xs).length it.1).1
  obtain ⟨k, hk⟩ : ∃ k : Nat, depF xs (numbersL xs).length it.1 = k := ⟨(depF xs (numbersL xs).length it.1).toNat, by omega⟩
  have h8 := depF_monos (xs := xs) (show k + 1 ≤ (numbersL xs).length by omega) it.1
  have h9 := depF_stable (xs := xs) k it.1 (by omega) ((numbersL xs).length + 1)
  omega
def rkOf (xs : List Iss) (d : Int) : Nat := (depW xs (numbersL xs) (numbersL xs).length d).toNat
theorem itemsB_bounds {d last : Int} {l : List (Int × Int)} (h : itemsB d last l = true) : ∀ it ∈ l, 1 ≤ it.2 ∧ it.2 ≤ 20 := fun it hit => ⟨((itemsB_iff.1 h).1 it hit).2.1, ((itemsB_iff.1 h).1 it hit).2.2⟩
theorem kit_of {xs : List Iss} (h : layE xs = 0) {ls : List Int} (hl : lettersB xs (numbersL xs) ls = true) : Kit xs (numbersL xs) (qOf xs (numbersL xs) ls) (rkOf xs) := by
  obtain ⟨-, h2, -, h4, h5, h6⟩ := layE_ok h
  obtain ⟨h7, h8⟩ := lettersB_iff.1 hl
  have hq : ∀ d ∈ numbersL xs, ∃ p, ∃ hp : p < (numbersL xs).length, (numbersL xs)[p] = d ∧ qOf xs (numbersL xs) ls d = idxN xs d (ls[p]'(by omega)) ∧ hasN xs d (ls[p]'(by omega)) = true := fun d hd => by
    obtain ⟨p, hp, ⟨hp', hz⟩, hi⟩ := idx_spec hd
    refine ⟨p, hp, hz, qOf_at hp hz hi (by omega), ?_⟩
    have := h8 p hp (by omega)
    rwa [hz] at this
  have hb : ∀ d ∈ numbersL xs, 1 ≤ depW xs (numbersL xs) (numbersL xs).length d ∧ depW xs (numbersL xs) (numbersL xs).length d ≤ 6 := fun d hd => by
    have hm : depW xs (numbersL xs) (numbersL xs).length d ∈ chainsL xs (numbersL xs) := List.mem_map.2 ⟨d, hd, rfl⟩
    have h0 : depW xs (numbersL xs) (numbersL xs).length d ≠ 0 := fun e => h5 (e ▸ hm)
    have h9 := depW_le (xs := xs) hd (numbersL xs).length
    have h10 := (maxL_le (List.length_pos_of_mem hm)).1 h6 _ hm
    omega
  refine ⟨fun d hd => ?_, fun d hd hlt => ?_, fun x hx => ?_, fun x hx it hit => ?_, fun d hd => ?_, fun d hd => ?_, fun d hd => numbers_in h2 d hd⟩
  · obtain ⟨p, hp, hz, e, hh⟩ := hq d hd
    rw [e]; exact of_decide_eq_true hh
  · obtain ⟨p, hp, hz, e, hh⟩ := hq d hd
    simp only [e] at hlt ⊢
    exact (idxN_at hlt).1
  · obtain ⟨-, hm, -⟩ := right_named h2 x hx
    unfold madeB at hm
    by_cases e : x.k = 1
    · rw [if_pos e, Bool.and_eq_true] at hm
      have h9 := hm.1
      unfold inB at h9
      simp at h9
      exact ⟨by omega, fun e2 => absurd e e2, fun it hit => ⟨complete_mem h4 x hx it hit, itemsB_bounds hm.2 it hit⟩⟩
    · rw [if_neg e, decide_eq_true_eq] at hm
      have h9 : x.items = [] := List.length_eq_zero_iff.1 hm
      rw [h9]
      exact ⟨by simp, fun _ => rfl, fun it hit => by cases hit⟩
  · have := dep_item h hx hit
    have h9 := hb it.1 (complete_mem h4 x hx it hit)
    unfold rkOf
    omega
  · have := hb d hd; unfold rkOf; omega
  · have := hb d hd; unfold rkOf; omega

/-- What is added, part by part, below a drawing that is needed c times. -/
def addsL (xs : List Iss) (q : Int → Nat) : Nat → Int → Int → List (Int × Int)
  | 0, _, _ => []
  | k + 1, d, c => (if (xs.getD (q d) zeroI).k = 1 then [] else [(d, c)]) ++ (xs.getD (q d) zeroI).items.flatMap fun it => addsL xs q k it.1 (c * it.2)
def sumL (l : List (Int × Int)) (y : Int) : Int := (l.map fun p => if p.1 = y then p.2 else 0).sum
theorem sumL_nil (y : Int) : sumL [] y = 0 := rfl
theorem sumL_one (d c y : Int) : sumL [(d, c)] y = if d = y then c else 0 := by simp [sumL]
theorem sumL_app (a b : List (Int × Int)) (y : Int) : sumL (a ++ b) y = sumL a y + sumL b y := by simp [sumL, List.sum_append]
theorem flat_step {α β : Type} {l : List α} {f : α → List β} {j : Nat} (h : j < l.length) : (l.take (j + 1)).flatMap f = (l.take j).flatMap f ++ f l[j] := by
  rw [List.take_succ_eq_append_getElem h, List.flatMap_append]; simp
/-- How much can be added. -/
def bnd : Nat → Int → Int
  | 0, c => c
  | k + 1, c => 160 * bnd k c
theorem bnd_nonneg : ∀ (k : Nat) {c : Int}, 0 ≤ c → 0 ≤ bnd k c
  | 0, _, h => h
  | k + 1, _, h => by have := bnd_nonneg k h; rw [bnd]; omega
theorem bnd_ge : ∀ (k : Nat) {c : Int}, 0 ≤ c → c ≤ bnd k c
  | 0, _, h => Int.le_refl _
  | k + 1, c, h => by have := bnd_ge k h; rw [bnd]; omega
theorem mul_bd {c n : Int} (hc : 0 ≤ c) (h1 : 1 ≤ n) (h2 : n ≤ 20) : c ≤ c * n ∧ c * n ≤ 20 * c := by
  constructor
  · have := Int.mul_le_mul_of_nonneg_left h1 hc; omega
  · have := Int.mul_le_mul_of_nonneg_left h2 hc; omega
theorem bnd_mono : ∀ (k : Nat) {a b : Int}, a ≤ b → bnd k a ≤ bnd k b
  | 0, _, _, h => h
  | k + 1, _, _, h => by have := bnd_mono k h; rw [bnd, bnd]; omega
theorem bnd_lin : ∀ (k : Nat) (c : Int), bnd k (20 * c) = 20 * bnd k c
  | 0, _ => rfl
  | k + 1, c => by rw [bnd, bnd, bnd_lin k]; omega
theorem bnd_mul (k : Nat) {c n : Int} (hc : 0 ≤ c) (h1 : 1 ≤ n) (h2 : n ≤ 20) : 0 ≤ bnd k (c * n) ∧ bnd k (c * n) ≤ 20 * bnd k c := by
  have h := mul_bd hc h1 h2
  refine ⟨bnd_nonneg k (by omega), ?_⟩
  rw [← bnd_lin]
  exact bnd_mono k h.2
theorem sum_items {k : Nat} {f : Int → Int → List (Int × Int)} {c y : Int} (hc : 0 ≤ c) : ∀ {l : List (Int × Int)}, (∀ it ∈ l, 1 ≤ it.2 ∧ it.2 ≤ 20) → (∀ it ∈ l, ∀ c, 0 ≤ c → 0 ≤ sumL (f it.1 c) y ∧ sumL (f it.1 c) y ≤ bnd k c) →
    0 ≤ sumL (l.flatMap fun it => f it.1 (c * it.2)) y ∧ sumL (l.flatMap fun it => f it.1 (c * it.2)) y ≤ l.length * (20 * bnd k c)
  | [], _, _ => by simp [sumL]
  | it :: r, h1, h2 => by
    have hi := h1 it (by simp)
    have hm := mul_bd hc hi.1 hi.2
    have hb := bnd_mul k hc hi.1 hi.2
    have h3 := h2 it (by simp) (c * it.2) (by omega)
    have h4 := sum_items (k := k) (f := f) (y := y) hc (l := r) (fun z hz => h1 z (List.mem_cons_of_mem _ hz)) (fun z hz => h2 z (List.mem_cons_of_mem _ hz))
    rw [List.flatMap_cons, sumL_app, List.length_cons]
    have h5 : ((r.length + 1 : Nat) : Int) * (20 * bnd k c) = r.length * (20 * bnd k c) + 20 * bnd k c := by
      rw [Int.natCast_add, Int.add_mul]; omega
    rw [h5]
    omega
section
variable {xs : List Iss} {zs : List Int} {q rk : Int → Nat}
theorem Kit.get (K : Kit xs zs q rk) {d : Int} (hd : d ∈ zs) : xs.getD (q d) zeroI = xs[q d]'(K.lt d hd) := by
  rw [List.getD_eq_getElem?_getD, List.getElem?_eq_getElem (K.lt d hd)]; rfl
theorem Kit.itm (K : Kit xs zs q rk) {d : Int} (hd : d ∈ zs) : (xs.getD (q d) zeroI).items.length ≤ 8 ∧ ((xs.getD (q d) zeroI).k ≠ 1 → (xs.getD (q d) zeroI).items = []) ∧ ∀ it ∈ (xs.getD (q d) zeroI).items, (it.1 ∈ zs ∧ 1 ≤ it.2 ∧ it.2 ≤ 20) ∧ rk it.1 + 1 ≤ rk d := by
  rw [K.get hd]
  obtain ⟨h1, h2, h3⟩ := K.items _ (List.getElem_mem (K.lt d hd))
  refine ⟨h1, h2, fun it hit => ⟨h3 it hit, ?_⟩⟩
  have := K.rank _ (List.getElem_mem (K.lt d hd)) it hit
  rwa [K.d_ d hd (K.lt d hd)] at this
theorem adds_bd (K : Kit xs zs q rk) (y : Int) : ∀ (k : Nat) (d : Int), d ∈ zs → ∀ c, 0 ≤ c → 0 ≤ sumL (addsL xs q k d c) y ∧ sumL (addsL xs q k d c) y ≤ bnd k c
  | 0, d, _, c, hc => ⟨Int.le_refl _, hc⟩
  | k + 1, d, hd, c, hc => by
    obtain ⟨h1, h2, h3⟩ := K.itm hd
    have hs := sum_items (k := k) (f := addsL xs q k) (c := c) (y := y) hc (l := (xs.getD (q d) zeroI).items) (fun it hit => (h3 it hit).1.2) (fun it hit c hc => adds_bd K y k it.1 (h3 it hit).1.1 c hc)
    have hg := bnd_ge k hc
    have hmul : ((xs.getD (q d) zeroI).items.length : Int) * (20 * bnd k c) ≤ 8 * (20 * bnd k c) := Int.mul_le_mul_of_nonneg_right (by omega) (by omega)
    rw [addsL, sumL_app, bnd]
    by_cases e : (xs.getD (q d) zeroI).k = 1
    · rw [if_pos e, sumL_nil]; omega
    · rw [if_neg e, sumL_one, h2 e]
      simp only [List.flatMap_nil, sumL_nil]
      split <;> omega
/-- How many entries are added at most. -/
def adb : Nat → Nat
  | 0 => 0
  | k + 1 => 1 + 8 * adb k
/-- The parts of a drawing. -/
def partsL (xs : List Iss) (zs : List Int) (q : Int → Nat) (d : Int) : List (Int × Int) :=
  (zs.filter fun z => decide (0 < sumL (addsL xs q 6 d 1) z)).map fun z => (z, sumL (addsL xs q 6 d 1) z)
/-- The tree of a drawing. -/
def treeL (xs : List Iss) (q : Int → Nat) : Nat → Int → Int → Int → List (Int × Int × Int × Int)
  | 0, _, _, _ => []
  | k + 1, dep, d, c => (dep, (xs.getD (q d) zeroI).d, (xs.getD (q d) zeroI).l, c) :: (xs.getD (q d) zeroI).items.flatMap fun y => treeL xs q k (dep + 1) y.1 y.2
def tlb : Nat → Nat
  | 0 => 0
  | k + 1 => 1 + 8 * tlb k
theorem flat_len {α : Type} {l : List (Int × Int)} {f : (Int × Int) → List α} {n : Nat} (h : ∀ it ∈ l, (f it).length ≤ n) : (l.flatMap f).length ≤ l.length * n := by
  induction l with
  | nil => simp
  | cons a r ih =>
    have h1 := ih (fun it hit => h it (List.mem_cons_of_mem _ hit))
    have h2 := h a (by simp)
    rw [List.flatMap_cons, List.length_append, List.length_cons, Nat.add_mul]; omega
theorem tree_len (K : Kit xs zs q rk) : ∀ (k : Nat) (d : Int), d ∈ zs → ∀ dep c, (treeL xs q k dep d c).length ≤ tlb k
  | 0, _, _, _, _ => Nat.le_refl _
  | k + 1, d, hd, dep, c => by
    obtain ⟨h1, -, h3⟩ := K.itm hd
    rw [treeL, List.length_cons, tlb]
    have := flat_len (l := (xs.getD (q d) zeroI).items) (f := fun y => treeL xs q k (dep + 1) y.1 y.2) (n := tlb k) (fun it hit => tree_len K k it.1 (h3 it hit).1.1 _ _)
    have h4 : (xs.getD (q d) zeroI).items.length * tlb k ≤ 8 * tlb k := Nat.mul_le_mul_right _ h1
    omega
end
/-- The errors of Explode and Tree, but for trees that are too large. -/
def askE (xs : List Iss) (ls : List Int) (d : Int) : Int := if layE xs ≠ 0 then layE xs else if lettersB xs (numbersL xs) ls = false then 22 else if d ∈ numbersL xs then 0 else 6
theorem askE_ok {xs : List Iss} {ls : List Int} {d : Int} (h : askE xs ls d = 0) : layE xs = 0 ∧ lettersB xs (numbersL xs) ls = true ∧ d ∈ numbersL xs := by
  unfold askE at h
  split at h; · contradiction
  rename_i h1
  split at h; · omega
  rename_i h2
  split at h
  · exact ⟨by simpa using h1, by simpa using h2, ‹_›⟩
  · omega
end
end Go.Proofs.Ytkjfceajakhlfaa
