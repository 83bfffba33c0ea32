/- Check, Drawings, Depth, At. -/
import Derived.Test.YtngaepgepcnhkaaJF
import Derived.Test.YtngaepgepcnhkaaJ8
namespace Go.Proofs.Ytngaepgepcnhkaa
set_option linter.unusedVariables false
set_option linter.unusedSimpArgs false
open Go.RowKit

/-- A register that can be looked through. -/
structure RegAt (w : World) (vI : Value) (xs : List Iss) : Prop where
  at_ : IssuesAt w vI xs
  len : xs.length ≤ 1000
  small : ∀ x ∈ xs, x.items.length ≤ 1000 ∧ x.dims.length ≤ 1000
theorem RegAt.after {w w' : World} {vI : Value} {xs : List Iss} (h : RegAt w vI xs) (hb : Below w.heap.size w w') : RegAt w' vI xs := ⟨h.at_.after hb, h.len, h.small⟩
theorem lay_v {w : World} {vI : Value} {xs : List Iss} (h : RegAt w vI xs) : Calls Try.prog 65 #[.agg #[vI]] w (LayP xs vI w) := by
  obtain ⟨A, c, b, off, vi, vd, rfl, hA, hc⟩ := h.at_.row
  exact lay_any A c b off xs vi vd w h.len (fun x hx => (h.small x hx).1) hA hc
theorem lay_yes {w : World} {vI : Value} {xs : List Iss} (h : RegAt w vI xs) (h0 : layE xs = 0) : Calls Try.prog 65 #[.agg #[vI]] w fun e w' => (∃ vN vD, e = .returned (.tuple #[.agg #[vI, vN, vD], .int .i64 0]) ∧ DeskAt w' xs vN vD) ∧ Below w.heap.size w w' :=
  (lay_v h).mono fun e w' ⟨hp, hb⟩ => ⟨hp.elim (fun h => h.2) (fun h => absurd h0 h.1), hb⟩
theorem lay_err {w : World} {vI : Value} {xs : List Iss} (h : RegAt w vI xs) (h0 : layE xs ≠ 0) : Calls Try.prog 65 #[.agg #[vI]] w fun e w' => e = .returned (.tuple #[zDesk, .int .i64 (layE xs)]) ∧ Below w.heap.size w w' :=
  (lay_v h).mono fun e w' ⟨hp, hb⟩ => ⟨hp.elim (fun h => absurd h.1 h0) (fun h => h.2), hb⟩
theorem RegAt.slice {w : World} {vI : Value} {xs : List Iss} (h : RegAt w vI xs) : ∃ A c, vI = .slice A xs.length c := by
  obtain ⟨A, c, b, off, hv, -⟩ := h.at_
  exact ⟨A, c, hv⟩
theorem IntsAt.slice {w : World} {v : Value} {l : List Int} (h : IntsAt w v l) : ∃ A c, v = .slice A l.length c := by
  obtain ⟨A, c, b, off, hv, -⟩ := h
  exact ⟨A, c, hv⟩

set_option maxHeartbeats 1000000 in
theorem sCheck_any {vI : Value} {xs : List Iss} {w : World} (h : RegAt w vI xs) : Calls Try.prog 23 #[.agg #[vI]] w fun e w' => e = .returned (.int .i64 (layE xs)) ∧ Below w.heap.size w w' := by
  have hr := h.after ((Below.refl w.heap.size w).alloc (Nat.le_refl _) (.cells #[vI] 24))
  obtain ⟨A, c, rfl⟩ := h.slice
  clear h
  by_cases h0 : layE xs = 0
  · have HL := Lib.hid (lay_yes hr h0)
    rw [h0]
    clear h0 hr
    go_enter Try.func23, Try.ntmps23
    go_wp2_with fail
    refine HL.out.mono ?_
    rintro e w1 ⟨⟨vN, vD, rfl, hN, hD⟩, hb1⟩
    have s1 := hb1.size; try simp only [World.size_alloc, World.size_setCell, World.size_drew, setRow_size] at s1
    obtain ⟨AN, cN, rfl⟩ := hN.slice
    obtain ⟨AD, cD, rfl⟩ := hD.slice
    clear hN hD
    go_wp2
    go_ret
    exact ⟨rfl, by (repeat' (first | (with_reducible exact Below.refl _ _) | (with_reducible assumption) | (with_reducible refine Below.alloc ?_ ?_ _) | (with_reducible refine Below.setCell ?_ ?_ _) | (with_reducible refine below_row ?_ ?_ _) | (with_reducible refine Below.drew ?_) | (with_reducible refine below_drewN ?_ _) | (with_reducible refine Below.trans ?_ (Below.mono (by assumption) ?_)) | (first | exact Nat.le_refl _ | omega | (simp; done) | (simp; omega) | (exact Below.size (by assumption)))))⟩
  · have HL := Lib.hid (lay_err hr h0)
    generalize layE xs = ee at *
    clear h0 hr
    go_enter Try.func23, Try.ntmps23
    go_wp2_with fail
    refine HL.out.mono ?_
    rintro e w1 ⟨rfl, hb1⟩
    have s1 := hb1.size; try simp only [World.size_alloc, World.size_setCell, World.size_drew, setRow_size] at s1
    go_wp2
    go_ret
    exact ⟨rfl, by (repeat' (first | (with_reducible exact Below.refl _ _) | (with_reducible assumption) | (with_reducible refine Below.alloc ?_ ?_ _) | (with_reducible refine Below.setCell ?_ ?_ _) | (with_reducible refine below_row ?_ ?_ _) | (with_reducible refine Below.drew ?_) | (with_reducible refine below_drewN ?_ _) | (with_reducible refine Below.trans ?_ (Below.mono (by assumption) ?_)) | (first | exact Nat.le_refl _ | omega | (simp; done) | (simp; omega) | (exact Below.size (by assumption)))))⟩
/-- What Drawings tells. -/
def DrawP (xs : List Iss) (w : World) (e : Ending) (w' : World) : Prop :=
  ∃ v, e = .returned (.tuple #[v, .int .i64 (layE xs)]) ∧ IntsAt w' v (if layE xs = 0 then numbersL xs else []) ∧ Below w.heap.size w w'
def DrawQ (ee : Int) (zs : List Int) (w : World) (e : Ending) (w' : World) : Prop := ∃ v, e = .returned (.tuple #[v, .int .i64 ee]) ∧ IntsAt w' v zs ∧ Below w.heap.size w w'
set_option maxHeartbeats 1000000 in
theorem sDrawings_any {vI : Value} {xs : List Iss} {w : World} (h : RegAt w vI xs) : Calls Try.prog 19 #[.agg #[vI]] w (DrawP xs w) := by
  have hr := h.after ((Below.refl w.heap.size w).alloc (Nat.le_refl _) (.cells #[vI] 24))
  obtain ⟨A, c, rfl⟩ := h.slice
  clear h
  by_cases h0 : layE xs = 0
  · have HL := Lib.hid (lay_yes hr h0)
    show Calls _ _ _ _ (DrawQ (layE xs) (if layE xs = 0 then numbersL xs else []) w)
    rw [h0, if_pos rfl]
    clear h0 hr
    go_enter Try.func19, Try.ntmps19
    go_wp2_with fail
    refine HL.out.mono ?_
    rintro e w1 ⟨⟨vN, vD, rfl, hN, hD⟩, hb1⟩
    have s1 := hb1.size; try simp only [World.size_alloc, World.size_setCell, World.size_drew, setRow_size] at s1
    have HN := Lib.hid hN
    obtain ⟨AN, cN, rfl⟩ := hN.slice
    obtain ⟨AD, cD, rfl⟩ := hD.slice
    clear hN hD
    go_wp2
    go_ret2
    exact ⟨_, rfl, HN.out.after ((Below.refl _ _).alloc (Nat.le_refl _) _), by (repeat' (first | (with_reducible exact Below.refl _ _) | (with_reducible assumption) | (with_reducible refine Below.alloc ?_ ?_ _) | (with_reducible refine Below.setCell ?_ ?_ _) | (with_reducible refine below_row ?_ ?_ _) | (with_reducible refine Below.drew ?_) | (with_reducible refine below_drewN ?_ _) | (with_reducible refine Below.trans ?_ (Below.mono (by assumption) ?_)) | (first | exact Nat.le_refl _ | omega | (simp; done) | (simp; omega) | (exact Below.size (by assumption)))))⟩
  · have HL := Lib.hid (lay_err hr h0)
    show Calls _ _ _ _ (DrawQ (layE xs) (if layE xs = 0 then numbersL xs else []) w)
    rw [if_neg h0]
    generalize layE xs = ee at *
    clear h0 hr
    go_enter Try.func19, Try.ntmps19
    go_wp2_with fail
    refine HL.out.mono ?_
    rintro e w1 ⟨rfl, hb1⟩
    have s1 := hb1.size; try simp only [World.size_alloc, World.size_setCell, World.size_drew, setRow_size] at s1
    go_wp2
    go_ret2
    exact ⟨_, rfl, ⟨none, 0, 0, 0, rfl, fun h => absurd h (by simp), fun i h => absurd h (by simp)⟩, by (repeat' (first | (with_reducible exact Below.refl _ _) | (with_reducible assumption) | (with_reducible refine Below.alloc ?_ ?_ _) | (with_reducible refine Below.setCell ?_ ?_ _) | (with_reducible refine below_row ?_ ?_ _) | (with_reducible refine Below.drew ?_) | (with_reducible refine below_drewN ?_ _) | (with_reducible refine Below.trans ?_ (Below.mono (by assumption) ?_)) | (first | exact Nat.le_refl _ | omega | (simp; done) | (simp; omega) | (exact Below.size (by assumption)))))⟩
/-- What Depth tells. -/
def depthE (xs : List Iss) (d : Int) : Int × Int :=
  if layE xs ≠ 0 then (0, layE xs) else if d ∈ numbersL xs then (depW xs (numbersL xs) (numbersL xs).length d, 0) else (0, 6)
set_option maxHeartbeats 2000000 in
theorem sDepth_any {vI : Value} {xs : List Iss} {w : World} (d : Int) (h : RegAt w vI xs) : Calls Try.prog 28 #[.agg #[vI], .int .i64 d] w fun e w' => e = .returned (.tuple #[.int .i64 ((depthE xs d).1), .int .i64 ((depthE xs d).2)]) ∧ Below w.heap.size w w' := by
  have hr := h.after ((Below.refl w.heap.size w).alloc (Nat.le_refl _) (.cells #[vI] 24))
  have hlen := h.len
  obtain ⟨A, c, rfl⟩ := h.slice
  clear h
  unfold depthE
  by_cases h0 : layE xs = 0
  · rw [if_neg (by rw [h0]; decide)]
    have HL := Lib.hid (lay_yes hr h0)
    obtain ⟨hx, hrt, hn, hcm, -, -⟩ := layE_ok h0
    have hst := numbers_strict hrt
    have hcl : (chainsL xs (numbersL xs)).length = (numbersL xs).length := by simp [chainsL]
    have hda : ∀ i (h : i < (numbersL xs).length) (h2 : i < (chainsL xs (numbersL xs)).length), (chainsL xs (numbersL xs))[i] = depW xs (numbersL xs) (numbersL xs).length (numbersL xs)[i] := fun i h h2 => by simp [chainsL]
    have HST := Lib.hid hst
    have HDA := Lib.hid hda
    have HCL := Lib.hid hcl
    unfold DeskAt at HL
    clear h0 hst hda hcl hr hrt hcm hx
    generalize numbersL xs = zs at *
    generalize chainsL xs zs = cs at *
    have hfin : ∀ r : Nat, (∀ i (h : i < zs.length), i < r → zs[i] < d) → (∀ i (h : i < zs.length), r ≤ i → d ≤ zs[i]) → d ∈ zs → ∃ hk : r < zs.length, zs[r] = d := by
      intro r hr2 hr3 hm
      obtain ⟨k, hk, hke⟩ := List.getElem_of_mem hm
      have hrk : r = k := by
        by_cases h1 : r < k
        · have h2 := hr3 r (by omega) (Nat.le_refl _)
          have h3 := List.pairwise_iff_getElem.1 HST.out r k (by omega) hk h1
          omega
        · by_cases h2 : k < r
          · have := hr2 k hk h2; omega
          · omega
      subst hrk
      exact ⟨hk, hke⟩
    have HFIN := Lib.hid hfin
    clear hfin
    by_cases hm : d ∈ zs
    · rw [if_pos hm]
      have HM := Lib.hid hm
      have hdm : decide (d ∈ zs) = true := decide_eq_true hm
      have HDM := Lib.hid hdm
      clear hm hdm
      generalize hdd : depW xs zs zs.length d = dd at *
      have HDD := Lib.hid hdd
      clear hdd
      go_enter Try.func28, Try.ntmps28
      go_wp2_with fail
      refine HL.out.mono ?_
      rintro e w1 ⟨⟨vN, vD, rfl, hN, hD⟩, hb1⟩
      have s1 := hb1.size; try simp only [World.size_alloc, World.size_setCell, World.size_drew, setRow_size] at s1
      obtain ⟨AN, cN, bN, oN, rfl, hAN, hcN⟩ := hN
      obtain ⟨AD, cD, bD, oD, rfl, hAD, hcD⟩ := hD
      have HP := Lib.hid (place_any (.slice A xs.length c) (.slice AD cs.length cD) AN cN bN oN zs d (w1.alloc (.cells #[.slice A xs.length c, .slice AN zs.length cN, .slice AD cs.length cD] 118)) HST.out hAN (by omega) (fun i h => cell_keep ((Below.refl _ _).alloc (Nat.le_refl _) _) (hcN i h)))
      have HD := Lib.hid (fun i (h : i < cs.length) => cell_keep ((Below.refl _ _).alloc (Nat.le_refl _) (.cells #[.slice A xs.length c, .slice AN zs.length cN, .slice AD cs.length cD] 118)) (hcD i h))
      have HAD := Lib.hid hAD
      have LG := Lib.hid (Lies.made w1 118 #[.slice A xs.length c, .slice AN zs.length cN, .slice AD cs.length cD])
      have hbw : Below w.heap.size w w1 := by (repeat' (first | (with_reducible exact Below.refl _ _) | (with_reducible assumption) | (with_reducible refine Below.alloc ?_ ?_ _) | (with_reducible refine Below.setCell ?_ ?_ _) | (with_reducible refine below_row ?_ ?_ _) | (with_reducible refine Below.drew ?_) | (with_reducible refine below_drewN ?_ _) | (with_reducible refine Below.trans ?_ (Below.mono (by assumption) ?_)) | (first | exact Nat.le_refl _ | omega | (simp; done) | (simp; omega) | (exact Below.size (by assumption)))))
      clear hcN hcD hAN hAD hb1 HL
      unfold PlaceAt at HP
      rw [HDM.out] at HP
      go_wp2_with fail
      refine HP.out.mono ?_
      rintro e w2 ⟨r, hr1, hr2, hr3, rfl, hb2⟩
      have s2 := hb2.size; try simp only [World.size_alloc, World.size_setCell, World.size_drew, setRow_size] at s2
      have LG2 := Lib.hid (LG.out.after hb2)
      have g2 := LG2.out.cell 2
      have zg := LG2.out.lt
      have hbw2 : Below w.heap.size w w2 := by (repeat' (first | (with_reducible exact Below.refl _ _) | (with_reducible assumption) | (with_reducible refine Below.alloc ?_ ?_ _) | (with_reducible refine Below.setCell ?_ ?_ _) | (with_reducible refine below_row ?_ ?_ _) | (with_reducible refine Below.drew ?_) | (with_reducible refine below_drewN ?_ _) | (with_reducible refine Below.trans ?_ (Below.mono (by assumption) ?_)) | (first | exact Nat.le_refl _ | omega | (simp; done) | (simp; omega) | (exact Below.size (by assumption)))))
      have HFK := Lib.hid (HFIN.out r hr2 hr3 HM.out)
      have hrl : r < zs.length := by obtain ⟨hk, -⟩ := HFK.out; exact hk
      obtain rfl := HAD.out (by rw [HCL.out]; omega)
      have r0 : w2.cell? ⟨bD, oD + r, none⟩ = some (.int .i64 dd) := by
        obtain ⟨hk, hke⟩ := HFK.out
        have h1 := cell_keep hb2 (HD.out r (by rw [HCL.out]; exact hk))
        rw [HDA.out r hk (by rw [HCL.out]; exact hk), hke, HDD.out] at h1
        exact h1
      have hlt : (r : Int) < (cs.length : Int) := by rw [HCL.out]; omega
      have hlt2 : r < cs.length := by rw [HCL.out]; exact hrl
      clear hr2 hr3 hb2
      go_wp2
      go_ret2
      exact ⟨rfl, by (repeat' (first | (with_reducible exact Below.refl _ _) | (with_reducible assumption) | (with_reducible refine Below.alloc ?_ ?_ _) | (with_reducible refine Below.setCell ?_ ?_ _) | (with_reducible refine below_row ?_ ?_ _) | (with_reducible refine Below.drew ?_) | (with_reducible refine below_drewN ?_ _) | (with_reducible refine Below.trans ?_ (Below.mono (by assumption) ?_)) | (first | exact Nat.le_refl _ | omega | (simp; done) | (simp; omega) | (exact Below.size (by assumption)))))⟩
    · rw [if_neg hm]
      have hdm : decide (d ∈ zs) = false := decide_eq_false hm
      have HDM := Lib.hid hdm
      clear hm hdm
      go_enter Try.func28, Try.ntmps28
      go_wp2_with fail
      refine HL.out.mono ?_
      rintro e w1 ⟨⟨vN, vD, rfl, hN, hD⟩, hb1⟩
      have s1 := hb1.size; try simp only [World.size_alloc, World.size_setCell, World.size_drew, setRow_size] at s1
      obtain ⟨AN, cN, bN, oN, rfl, hAN, hcN⟩ := hN
      obtain ⟨AD, cD, bD, oD, rfl, hAD, hcD⟩ := hD
      have HP := Lib.hid (place_any (.slice A xs.length c) (.slice AD cs.length cD) AN cN bN oN zs d (w1.alloc (.cells #[.slice A xs.length c, .slice AN zs.length cN, .slice AD cs.length cD] 118)) HST.out hAN (by omega) (fun i h => cell_keep ((Below.refl _ _).alloc (Nat.le_refl _) _) (hcN i h)))
      have hbw : Below w.heap.size w w1 := by (repeat' (first | (with_reducible exact Below.refl _ _) | (with_reducible assumption) | (with_reducible refine Below.alloc ?_ ?_ _) | (with_reducible refine Below.setCell ?_ ?_ _) | (with_reducible refine below_row ?_ ?_ _) | (with_reducible refine Below.drew ?_) | (with_reducible refine below_drewN ?_ _) | (with_reducible refine Below.trans ?_ (Below.mono (by assumption) ?_)) | (first | exact Nat.le_refl _ | omega | (simp; done) | (simp; omega) | (exact Below.size (by assumption)))))
      clear hcN hcD hAN hAD hb1 HL
      unfold PlaceAt at HP
      rw [HDM.out] at HP
      go_wp2_with fail
      refine HP.out.mono ?_
      rintro e w2 ⟨r, -, -, -, rfl, hb2⟩
      have s2 := hb2.size; try simp only [World.size_alloc, World.size_setCell, World.size_drew, setRow_size] at s2
      have hbw2 : Below w.heap.size w w2 := by (repeat' (first | (with_reducible exact Below.refl _ _) | (with_reducible assumption) | (with_reducible refine Below.alloc ?_ ?_ _) | (with_reducible refine Below.setCell ?_ ?_ _) | (with_reducible refine below_row ?_ ?_ _) | (with_reducible refine Below.drew ?_) | (with_reducible refine below_drewN ?_ _) | (with_reducible refine Below.trans ?_ (Below.mono (by assumption) ?_)) | (first | exact Nat.le_refl _ | omega | (simp; done) | (simp; omega) | (exact Below.size (by assumption)))))
      clear hb2
      go_wp2
      go_ret2
      exact ⟨rfl, by (repeat' (first | (with_reducible exact Below.refl _ _) | (with_reducible assumption) | (with_reducible refine Below.alloc ?_ ?_ _) | (with_reducible refine Below.setCell ?_ ?_ _) | (with_reducible refine below_row ?_ ?_ _) | (with_reducible refine Below.drew ?_) | (with_reducible refine below_drewN ?_ _) | (with_reducible refine Below.trans ?_ (Below.mono (by assumption) ?_)) | (first | exact Nat.le_refl _ | omega | (simp; done) | (simp; omega) | (exact Below.size (by assumption)))))⟩
  · rw [if_pos h0]
    have HL := Lib.hid (lay_err hr h0)
    have hne : (layE xs == 0) = false := by rw [beq_eq_false_iff_ne]; exact h0
    clear h0 hr
    generalize layE xs = ee at *
    go_enter Try.func28, Try.ntmps28
    go_wp2_with fail
    refine HL.out.mono ?_
    rintro e w1 ⟨rfl, hb1⟩
    have s1 := hb1.size; try simp only [World.size_alloc, World.size_setCell, World.size_drew, setRow_size] at s1
    go_wp2
    go_ret2
    exact ⟨rfl, by (repeat' (first | (with_reducible exact Below.refl _ _) | (with_reducible assumption) | (with_reducible refine Below.alloc ?_ ?_ _) | (with_reducible refine Below.setCell ?_ ?_ _) | (with_reducible refine below_row ?_ ?_ _) | (with_reducible refine Below.drew ?_) | (with_reducible refine below_drewN ?_ _) | (with_reducible refine Below.trans ?_ (Below.mono (by assumption) ?_)) | (first | exact Nat.le_refl _ | omega | (simp; done) | (simp; omega) | (exact Below.size (by assumption)))))⟩
end Go.Proofs.Ytngaepgepcnhkaa
