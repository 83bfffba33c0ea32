/- lay. -/
import Derived.Test.YtngaepgepcnhkaaJM0
import Derived.Test.YtngaepgepcnhkaaH5
import Derived.Test.YtngaepgepcnhkaaJ9
import Derived.Test.YtngaepgepcnhkaaJC
import Derived.Test.YtngaepgepcnhkaaJD
import Derived.Deep.RegionHeld3
import Derived.Deep.DeepCutAuto
namespace Go.Proofs.Ytngaepgepcnhkaa
set_option linter.unusedVariables false
set_option linter.unusedSimpArgs false
open Go.RowKit

abbrev zDesk : Value := .agg #[.slice none 0 0, .slice none 0 0, .slice none 0 0]
/-- A register at work: its numbers, and how long the chains are. -/
def DeskAt (w : World) (xs : List Iss) (vN vD : Value) : Prop := IntsAt w vN (numbersL xs) ∧ IntsAt w vD (chainsL xs (numbersL xs))
/-- What lay tells. -/
def LayP (xs : List Iss) (vI : Value) (w : World) (e : Ending) (w' : World) : Prop :=
  ((layE xs = 0 ∧ ∃ vN vD, e = .returned (.tuple #[.agg #[vI, vN, vD], .int .i64 0]) ∧ DeskAt w' xs vN vD) ∨ (layE xs ≠ 0 ∧ e = .returned (.tuple #[zDesk, .int .i64 (layE xs)]))) ∧ Below w.heap.size w w'
theorem IssRow.cells {w : World} {b off : Nat} {xs : List Iss} {vi vd : Nat → Value} (h : IssRow w b off xs vi vd) : ∀ i (h : i < xs.length), IssC w b (off + i * 5) xs[i] := fun i hi => ⟨vi i, vd i, h i hi⟩

set_option maxRecDepth 100000 in
set_option maxHeartbeats 4000000 in
theorem lay_no1 (A : Option Addr) (c b off : Nat) (xs : List Iss) (vi vd : Nat → Value) (w : World) (hl : xs.length ≤ 1000) (hA : 0 < xs.length → A = some ⟨b, off, none⟩) (hc : IssRow w b off xs vi vd)
    (h1 : (inB 1 60 xs.length && rightB zeroI xs) = false) :
    Calls Try.prog 65 #[.agg #[.slice A xs.length c]] w fun e w' => e = .returned (.tuple #[zDesk, .int .i64 20]) ∧ Below w.heap.size w w' := by
  have HR := Lib.hid (fun W (hW : Below w.heap.size w W) => right_any A c b off xs W hA hl ((hc.after hW).cells))
  have HW := Lib.hid (sone 1 60 (xs.length : Int) _ rfl)
  clear hA hc
  generalize inB 1 60 (xs.length : Int) = p at *
  generalize rightB zeroI xs = q at *
  cases p
  · go_enter Try.func65, Try.ntmps65
    have LR := Lib.hid ((Lies.made w 24 #[.slice A xs.length c]))
    go_wp2_with fail
    refine (HW.out _ _ _ ((Lies.new (by simp)).cell 0)).mono ?_
    rintro e w1 ⟨rfl, hb1⟩
    have s1 := hb1.size; try simp only [World.size_alloc, World.size_setCell, World.size_drew, setRow_size] at s1
    have R2 := Lib.hid (((Lies.new (u := w.alloc (.cells #[.slice A xs.length c] 24)) (k := w.heap.size + 1) (t := 118) (cs := #[.slice none 0 0, .slice none 0 0, .slice none 0 0]) (by simp)).alloc (.cells #[.int .i64 xs.length] 3)).after hb1)
    have hbw : Below w.heap.size w w1 := by (repeat' (first | (with_reducible exact Below.refl _ _) | (with_reducible assumption) | (with_reducible refine Below.alloc ?_ ?_ _) | (with_reducible refine Below.setCell ?_ ?_ _) | (with_reducible refine below_row ?_ ?_ _) | (with_reducible refine Below.drew ?_) | (with_reducible refine below_drewN ?_ _) | (with_reducible refine Below.trans ?_ (Below.mono (by assumption) ?_)) | (first | exact Nat.le_refl _ | omega | (simp; done) | (simp; omega) | (exact Below.size (by assumption)))))
    have r0 := R2.out.cell 0
    have r1 := R2.out.cell 1
    have r2 := R2.out.cell 2
    have f0 := R2.out.free 0
    have f1 := R2.out.free 1
    have f2 := R2.out.free 2
    have zr := R2.out.lt
    clear hb1
    go_wp2_with fail
    exact bodyPost_ret (v := .tuple #[zDesk, .int .i64 20]) (by simp [results, Try.results65, go_sem, r0, r1, r2]) rfl ⟨rfl, by (repeat' (first | (with_reducible exact Below.refl _ _) | (with_reducible assumption) | (with_reducible refine Below.alloc ?_ ?_ _) | (with_reducible refine Below.setCell ?_ ?_ _) | (with_reducible refine below_row ?_ ?_ _) | (with_reducible refine Below.drew ?_) | (with_reducible refine below_drewN ?_ _) | (with_reducible refine Below.trans ?_ (Below.mono (by assumption) ?_)) | (first | exact Nat.le_refl _ | omega | (simp; done) | (simp; omega) | (exact Below.size (by assumption)))))⟩
  · obtain rfl : q = false := by simpa using h1
    clear h1
    go_enter Try.func65, Try.ntmps65
    have LR := Lib.hid ((Lies.made w 24 #[.slice A xs.length c]))
    go_wp2_with fail
    refine (HW.out _ _ _ ((Lies.new (by simp)).cell 0)).mono ?_
    rintro e w1 ⟨rfl, hb1⟩
    have s1 := hb1.size; try simp only [World.size_alloc, World.size_setCell, World.size_drew, setRow_size] at s1
    have R2 := Lib.hid (((Lies.new (u := w.alloc (.cells #[.slice A xs.length c] 24)) (k := w.heap.size + 1) (t := 118) (cs := #[.slice none 0 0, .slice none 0 0, .slice none 0 0]) (by simp)).alloc (.cells #[.int .i64 xs.length] 3)).after hb1)
    have hbw : Below w.heap.size w w1 := by (repeat' (first | (with_reducible exact Below.refl _ _) | (with_reducible assumption) | (with_reducible refine Below.alloc ?_ ?_ _) | (with_reducible refine Below.setCell ?_ ?_ _) | (with_reducible refine below_row ?_ ?_ _) | (with_reducible refine Below.drew ?_) | (with_reducible refine below_drewN ?_ _) | (with_reducible refine Below.trans ?_ (Below.mono (by assumption) ?_)) | (first | exact Nat.le_refl _ | omega | (simp; done) | (simp; omega) | (exact Below.size (by assumption)))))
    have L1 := Lib.hid (((LR.out.alloc (.cells #[.slice none 0 0, .slice none 0 0, .slice none 0 0] 118)).alloc (.cells #[.int .i64 xs.length] 3)).after hb1)
    have l0 := L1.out.cell 0
    have zl := L1.out.lt
    clear hb1
    go_wp2_with fail
    refine (HR.out _ (by (repeat' (first | (with_reducible exact Below.refl _ _) | (with_reducible assumption) | (with_reducible refine Below.alloc ?_ ?_ _) | (with_reducible refine Below.setCell ?_ ?_ _) | (with_reducible refine below_row ?_ ?_ _) | (with_reducible refine Below.drew ?_) | (with_reducible refine below_drewN ?_ _) | (with_reducible refine Below.trans ?_ (Below.mono (by assumption) ?_)) | (first | exact Nat.le_refl _ | omega | (simp; done) | (simp; omega) | (exact Below.size (by assumption))))))).mono ?_
    rintro e w2 ⟨rfl, hb2⟩
    have s2 := hb2.size; try simp only [World.size_alloc, World.size_setCell, World.size_drew, setRow_size] at s2
    have R3 := Lib.hid (R2.out.after hb2)
    have hbw2 : Below w.heap.size w w2 := by (repeat' (first | (with_reducible exact Below.refl _ _) | (with_reducible assumption) | (with_reducible refine Below.alloc ?_ ?_ _) | (with_reducible refine Below.setCell ?_ ?_ _) | (with_reducible refine below_row ?_ ?_ _) | (with_reducible refine Below.drew ?_) | (with_reducible refine below_drewN ?_ _) | (with_reducible refine Below.trans ?_ (Below.mono (by assumption) ?_)) | (first | exact Nat.le_refl _ | omega | (simp; done) | (simp; omega) | (exact Below.size (by assumption)))))
    have r0 := R3.out.cell 0
    have r1 := R3.out.cell 1
    have r2 := R3.out.cell 2
    have f0 := R3.out.free 0
    have f1 := R3.out.free 1
    have f2 := R3.out.free 2
    have zr := R3.out.lt
    clear hb2
    go_wp2_with fail
    exact bodyPost_ret (v := .tuple #[zDesk, .int .i64 20]) (by simp [results, Try.results65, go_sem, r0, r1, r2]) rfl ⟨rfl, by (repeat' (first | (with_reducible exact Below.refl _ _) | (with_reducible assumption) | (with_reducible refine Below.alloc ?_ ?_ _) | (with_reducible refine Below.setCell ?_ ?_ _) | (with_reducible refine below_row ?_ ?_ _) | (with_reducible refine Below.drew ?_) | (with_reducible refine below_drewN ?_ _) | (with_reducible refine Below.trans ?_ (Below.mono (by assumption) ?_)) | (first | exact Nat.le_refl _ | omega | (simp; done) | (simp; omega) | (exact Below.size (by assumption)))))⟩

set_option maxRecDepth 100000 in
set_option maxHeartbeats 8000000 in
theorem lay_rest (A : Option Addr) (c b off : Nat) (xs : List Iss) (vi vd : Nat → Value) (w : World) (hl : xs.length ≤ 1000) (hli : ∀ x ∈ xs, x.items.length ≤ 1000) (hA : 0 < xs.length → A = some ⟨b, off, none⟩) (hc : IssRow w b off xs vi vd)
    (h1 : inB 1 60 xs.length = true) (h2 : rightB zeroI xs = true) :
    Calls Try.prog 65 #[.agg #[.slice A xs.length c]] w (LayP xs (.slice A xs.length c) w) := by
  have HR := Lib.hid (fun W (hW : Below w.heap.size w W) => right_any A c b off xs W hA hl ((hc.after hW).cells))
  have HW := Lib.hid (sone 1 60 (xs.length : Int) _ rfl)
  have HNO := Lib.hid (fun W (hW : Below w.heap.size w W) => numbersOf_any A c b off xs vi vd W hl hA (hc.after hW))
  rw [h1] at HW
  rw [h2] at HR
  have HH1 := Lib.hid h1
  have HH2 := Lib.hid h2
  have HA := Lib.hid hA
  have HC := Lib.hid hc
  have HLI := Lib.hid hli
  clear h1 h2 hA hc hli
  go_enter Try.func65, Try.ntmps65
  have LR := Lib.hid ((Lies.made w 24 #[.slice A xs.length c]))
  go_wp2_with fail
  refine (HW.out _ _ _ ((Lies.new (by simp)).cell 0)).mono ?_
  rintro e w1 ⟨rfl, hb1⟩
  have s1 := hb1.size; try simp only [World.size_alloc, World.size_setCell, World.size_drew, setRow_size] at s1
  have R2 := Lib.hid (((Lies.new (u := w.alloc (.cells #[.slice A xs.length c] 24)) (k := w.heap.size + 1) (t := 118) (cs := #[.slice none 0 0, .slice none 0 0, .slice none 0 0]) (by simp)).alloc (.cells #[.int .i64 xs.length] 3)).after hb1)
  have hbw : Below w.heap.size w w1 := by (repeat' (first | (with_reducible exact Below.refl _ _) | (with_reducible assumption) | (with_reducible refine Below.alloc ?_ ?_ _) | (with_reducible refine Below.setCell ?_ ?_ _) | (with_reducible refine below_row ?_ ?_ _) | (with_reducible refine Below.drew ?_) | (with_reducible refine below_drewN ?_ _) | (with_reducible refine Below.trans ?_ (Below.mono (by assumption) ?_)) | (first | exact Nat.le_refl _ | omega | (simp; done) | (simp; omega) | (exact Below.size (by assumption)))))
  have L1 := Lib.hid (((LR.out.alloc (.cells #[.slice none 0 0, .slice none 0 0, .slice none 0 0] 118)).alloc (.cells #[.int .i64 xs.length] 3)).after hb1)
  have l0 := L1.out.cell 0
  have zl := L1.out.lt
  clear hb1
  go_wp2_with fail
  refine (HR.out _ (by (repeat' (first | (with_reducible exact Below.refl _ _) | (with_reducible assumption) | (with_reducible refine Below.alloc ?_ ?_ _) | (with_reducible refine Below.setCell ?_ ?_ _) | (with_reducible refine below_row ?_ ?_ _) | (with_reducible refine Below.drew ?_) | (with_reducible refine below_drewN ?_ _) | (with_reducible refine Below.trans ?_ (Below.mono (by assumption) ?_)) | (first | exact Nat.le_refl _ | omega | (simp; done) | (simp; omega) | (exact Below.size (by assumption))))))).mono ?_
  rintro e w2 ⟨rfl, hb2⟩
  have s2 := hb2.size; try simp only [World.size_alloc, World.size_setCell, World.size_drew, setRow_size] at s2
  have R3 := Lib.hid (R2.out.after hb2)
  have L2 := Lib.hid (L1.out.after hb2)
  have hbw2 : Below w.heap.size w w2 := by (repeat' (first | (with_reducible exact Below.refl _ _) | (with_reducible assumption) | (with_reducible refine Below.alloc ?_ ?_ _) | (with_reducible refine Below.setCell ?_ ?_ _) | (with_reducible refine below_row ?_ ?_ _) | (with_reducible refine Below.drew ?_) | (with_reducible refine below_drewN ?_ _) | (with_reducible refine Below.trans ?_ (Below.mono (by assumption) ?_)) | (first | exact Nat.le_refl _ | omega | (simp; done) | (simp; omega) | (exact Below.size (by assumption)))))
  clear hb2 l0 zl
  have l0 := L2.out.cell 0
  have zl := L2.out.lt
  have hbd : Below w.heap.size w w2 := hbw2
  go_upto_region 3 with fail
  go_cut [4] (fun s4 wx => ∃ (g : Nat) (v : Value), s4 = .pointer (some ⟨g, 0, none⟩) ∧ w.heap.size + 1 < g ∧ Hid (Lies wx g 118 #[.slice A xs.length c, v, .slice none 0 0]) ∧ Hid (wx.ownsRow w.heap.size 3 1 v (numbersL xs).length (cellsN (numbersL xs))) ∧ Hid (Lies wx (w.heap.size + 1) 118 #[.slice none 0 0, .slice none 0 0, .slice none 0 0]) ∧ Below w.heap.size w wx)
  case first =>
    have e1 : ¬ w2.heap.size = w.heap.size := by omega
    have e2 : ¬ w.heap.size = w2.heap.size := by omega
    go_region_held3 (fun W => W.cell? ⟨w.heap.size, 0, none⟩ = some (.slice A xs.length c)) (go_keep) ((go_at_call 106; refine (HNO.out _ (by (repeat' (first | (with_reducible exact Below.refl _ _) | (with_reducible assumption) | (with_reducible refine Below.alloc ?_ ?_ _) | (with_reducible refine Below.setCell ?_ ?_ _) | (with_reducible refine below_row ?_ ?_ _) | (with_reducible refine Below.drew ?_) | (with_reducible refine below_drewN ?_ _) | (with_reducible refine Below.trans ?_ (Below.mono (by assumption) ?_)) | (first | exact Nat.le_refl _ | omega | (simp; done) | (simp; omega) | (exact Below.size (by assumption))))))).mono ?_; rintro e w3 ⟨v, rfl, hown, hb3⟩; have L3 : Lies w3 w.heap.size 24 #[.slice A xs.length c] := (by first | exact (L2.out.drew).after hb3 | exact ((L2.out.drew).alloc _).after hb3); have R4 : Hid (Lies w3 (w.heap.size + 1) 118 #[.slice none 0 0, .slice none 0 0, .slice none 0 0]) := (by first | exact Lib.hid ((R3.out.drew).after hb3) | exact Lib.hid (((R3.out.drew).alloc _).after hb3)); have m0 := L3.cell 0; have zm := L3.lt; have zm4 := R4.out.lt; have HO3 := Lib.hid hown; have hbw3 : Below w.heap.size w w3 := (by (repeat' (first | (with_reducible exact Below.refl _ _) | (with_reducible assumption) | (with_reducible refine Below.alloc ?_ ?_ _) | (with_reducible refine Below.setCell ?_ ?_ _) | (with_reducible refine below_row ?_ ?_ _) | (with_reducible refine Below.drew ?_) | (with_reducible refine below_drewN ?_ _) | (with_reducible refine Below.trans ?_ (Below.mono (by assumption) ?_)) | (first | exact Nat.le_refl _ | omega | (simp; done) | (simp; omega) | (exact Below.size (by assumption)))))); obtain ⟨A6, c6, g6, rfl, -⟩ := own_form hown; clear hown; (first | (have N3 : Lies w3 w2.heap.size 118 #[.slice none 0 0, .slice none 0 0, .slice none 0 0] := (Lies.made w2.drew 118 #[.slice none 0 0, .slice none 0 0, .slice none 0 0]).after hb3; have HN3 := Lib.hid N3; have n0 := N3.cell 0; have n1 := N3.cell 1; have n2 := N3.cell 2; have f0 := N3.free 0; have f1 := N3.free 1; have f2 := N3.free 2; have zn := N3.lt) | skip)))
    all_goals
      go_wp2_with fail
      go_meet
      first
        | exact ⟨w3.heap.size, _, rfl, by omega, Lib.hid (Lies.made _ _ _), Lib.hid ((own_less HO3.out (by first | exact hbw2.size | (simp; omega))).alloc _), Lib.hid (R4.out.alloc _), hbw3.alloc hbw3.size _⟩
        | exact ⟨w2.heap.size, _, rfl, by omega, Lib.hid (((HN3.out.store 0 _).store 1 _).store 2 _), Lib.hid (own_set (own_set (own_set (own_less HO3.out (by first | exact hbw2.size | (simp; omega))) HN3.out (by decide) 0 _) (HN3.out.store 0 _) (by decide) 1 _) ((HN3.out.store 0 _).store 1 _) (by decide) 2 _), Lib.hid (((R4.out.other (by show w.heap.size + 1 ≠ w2.heap.size; omega) _).other (by show w.heap.size + 1 ≠ w2.heap.size; omega) _).other (by show w.heap.size + 1 ≠ w2.heap.size; omega) _), ((hbw3.setCell (p := ⟨w2.heap.size, 0, none⟩) (by exact hbw2.size) _).setCell (p := ⟨w2.heap.size, 1, none⟩) (by exact hbw2.size) _).setCell (p := ⟨w2.heap.size, 2, none⟩) (by exact hbw2.size) _⟩
  case rest =>
    obtain ⟨g, v, rfl, hg, LG, HO, R5, hbw3⟩ := hcut
    have HSrt := Lib.hid (right_sorted HH2.out)
    have h0x : 0 < xs.length := by have := HH1.out; unfold inB at this; simp at this; omega
    have h0z : 0 < (numbersL xs).length := List.length_pos_of_mem (numbers_has HH2.out xs[0] (List.getElem_mem h0x))
    have HStr := Lib.hid (numbers_strict HH2.out)
    have HNin := Lib.hid (numbers_nin HH2.out)
    have hle : layE xs = if (decide ((numbersL xs).length ≤ 20) && completeB xs (numbersL xs)) = false then 20 else if (0 : Int) ∈ chainsL xs (numbersL xs) then 21 else if 6 < maxL (chainsL xs (numbersL xs)) then 20 else 0 := by
      unfold layE; rw [HH1.out, HH2.out]; rfl
    have HLE := Lib.hid hle
    clear hle HR HNO HW L1 L2 R2 R3 hbw hbw2 hbd l0 zl LR HH1
    have hints := ints_of_own HO.out
    obtain ⟨A6, c6, b6, o6, rfl, hA6, hc6⟩ := hints
    have HA6 := Lib.hid hA6
    have HC6 := Lib.hid hc6
    clear hA6 hc6
    have HNL : Hid (∃ zs, numbersL xs = zs) := Lib.hid ⟨_, rfl⟩
    obtain ⟨zs, hzs⟩ := HNL.out
    have HZS := Lib.hid hzs
    rw [hzs] at h0z LG HO HStr HNin HLE HA6 HC6
    clear hzs HNL
    have g1 := LG.out.cell 1
    have zg := LG.out.lt
    have q0 := R5.out.cell 0
    have q1 := R5.out.cell 1
    have q2 := R5.out.cell 2
    have f0 := R5.out.free 0
    have f1 := R5.out.free 1
    have f2 := R5.out.free 2
    have zq := R5.out.lt
    by_cases h20 : zs.length ≤ 20
    · have h20' : ¬ ((20 : Int) < (zs.length : Int)) := by omega
      have h20d : decide ((20 : Int) < (zs.length : Int)) = false := by simpa using h20'
      have HCO := Lib.hid (complete_any A A6 c b off c6 b6 o6 (.slice none 0 0) xs zs vi vd wc hl HLI.out (by omega) HStr.out HA.out (HC.out.after hbw3) HA6.out HC6.out)
      have HLE2 : Hid (layE xs = if completeB xs zs = false then 20 else if (0 : Int) ∈ chainsL xs zs then 21 else if 6 < maxL (chainsL xs zs) then 20 else 0) := Lib.hid (by rw [HLE.out, decide_eq_true h20, Bool.true_and])
      obtain ⟨cb, hcb⟩ : ∃ cb, completeB xs zs = cb := ⟨_, rfl⟩
      have HCB := Lib.hid hcb
      rw [hcb] at HCO HLE2
      clear HLE hcb
      have g0 := LG.out.cell 0
      have g2 := LG.out.cell 2
      go_wp2_with fail
      refine (HCO.out).mono ?_
      rintro e w4 ⟨rfl, hb4⟩
      have LG4 := Lib.hid (LG.out.after hb4)
      have R6 := Lib.hid (R5.out.after hb4)
      have hbw4 : Below w.heap.size w w4 := by (repeat' (first | (with_reducible exact Below.refl _ _) | (with_reducible assumption) | (with_reducible refine Below.alloc ?_ ?_ _) | (with_reducible refine Below.setCell ?_ ?_ _) | (with_reducible refine below_row ?_ ?_ _) | (with_reducible refine Below.drew ?_) | (with_reducible refine below_drewN ?_ _) | (with_reducible refine Below.trans ?_ (Below.mono (by assumption) ?_)) | (first | exact Nat.le_refl _ | omega | (simp; done) | (simp; omega) | (exact Below.size (by assumption)))))
      have HC6' := Lib.hid (fun i (h : i < zs.length) => cell_keep hb4 (HC6.out i h))
      have HO4 := Lib.hid (own_after HO.out hb4)
      clear hb4 g0 g1 g2 zg q0 q1 q2 f0 f1 f2 zq
      have q0 := R6.out.cell 0
      have q1 := R6.out.cell 1
      have q2 := R6.out.cell 2
      have f0 := R6.out.free 0
      have f1 := R6.out.free 1
      have f2 := R6.out.free 2
      have zq := R6.out.lt
      cases cb
      · go_wp2_with fail
        exact bodyPost_ret (v := .tuple #[zDesk, .int .i64 20]) (by simp [results, Try.results65, go_sem, q0, q1, q2]) rfl ⟨.inr ⟨by rw [HLE2.out, if_pos trivial]; decide, by rw [HLE2.out, if_pos trivial]⟩, by (repeat' (first | (with_reducible exact Below.refl _ _) | (with_reducible assumption) | (with_reducible refine Below.alloc ?_ ?_ _) | (with_reducible refine Below.setCell ?_ ?_ _) | (with_reducible refine below_row ?_ ?_ _) | (with_reducible refine Below.drew ?_) | (with_reducible refine below_drewN ?_ _) | (with_reducible refine Below.trans ?_ (Below.mono (by assumption) ?_)) | (first | exact Nat.le_refl _ | omega | (simp; done) | (simp; omega) | (exact Below.size (by assumption)))))⟩
      · have HCH := Lib.hid (chains_any A A6 c b off c6 b6 o6 (.slice none 0 0) xs zs vi vd w4 hl (by omega) HSrt.out HA.out (HC.out.after hbw4) (fun x hx => ⟨HLI.out x hx, fun it hit => HNin.out _ (complete_mem HCB.out x hx it hit)⟩) HNin.out HA6.out HC6'.out)
        have hcl : (chainsL xs zs).length = zs.length := by simp [chainsL]
        have HCL := Lib.hid hcl
        clear hcl
        have HLE3 : Hid (layE xs = if (0 : Int) ∈ chainsL xs zs then 21 else if 6 < maxL (chainsL xs zs) then 20 else 0) := Lib.hid (by rw [HLE2.out]; rfl)
        clear HLE2
        have g0 := LG4.out.cell 0
        have g1 := LG4.out.cell 1
        have g2 := LG4.out.cell 2
        have k2 := LG4.out.free 2
        have zg := LG4.out.lt
        go_wp2_with fail
        refine (HCH.out).mono ?_
        rintro e w5 ⟨rfl, LD, hb5⟩
        have LG5 := Lib.hid (LG4.out.after hb5)
        have R7 := Lib.hid (R6.out.after hb5)
        have LD5 := Lib.hid LD
        have hbw5 : Below w.heap.size w w5 := by (repeat' (first | (with_reducible exact Below.refl _ _) | (with_reducible assumption) | (with_reducible refine Below.alloc ?_ ?_ _) | (with_reducible refine Below.setCell ?_ ?_ _) | (with_reducible refine below_row ?_ ?_ _) | (with_reducible refine Below.drew ?_) | (with_reducible refine below_drewN ?_ _) | (with_reducible refine Below.trans ?_ (Below.mono (by assumption) ?_)) | (first | exact Nat.le_refl _ | omega | (simp; done) | (simp; omega) | (exact Below.size (by assumption)))))
        have HO5 := Lib.hid (own_after HO4.out hb5)
        have s5 := hb5.size
        clear hb5 LD g0 g1 g2 k2 zg q0 q1 q2 f0 f1 f2 zq
        have hgd : ¬ g = w4.heap.size + 1 := by have := LG4.out.lt; omega
        have hgr : ¬ g = w.heap.size + 1 := by omega
        have hrd : ¬ w.heap.size + 1 = w4.heap.size + 1 := by have := R6.out.lt; omega
        have HCT := Lib.hid (fun W (h : Lies W (w4.heap.size + 1) 3 (rowN (chainsL xs zs))) => sContains_any (some ⟨w4.heap.size + 1, 0, none⟩) zs.length (w4.heap.size + 1) 0 (chainsL xs zs) 0 W (fun _ => rfl) (by rw [HCL.out]; omega) h.ints)
        have HMX := Lib.hid (fun W (h : Lies W (w4.heap.size + 1) 3 (rowN (chainsL xs zs))) => sMax_any zs.length (w4.heap.size + 1) 0 (chainsL xs zs) W (by rw [HCL.out]; exact h0z) (by rw [HCL.out]; omega) h.ints)
        rw [HCL.out] at HCT HMX
        have HLE4 : Hid (layE xs = if decide ((0 : Int) ∈ chainsL xs zs) = true then 21 else if 6 < maxL (chainsL xs zs) then 20 else 0) := Lib.hid (by rw [HLE3.out]; simp only [decide_eq_true_eq])
        clear HLE3
        obtain ⟨cz, hcz⟩ : ∃ cz, decide ((0 : Int) ∈ chainsL xs zs) = cz := ⟨_, rfl⟩
        rw [hcz] at HCT HLE4
        clear hcz
        have HMV : Hid (∃ mv, maxL (chainsL xs zs) = mv) := Lib.hid ⟨_, rfl⟩
        obtain ⟨mv, hmv⟩ := HMV.out
        rw [hmv] at HMX HLE4
        clear hmv HMV
        have LD6 := Lib.hid (LD5.out.other (p := ⟨g, 2, none⟩) (by show w4.heap.size + 1 ≠ g; omega) (.slice (some ⟨w4.heap.size + 1, 0, none⟩) zs.length zs.length))
        have LG6 := Lib.hid (LG5.out.store 2 (.slice (some ⟨w4.heap.size + 1, 0, none⟩) zs.length zs.length))
        have R8 := Lib.hid (R7.out.other (p := ⟨g, 2, none⟩) (by show w.heap.size + 1 ≠ g; omega) (.slice (some ⟨w4.heap.size + 1, 0, none⟩) zs.length zs.length))
        have HO6 := Lib.hid (own_set HO5.out LG5.out (by decide) 2 (.slice (some ⟨w4.heap.size + 1, 0, none⟩) zs.length zs.length))
        have hbw6 : Below w.heap.size w (w5.setCell ⟨g, 2, none⟩ (.slice (some ⟨w4.heap.size + 1, 0, none⟩) zs.length zs.length)) := hbw5.setCell (p := ⟨g, 2, none⟩) (by show w.heap.size ≤ g; omega) _
        have g2 := LG5.out.cell 2
        have k2 := LG5.out.free 2
        have zg := LG5.out.lt
        go_wp2_with fail
        clear g2 k2 zg
        generalize w5.setCell ⟨g, 2, none⟩ (.slice (some ⟨w4.heap.size + 1, 0, none⟩) zs.length zs.length) = w6 at *
        refine (HCT.out _ LD6.out).mono ?_
        rintro e w7 ⟨rfl, rfl⟩
        have q0 := R8.out.cell 0
        have q1 := R8.out.cell 1
        have q2 := R8.out.cell 2
        have f0 := R8.out.free 0
        have f1 := R8.out.free 1
        have f2 := R8.out.free 2
        have zq := R8.out.lt
        have g0 := LG6.out.cell 0
        have g1 := LG6.out.cell 1
        have g2 := LG6.out.cell 2
        have zg := LG6.out.lt
        cases cz
        · go_wp2_with fail
          refine (HMX.out _ LD6.out).mono ?_
          rintro e w8 ⟨rfl, rfl⟩
          by_cases h6 : 6 < mv
          · go_wp2_with fail
            exact bodyPost_ret (v := .tuple #[zDesk, .int .i64 20]) (by simp [results, Try.results65, go_sem, q0, q1, q2]) rfl ⟨.inr ⟨by rw [HLE4.out, if_neg (by decide), if_pos h6]; decide, by rw [HLE4.out, if_neg (by decide), if_pos h6]⟩, by (repeat' (first | (with_reducible exact Below.refl _ _) | (with_reducible assumption) | (with_reducible refine Below.alloc ?_ ?_ _) | (with_reducible refine Below.setCell ?_ ?_ _) | (with_reducible refine below_row ?_ ?_ _) | (with_reducible refine Below.drew ?_) | (with_reducible refine below_drewN ?_ _) | (with_reducible refine Below.trans ?_ (Below.mono (by assumption) ?_)) | (first | exact Nat.le_refl _ | omega | (simp; done) | (simp; omega) | (exact Below.size (by assumption)))))⟩
          · have HE0 : Hid (layE xs = 0) := Lib.hid (by rw [HLE4.out, if_neg (by decide), if_neg h6])
            go_wp2_with fail
            refine bodyPost_ret (v := .tuple #[.agg #[.slice A xs.length c, .slice A6 zs.length c6, .slice (some ⟨w4.heap.size + 1, 0, none⟩) zs.length zs.length], .int .i64 0]) (by simp [results, Try.results65, go_sem, q0, q1, q2]) rfl ⟨.inl ⟨HE0.out, _, _, rfl, ?_⟩, by (repeat' (first | (with_reducible exact Below.refl _ _) | (with_reducible assumption) | (with_reducible refine Below.alloc ?_ ?_ _) | (with_reducible refine Below.setCell ?_ ?_ _) | (with_reducible refine below_row ?_ ?_ _) | (with_reducible refine Below.drew ?_) | (with_reducible refine below_drewN ?_ _) | (with_reducible refine Below.trans ?_ (Below.mono (by assumption) ?_)) | (first | exact Nat.le_refl _ | omega | (simp; done) | (simp; omega) | (exact Below.size (by assumption)))))⟩
            have HOF := own_set (own_set (own_set HO6.out R8.out (by decide) 0 (.slice A xs.length c)) (R8.out.store 0 _) (by decide) 1 (.slice A6 zs.length c6)) ((R8.out.store 0 _).store 1 _) (by decide) 2 (.slice (some ⟨w4.heap.size + 1, 0, none⟩) zs.length zs.length)
            have LDF := ((LD6.out.other (p := ⟨w.heap.size + 1, 0, none⟩) (by show w4.heap.size + 1 ≠ w.heap.size + 1; omega) (.slice A xs.length c)).other (p := ⟨w.heap.size + 1, 1, none⟩) (by show w4.heap.size + 1 ≠ w.heap.size + 1; omega) (.slice A6 zs.length c6)).other (p := ⟨w.heap.size + 1, 2, none⟩) (by show w4.heap.size + 1 ≠ w.heap.size + 1; omega) (.slice (some ⟨w4.heap.size + 1, 0, none⟩) zs.length zs.length)
            unfold DeskAt
            rw [HZS.out]
            exact ⟨ints_of_own HOF, some ⟨w4.heap.size + 1, 0, none⟩, zs.length, w4.heap.size + 1, 0, by rw [HCL.out], fun _ => rfl, LDF.ints⟩
        · go_wp2_with fail
          exact bodyPost_ret (v := .tuple #[zDesk, .int .i64 21]) (by simp [results, Try.results65, go_sem, q0, q1, q2]) rfl ⟨.inr ⟨by rw [HLE4.out, if_pos trivial]; decide, by rw [HLE4.out, if_pos trivial]⟩, by (repeat' (first | (with_reducible exact Below.refl _ _) | (with_reducible assumption) | (with_reducible refine Below.alloc ?_ ?_ _) | (with_reducible refine Below.setCell ?_ ?_ _) | (with_reducible refine below_row ?_ ?_ _) | (with_reducible refine Below.drew ?_) | (with_reducible refine below_drewN ?_ _) | (with_reducible refine Below.trans ?_ (Below.mono (by assumption) ?_)) | (first | exact Nat.le_refl _ | omega | (simp; done) | (simp; omega) | (exact Below.size (by assumption)))))⟩
    · have h20' : (20 : Int) < (zs.length : Int) := by omega
      have h20d : decide ((20 : Int) < (zs.length : Int)) = true := by simpa using h20'
      have HLE2 : Hid (layE xs = 20) := Lib.hid (by rw [HLE.out, decide_eq_false h20, Bool.false_and]; rfl)
      go_wp2_with fail
      exact bodyPost_ret (v := .tuple #[zDesk, .int .i64 20]) (by simp [results, Try.results65, go_sem, q0, q1, q2]) rfl ⟨.inr ⟨by rw [HLE2.out]; decide, by rw [HLE2.out]⟩, by (repeat' (first | (with_reducible exact Below.refl _ _) | (with_reducible assumption) | (with_reducible refine Below.alloc ?_ ?_ _) | (with_reducible refine Below.setCell ?_ ?_ _) | (with_reducible refine below_row ?_ ?_ _) | (with_reducible refine Below.drew ?_) | (with_reducible refine below_drewN ?_ _) | (with_reducible refine Below.trans ?_ (Below.mono (by assumption) ?_)) | (first | exact Nat.le_refl _ | omega | (simp; done) | (simp; omega) | (exact Below.size (by assumption)))))⟩
/-- lay, whatever the register. -/
theorem lay_any (A : Option Addr) (c b off : Nat) (xs : List Iss) (vi vd : Nat → Value) (w : World) (hl : xs.length ≤ 1000) (hli : ∀ x ∈ xs, x.items.length ≤ 1000) (hA : 0 < xs.length → A = some ⟨b, off, none⟩) (hc : IssRow w b off xs vi vd) :
    Calls Try.prog 65 #[.agg #[.slice A xs.length c]] w (LayP xs (.slice A xs.length c) w) := by
  by_cases h : (inB 1 60 xs.length && rightB zeroI xs) = false
  · have hE : layE xs = 20 := by unfold layE; rw [if_pos h]
    refine (lay_no1 A c b off xs vi vd w hl hA hc h).mono ?_
    rintro e w' ⟨he, hb⟩
    exact ⟨.inr ⟨by rw [hE]; decide, by rw [hE]; exact he⟩, hb⟩
  · rw [Bool.not_eq_false, Bool.and_eq_true] at h
    exact lay_rest A c b off xs vi vd w hl hli hA hc h.1 h.2
end Go.Proofs.Ytngaepgepcnhkaa
