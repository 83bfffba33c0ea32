/- The reference: Lost, Redraw. -/
import Derived.Test.YtldjkdomklgmaaaR2
namespace Go.Proofs.Ytldjkdomklgmaaa
set_option linter.unusedVariables false
set_option linter.unusedSimpArgs false
open Go.RowKit

set_option maxHeartbeats 1000000 in
theorem rLost_any (un n l u : Int) (w : World) :
    Calls Try.prog 10 #[.agg #[.int .i64 n, .int .i64 l, .int .i64 u], .int .u8 un] w fun e w' => e = .returned (.tuple #[.int .i64 ((lostS un n l u).1), .int .i64 ((lostS un n l u).2.1), .int .i64 ((lostS un n l u).2.2)]) ∧ Below w.heap.size w w' := by
  have HV := Lib.hid (fun W => rConvert_any un n l u W)
  obtain ⟨r, hr⟩ : ∃ r, convS un n l u = r := ⟨_, rfl⟩
  rw [hr] at HV
  unfold lostS
  rw [hr]
  obtain ⟨⟨x, y, z⟩, e⟩ := r
  by_cases h0 : e = 0
  · subst h0
    obtain ⟨hd, hun, he, hle⟩ := convS_ok hr rfl
    obtain ⟨h1, h2, h3, h4, h5⟩ := okD_iff.1 hd
    have hb1 := upS_bd (st := stepU un) h3 (stepU_or un)
    have hb2 := downS_bd (st := stepU un) (n := u) (by omega) (stepU_or un)
    have hst := stepU_or un
    injection he with he1 he2
    injection he2 with he2 he3
    rw [← he2] at hb1
    rw [← he3] at hb2
    have b1 : l ≤ y := hb1.1
    have b2 : y ≤ l + 254 := by omega
    have b3 : z ≤ u := hb2.2.1
    have b4 : 0 ≤ z := hb2.1
    clear hr hd hun he1 he2 he3 hle hb1 hb2 hst
    rw [if_pos rfl]
    go_enter Try.func10, Try.ntmps10
    go_wp2_with fail
    refine (HV.out _).mono ?_
    rintro _ w1 ⟨rfl, hb1⟩
    have s1 := hb1.size; try simp only [World.size_alloc, World.size_setCell, World.size_drew, setRow_size] at s1
    have LD := (Lies.new (u := w) (t := 23) (cs := #[.int .i64 n, .int .i64 l, .int .i64 u]) rfl).after hb1
    obtain ⟨p0, p1, p2, -, -, -⟩ := LD.c3
    have zd := LD.lt
    clear LD
    go_wp2_with fail
    go_quiet (fail)
    go_wp2
    go_ret3
    exact ⟨rfl, by (repeat' (first | (with_reducible exact Below.refl _ _) | (with_reducible assumption) | (with_reducible refine Below.alloc ?_ ?_ _) | (with_reducible refine Below.setCell ?_ ?_ _) | (with_reducible refine below_row ?_ ?_ _) | (with_reducible refine Below.drew ?_) | (with_reducible refine below_drewN ?_ _) | (with_reducible refine Below.trans ?_ (Below.mono (by assumption) ?_)) | (first | exact Nat.le_refl _ | omega | (simp; done) | (simp; omega))))⟩
  · have h0' : (e == 0) = false := by simpa using h0
    have h1' : (e != 0) = true := by simpa using h0
    rw [if_neg h0]
    clear hr h0
    go_enter Try.func10, Try.ntmps10
    go_wp2_with fail
    refine (HV.out _).mono ?_
    rintro _ w1 ⟨rfl, hb1⟩
    have s1 := hb1.size; try simp only [World.size_alloc, World.size_setCell, World.size_drew, setRow_size] at s1
    go_wp2_with fail
    go_ret3
    exact ⟨rfl, by (repeat' (first | (with_reducible exact Below.refl _ _) | (with_reducible assumption) | (with_reducible refine Below.alloc ?_ ?_ _) | (with_reducible refine Below.setCell ?_ ?_ _) | (with_reducible refine below_row ?_ ?_ _) | (with_reducible refine Below.drew ?_) | (with_reducible refine below_drewN ?_ _) | (with_reducible refine Below.trans ?_ (Below.mono (by assumption) ?_)) | (first | exact Nat.le_refl _ | omega | (simp; done) | (simp; omega))))⟩

set_option maxHeartbeats 2000000 in
theorem rRedraw_bad (A : Option Addr) (k c : Nat) (n l u : Int) (w : World) (hd : okD n l u = false) :
    Calls Try.prog 8 #[.agg #[.int .i64 n, .int .i64 l, .int .i64 u], .slice A k c] w (Gives ((0, 0, 0), 10) w) := by
  have HD := Lib.hid (fun W => rDim_any n l u W)
  rw [hd] at HD
  go_enter Try.func8, Try.ntmps8
  go_wp2_with fail
  refine (HD.out _).mono ?_
  rintro e w1 ⟨rfl, hb1⟩
  have s1 := hb1.size; try simp only [World.size_alloc, World.size_setCell, World.size_drew, setRow_size] at s1
  have L4 := (Lies.new (u := w.alloc (.cells #[.int .i64 n, .int .i64 l, .int .i64 u] 23)) (t := 23) (cs := #[.int .i64 0, .int .i64 0, .int .i64 0]) rfl).after hb1
  have LD := ((Lies.new (u := w) (t := 23) (cs := #[.int .i64 n, .int .i64 l, .int .i64 u]) rfl).alloc (.cells #[.int .i64 0, .int .i64 0, .int .i64 0] 23)).after hb1
  simp only [World.size_alloc] at L4
  have zd := L4.lt
  have hbw : Below w.heap.size w w1 := by (repeat' (first | (with_reducible exact Below.refl _ _) | (with_reducible assumption) | (with_reducible refine Below.alloc ?_ ?_ _) | (with_reducible refine Below.setCell ?_ ?_ _) | (with_reducible refine below_row ?_ ?_ _) | (with_reducible refine Below.drew ?_) | (with_reducible refine below_drewN ?_ _) | (with_reducible refine Below.trans ?_ (Below.mono (by assumption) ?_)) | (first | exact Nat.le_refl _ | omega | (simp; done) | (simp; omega))))
  have H4 := Lib.hid L4
  obtain ⟨r0, r1, r2, f0, f1, f2⟩ := L4.c3
  clear L4 LD
  go_wp2_with fail
  refine bodyPost_ret (results_cell_tmp Try.results8 _ _ (w.heap.size + 1) _ _ _ rfl (((H4.out.store 0 _).store 1 _).store 2 _) Try.underlying23 rfl (by kernel_rfl)) rfl ⟨rfl, ?_⟩
  (repeat' (first | (with_reducible exact Below.refl _ _) | (with_reducible assumption) | (with_reducible refine Below.alloc ?_ ?_ _) | (with_reducible refine Below.setCell ?_ ?_ _) | (with_reducible refine below_row ?_ ?_ _) | (with_reducible refine Below.drew ?_) | (with_reducible refine below_drewN ?_ _) | (with_reducible refine Below.trans ?_ (Below.mono (by assumption) ?_)) | (first | exact Nat.le_refl _ | omega | (simp; done) | (simp; omega))))
set_option maxHeartbeats 2000000 in
theorem rRedraw_many (A : Option Addr) (k c : Nat) (n l u : Int) (w : World) (hd : okD n l u = true) (hk : 20 < k) :
    Calls Try.prog 8 #[.agg #[.int .i64 n, .int .i64 l, .int .i64 u], .slice A k c] w (Gives ((0, 0, 0), 4) w) := by
  have hlen : (20 : Int) < (k : Int) := by omega
  have HD := Lib.hid (fun W => rDim_any n l u W)
  rw [hd] at HD
  go_enter Try.func8, Try.ntmps8
  go_wp2_with fail
  refine (HD.out _).mono ?_
  rintro e w1 ⟨rfl, hb1⟩
  have s1 := hb1.size; try simp only [World.size_alloc, World.size_setCell, World.size_drew, setRow_size] at s1
  have L4 := (Lies.new (u := w.alloc (.cells #[.int .i64 n, .int .i64 l, .int .i64 u] 23)) (t := 23) (cs := #[.int .i64 0, .int .i64 0, .int .i64 0]) rfl).after hb1
  have LD := ((Lies.new (u := w) (t := 23) (cs := #[.int .i64 n, .int .i64 l, .int .i64 u]) rfl).alloc (.cells #[.int .i64 0, .int .i64 0, .int .i64 0] 23)).after hb1
  simp only [World.size_alloc] at L4
  have zd := L4.lt
  have hbw : Below w.heap.size w w1 := by (repeat' (first | (with_reducible exact Below.refl _ _) | (with_reducible assumption) | (with_reducible refine Below.alloc ?_ ?_ _) | (with_reducible refine Below.setCell ?_ ?_ _) | (with_reducible refine below_row ?_ ?_ _) | (with_reducible refine Below.drew ?_) | (with_reducible refine below_drewN ?_ _) | (with_reducible refine Below.trans ?_ (Below.mono (by assumption) ?_)) | (first | exact Nat.le_refl _ | omega | (simp; done) | (simp; omega))))
  have H4 := Lib.hid L4
  obtain ⟨r0, r1, r2, f0, f1, f2⟩ := L4.c3
  clear L4 LD
  go_wp2_with fail
  refine bodyPost_ret (results_cell_tmp Try.results8 _ _ (w.heap.size + 1) _ _ _ rfl (((H4.out.store 0 _).store 1 _).store 2 _) Try.underlying23 rfl (by kernel_rfl)) rfl ⟨rfl, ?_⟩
  (repeat' (first | (with_reducible exact Below.refl _ _) | (with_reducible assumption) | (with_reducible refine Below.alloc ?_ ?_ _) | (with_reducible refine Below.setCell ?_ ?_ _) | (with_reducible refine below_row ?_ ?_ _) | (with_reducible refine Below.drew ?_) | (with_reducible refine below_drewN ?_ _) | (with_reducible refine Below.trans ?_ (Below.mono (by assumption) ?_)) | (first | exact Nat.le_refl _ | omega | (simp; done) | (simp; omega))))
theorem allU_get {us : List Int} (h : allU us = true) {k : Nat} (hk : k < us.length) : unitB us[k] = true := by
  unfold allU at h; rw [List.all_eq_true] at h; exact h _ (List.getElem_mem hk)
theorem allU_of {us : List Int} (h : ∀ j (hj : j < us.length), unitB us[j] = true) : allU us = true := by
  unfold allU; rw [List.all_eq_true]; intro x hx; obtain ⟨k, hk, rfl⟩ := List.getElem_of_mem hx; exact h k hk
set_option maxHeartbeats 2000000 in
theorem rRedraw_unit (A : Option Addr) (b off : Nat) (us : List Int) (c : Nat) (n l u : Int) (w : World) (hA : 0 < us.length → A = some ⟨b, off, none⟩) (hl : us.length ≤ 20) (hc : cellsU w b off us) (hu : allU us = false) (hd : okD n l u = true) :
    Calls Try.prog 8 #[.agg #[.int .i64 n, .int .i64 l, .int .i64 u], .slice A us.length c] w (Gives ((0, 0, 0), 11) w) := by
  have h0 : 0 < us.length := by
    cases us with
    | nil => cases hu
    | cons => simp
  obtain rfl := hA h0
  have hlen : ((us.length : Nat) : Int) ≤ 20 := by omega
  have h20 : decide ((20 : Int) < (us.length : Int)) = false := by simp; omega
  have HD := Lib.hid (fun W => rDim_any n l u W)
  have HS := Lib.hid (fun un W => rStep_any un W)
  have HC := Lib.hid hc
  have HU := Lib.hid hu
  rw [hd] at HD
  clear hA hc hu hd
  go_enter Try.func8, Try.ntmps8
  go_wp2_with fail
  refine (HD.out _).mono ?_
  rintro e w1 ⟨rfl, hb1⟩
  have s1 := hb1.size; try simp only [World.size_alloc, World.size_setCell, World.size_drew, setRow_size] at s1
  have L4 := (Lies.new (u := w.alloc (.cells #[.int .i64 n, .int .i64 l, .int .i64 u] 23)) (t := 23) (cs := #[.int .i64 0, .int .i64 0, .int .i64 0]) rfl).after hb1
  have LD := ((Lies.new (u := w) (t := 23) (cs := #[.int .i64 n, .int .i64 l, .int .i64 u]) rfl).alloc (.cells #[.int .i64 0, .int .i64 0, .int .i64 0] 23)).after hb1
  simp only [World.size_alloc] at L4
  have zd := L4.lt
  have hbw : Below w.heap.size w w1 := by (repeat' (first | (with_reducible exact Below.refl _ _) | (with_reducible assumption) | (with_reducible refine Below.alloc ?_ ?_ _) | (with_reducible refine Below.setCell ?_ ?_ _) | (with_reducible refine below_row ?_ ?_ _) | (with_reducible refine Below.drew ?_) | (with_reducible refine below_drewN ?_ _) | (with_reducible refine Below.trans ?_ (Below.mono (by assumption) ?_)) | (first | exact Nat.le_refl _ | omega | (simp; done) | (simp; omega))))
  have H4 := Lib.hid L4
  clear L4 LD
  go_wp2_with fail
  go_loopw [6] (fun i wr => ∃ (k : Nat), k ≤ us.length ∧ i = .int .i64 k ∧ Hid (∀ j (hj : j < us.length), j < k → unitB us[j] = true) ∧ Lies wr (w.heap.size + 1) 23 #[.int .i64 0, .int .i64 0, .int .i64 0] ∧ Below w.heap.size w wr) (fun i _ => us.length - (intOf i).toNat)
  case atStart => exact ⟨0, by omega, rfl, Lib.hid (fun j hj h => by omega), H4.out, hbw⟩
  case round =>
    obtain ⟨k, hk, rfl, hj, hL, hbr⟩ := hrel
    have HL := Lib.hid hL
    have zr := hL.lt
    obtain ⟨r0, r1, r2, f0, f1, f2⟩ := hL.c3
    clear hL H4
    by_cases hlt : k < us.length
    · have q0 := HC.out k hlt
      have hbl : b < w.heap.size := World.block_lt_of_cell? w _ q0
      have p0 := (hbr.cell (p := ⟨b, off + k, none⟩) hbl).trans q0
      clear q0
      obtain ⟨un, hun⟩ : ∃ un, us[k] = un := ⟨_, rfl⟩
      rw [hun] at p0
      by_cases hb : unitB un = true
      · have HT := Lib.hid (fun W => HS.out un W)
        rw [stepR_of hb] at HT
        have hst := stepU_or un
        have s0 : ¬ stepU un = 0 := by omega
        have s0' : (stepU un == 0) = false := by simpa using s0
        generalize stepU un = st at *
        have HJ := Lib.hid (show ∀ j (hj : j < us.length), j < k + 1 → unitB us[j] = true from fun j hj' h => by
          by_cases e : j = k
          · subst e; rw [hun]; exact hb
          · exact hj.out j hj' (by omega))
        clear hj hun hb
        go_wp2_with fail
        refine (HT.out _).mono ?_
        rintro e w2 ⟨rfl, k2, rfl⟩
        go_wp2_with fail
        go_roundw
        case rel => exact ⟨k + 1, by omega, by go_num, HJ, HL.out.drewN _, by (repeat' (first | (with_reducible exact Below.refl _ _) | (with_reducible assumption) | (with_reducible refine Below.alloc ?_ ?_ _) | (with_reducible refine Below.setCell ?_ ?_ _) | (with_reducible refine below_row ?_ ?_ _) | (with_reducible refine Below.drew ?_) | (with_reducible refine below_drewN ?_ _) | (with_reducible refine Below.trans ?_ (Below.mono (by assumption) ?_)) | (first | exact Nat.le_refl _ | omega | (simp; done) | (simp; omega))))⟩
        case measure => simp [intOf]; omega
      · have hb' : unitB un = false := by simpa using hb
        have HT := Lib.hid (fun W => HS.out un W)
        rw [stepR_no hb'] at HT
        clear hj hun hb hb'
        go_wp2_with fail
        refine (HT.out _).mono ?_
        rintro e w2 ⟨rfl, k2, rfl⟩
        go_wp2_with fail
        refine bodyPost_ret (results_cell_tmp Try.results8 _ _ (w.heap.size + 1) _ _ _ rfl ((((HL.out.drewN _).store 0 _).store 1 _).store 2 _) Try.underlying23 rfl (by kernel_rfl)) rfl ⟨rfl, ?_⟩
        (repeat' (first | (with_reducible exact Below.refl _ _) | (with_reducible assumption) | (with_reducible refine Below.alloc ?_ ?_ _) | (with_reducible refine Below.setCell ?_ ?_ _) | (with_reducible refine below_row ?_ ?_ _) | (with_reducible refine Below.drew ?_) | (with_reducible refine below_drewN ?_ _) | (with_reducible refine Below.trans ?_ (Below.mono (by assumption) ?_)) | (first | exact Nat.le_refl _ | omega | (simp; done) | (simp; omega))))
    · exfalso
      have hT := allU_of (fun j hj' => hj.out j hj' (by omega))
      rw [HU.out] at hT
      cases hT
end Go.Proofs.Ytldjkdomklgmaaa
