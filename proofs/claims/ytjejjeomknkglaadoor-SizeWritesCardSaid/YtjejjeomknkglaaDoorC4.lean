/- Redraw in every case, Convert, Lost. -/
import Derived.Test.YtjejjeomknkglaaDoorC3
namespace Go.Proofs.YtjejjeomknkglaaDoor
set_option linter.unusedVariables false
set_option linter.unusedSimpArgs false
open Go.RowKit

/-- What Redraw returns: a size and an error. -/
def redrawS (us : List Int) (n l u : Int) : D3 × Int :=
  if okD n l u = false then ((0, 0, 0), 10) else if 20 < us.length then ((0, 0, 0), 4) else if allU us = false then ((0, 0, 0), 11) else
    match foldD us (n, l, u) with
    | none => ((0, 0, 0), 6)
    | some x => (x, 0)

/-- A size and an error come back. -/
def Gives (r : D3 × Int) (w : World) (e : Ending) (w' : World) : Prop := e = .returned (.tuple #[.agg #[.int .i64 r.1.1, .int .i64 r.1.2.1, .int .i64 r.1.2.2], .int .i64 r.2]) ∧ Below w.heap.size w w'

set_option maxHeartbeats 1000000 in
theorem Redraw_bad (A : Option Addr) (k c : Nat) (n l u : Int) (w : World) (hd : okD n l u = false) :
    Calls Tryd.prog 31 #[.agg #[.int .i64 n, .int .i64 l, .int .i64 u], .slice A k c] w (Gives ((0, 0, 0), 10) w) := by
  go_enter Tryd.func31, Tryd.ntmps31
  go_wp2_with fail
  refine (Check_no n l u _ hd).mono ?_
  rintro e w1 ⟨rfl, hb1⟩
  have s1 := hb1.size; try simp only [World.size_alloc, World.size_setCell, World.size_drew, setRow_size] at s1
  have L4 := ((Lies.new (u := w.alloc (.cells #[.int .i64 n, .int .i64 l, .int .i64 u] 23)) (t := 23) (cs := #[.int .i64 0, .int .i64 0, .int .i64 0]) rfl).alloc _).after hb1
  have L5 := (Lies.new (t := 24) (cs := #[.int .i64 0]) rfl).after hb1
  simp only [World.size_alloc] at L4 L5
  have H4 := Lib.hid L4
  have H5 := Lib.hid L5
  obtain ⟨r0, r1, r2, f0, f1, f2⟩ := L4.c3
  have q0 := L5.cell 0
  have g0 := L5.free 0
  have z1 := L5.lt
  clear L4 L5
  go_wp2_with fail
  refine bodyPost_ret (results_two_cells rfl _ _ (w.heap.size + 1) (w.heap.size + 1 + 1) _ _ _ _ _ _ rfl rfl ((((H4.out.store 0 _).store 1 _).store 2 _).other (by show _ ≠ w.heap.size + 1 + 1; omega) _)
    ((((H5.out.other (by show _ ≠ w.heap.size + 1; omega) _).other (by show _ ≠ w.heap.size + 1; omega) _).other (by show _ ≠ w.heap.size + 1; omega) _).store 0 _) Tryd.underlying23 rfl (by kernel_rfl) Tryd.underlying24 rfl) rfl ⟨rfl, ?_⟩
  (repeat' (first | (with_reducible exact Below.refl _ _) | (with_reducible assumption) | (with_reducible refine Below.alloc ?_ ?_ _) | (with_reducible refine Below.setCell ?_ ?_ _) | (with_reducible refine below_row ?_ ?_ _) | (with_reducible refine Below.drew ?_) | (with_reducible refine below_drewN ?_ _) | (with_reducible refine Below.trans ?_ (Below.mono (by assumption) ?_)) | (first | exact Nat.le_refl _ | omega | (simp; done) | (simp; omega))))

set_option maxHeartbeats 1000000 in
theorem Redraw_many (A : Option Addr) (k c : Nat) (n l u : Int) (w : World) (hd : okD n l u = true) (hk : 20 < k) :
    Calls Tryd.prog 31 #[.agg #[.int .i64 n, .int .i64 l, .int .i64 u], .slice A k c] w (Gives ((0, 0, 0), 4) w) := by
  have hlen : (20 : Int) < (k : Int) := by omega
  go_enter Tryd.func31, Tryd.ntmps31
  go_wp2_with fail
  refine (Check_ok n l u _ hd).mono ?_
  rintro e w1 ⟨rfl, hb1⟩
  have s1 := hb1.size; try simp only [World.size_alloc, World.size_setCell, World.size_drew, setRow_size] at s1
  have L4 := ((Lies.new (u := w.alloc (.cells #[.int .i64 n, .int .i64 l, .int .i64 u] 23)) (t := 23) (cs := #[.int .i64 0, .int .i64 0, .int .i64 0]) rfl).alloc _).after hb1
  have L5 := (Lies.new (t := 24) (cs := #[.int .i64 0]) rfl).after hb1
  simp only [World.size_alloc] at L4 L5
  have H4 := Lib.hid L4
  have H5 := Lib.hid L5
  obtain ⟨r0, r1, r2, f0, f1, f2⟩ := L4.c3
  have q0 := L5.cell 0
  have g0 := L5.free 0
  have z1 := L5.lt
  clear L4 L5
  go_wp2_with fail
  refine bodyPost_ret (results_two_cells rfl _ _ (w.heap.size + 1) (w.heap.size + 1 + 1) _ _ _ _ _ _ rfl rfl ((((H4.out.store 0 _).store 1 _).store 2 _).other (by show _ ≠ w.heap.size + 1 + 1; omega) _)
    ((((H5.out.other (by show _ ≠ w.heap.size + 1; omega) _).other (by show _ ≠ w.heap.size + 1; omega) _).other (by show _ ≠ w.heap.size + 1; omega) _).store 0 _) Tryd.underlying23 rfl (by kernel_rfl) Tryd.underlying24 rfl) rfl ⟨rfl, ?_⟩
  (repeat' (first | (with_reducible exact Below.refl _ _) | (with_reducible assumption) | (with_reducible refine Below.alloc ?_ ?_ _) | (with_reducible refine Below.setCell ?_ ?_ _) | (with_reducible refine below_row ?_ ?_ _) | (with_reducible refine Below.drew ?_) | (with_reducible refine below_drewN ?_ _) | (with_reducible refine Below.trans ?_ (Below.mono (by assumption) ?_)) | (first | exact Nat.le_refl _ | omega | (simp; done) | (simp; omega))))

set_option maxHeartbeats 1000000 in
theorem Redraw_unit (A : Option Addr) (b off : Nat) (us : List Int) (c : Nat) (n l u : Int) (w : World) (hA : 0 < us.length → A = some ⟨b, off, none⟩) (hl : us.length ≤ 20) (hc : cellsU w b off us) (hu : allU us = false) (hd : okD n l u = true) :
    Calls Tryd.prog 31 #[.agg #[.int .i64 n, .int .i64 l, .int .i64 u], .slice A us.length c] w (Gives ((0, 0, 0), 11) w) := by
  have hlen : ((us.length : Nat) : Int) ≤ 20 := by omega
  have h20 : decide ((20 : Int) < (us.length : Int)) = false := by simp; omega
  go_enter Tryd.func31, Tryd.ntmps31
  go_wp2_with fail
  refine (Check_ok n l u _ hd).mono ?_
  rintro e w1 ⟨rfl, hb1⟩
  have s1 := hb1.size; try simp only [World.size_alloc, World.size_setCell, World.size_drew, setRow_size] at s1
  have L4 := ((Lies.new (u := w.alloc (.cells #[.int .i64 n, .int .i64 l, .int .i64 u] 23)) (t := 23) (cs := #[.int .i64 0, .int .i64 0, .int .i64 0]) rfl).alloc _).after hb1
  have L5 := (Lies.new (t := 24) (cs := #[.int .i64 0]) rfl).after hb1
  simp only [World.size_alloc] at L4 L5
  have hbw1 : Below w.heap.size w w1 := by (repeat' (first | (with_reducible exact Below.refl _ _) | (with_reducible assumption) | (with_reducible refine Below.alloc ?_ ?_ _) | (with_reducible refine Below.setCell ?_ ?_ _) | (with_reducible refine below_row ?_ ?_ _) | (with_reducible refine Below.drew ?_) | (with_reducible refine below_drewN ?_ _) | (with_reducible refine Below.trans ?_ (Below.mono (by assumption) ?_)) | (first | exact Nat.le_refl _ | omega | (simp; done) | (simp; omega))))
  have HC := Lib.hid (show cellsU w1 b off us from fun i h => cell_later hbw1 (hc i h))
  clear hc
  go_wp2_with fail
  refine (scalesOf_any A b off us c _ hA (by omega) HC.out).mono ?_
  rintro e w2 (⟨hyes, _⟩ | ⟨_, rfl, hb2⟩)
  · rw [hu] at hyes; cases hyes
  have s2 := hb2.size; try simp only [World.size_alloc, World.size_setCell, World.size_drew, setRow_size] at s2
  have H4 := Lib.hid (L4.after hb2)
  have H5 := Lib.hid (L5.after hb2)
  obtain ⟨r0, r1, r2, f0, f1, f2⟩ := H4.out.c3
  have q0 := H5.out.cell 0
  have g0 := H5.out.free 0
  have z1 := H5.out.lt
  clear L4 L5
  go_wp2_with fail
  refine bodyPost_ret (results_two_cells rfl _ _ (w.heap.size + 1) (w.heap.size + 1 + 1) _ _ _ _ _ _ rfl rfl ((((H4.out.store 0 _).store 1 _).store 2 _).other (by show _ ≠ w.heap.size + 1 + 1; omega) _)
    ((((H5.out.other (by show _ ≠ w.heap.size + 1; omega) _).other (by show _ ≠ w.heap.size + 1; omega) _).other (by show _ ≠ w.heap.size + 1; omega) _).store 0 _) Tryd.underlying23 rfl (by kernel_rfl) Tryd.underlying24 rfl) rfl ⟨rfl, ?_⟩
  (repeat' (first | (with_reducible exact Below.refl _ _) | (with_reducible assumption) | (with_reducible refine Below.alloc ?_ ?_ _) | (with_reducible refine Below.setCell ?_ ?_ _) | (with_reducible refine below_row ?_ ?_ _) | (with_reducible refine Below.drew ?_) | (with_reducible refine below_drewN ?_ _) | (with_reducible refine Below.trans ?_ (Below.mono (by assumption) ?_)) | (first | exact Nat.le_refl _ | omega | (simp; done) | (simp; omega))))

theorem Redraw_any (A : Option Addr) (b off : Nat) (us : List Int) (c : Nat) (n l u : Int) (w : World) (hA : 0 < us.length → A = some ⟨b, off, none⟩) (hc : cellsU w b off us) :
    Calls Tryd.prog 31 #[.agg #[.int .i64 n, .int .i64 l, .int .i64 u], .slice A us.length c] w (Gives (redrawS us n l u) w) := by
  unfold redrawS
  by_cases h1 : okD n l u = false
  · rw [if_pos h1]; exact Redraw_bad A _ c n l u w h1
  · have h1' : okD n l u = true := by simpa using h1
    rw [if_neg h1]
    by_cases h2 : 20 < us.length
    · rw [if_pos h2]; exact Redraw_many A _ c n l u w h1' h2
    · rw [if_neg h2]
      by_cases h3 : allU us = false
      · rw [if_pos h3]; exact Redraw_unit A b off us c n l u w hA (by omega) hc h3 h1'
      · rw [if_neg h3]
        refine (Redraw_go A b off us c n l u w hA (by omega) hc (by simpa using h3) h1').mono ?_
        rintro e w' ⟨(⟨hn, rfl⟩ | ⟨x, hx, rfl⟩), hb⟩
        · rw [hn]; exact ⟨rfl, hb⟩
        · rw [hx]; exact ⟨rfl, hb⟩

def convS (un n l u : Int) : D3 × Int := redrawS [un] n l u
set_option maxHeartbeats 1000000 in
theorem Convert_any (un n l u : Int) (w : World) :
    Calls Tryd.prog 28 #[.agg #[.int .i64 n, .int .i64 l, .int .i64 u], .int .u8 un] w (Gives (convS un n l u) w) := by
  obtain ⟨⟨⟨x, y, z⟩, e⟩, hr⟩ : ∃ r, redrawS [un] n l u = r := ⟨_, rfl⟩
  have hc : convS un n l u = ((x, y, z), e) := hr
  rw [hc]
  have HR := Lib.hid hr
  clear hr hc
  go_enter Tryd.func28, Tryd.ntmps28
  go_wp2_with fail
  refine (Redraw_any _ _ 0 [un] _ n l u _ (fun _ => rfl) (fun i h => by
    match i, h with
    | 0, _ => exact (Lies.new (t := 5) (cs := #[.int .u8 un]) (by simp)).cell 0)).mono ?_
  rw [HR.out]
  rintro _ w1 ⟨rfl, hb1⟩
  have s1 := hb1.size; try simp only [World.size_alloc, World.size_setCell, World.size_drew, setRow_size] at s1
  have L4 := ((Lies.new (u := w.alloc (.cells #[.int .i64 n, .int .i64 l, .int .i64 u] 23)) (t := 23) (cs := #[.int .i64 0, .int .i64 0, .int .i64 0]) rfl).alloc _).after hb1
  simp only [World.size_alloc] at L4
  have H4 := Lib.hid L4
  obtain ⟨r0, r1, r2, f0, f1, f2⟩ := L4.c3
  clear L4
  go_wp2_with fail
  refine bodyPost_ret (results_cell_tmp rfl _ _ (w.heap.size + 1) _ _ _ rfl (((H4.out.store 0 _).store 1 _).store 2 _) Tryd.underlying23 rfl (by kernel_rfl)) rfl ⟨rfl, ?_⟩
  (repeat' (first | (with_reducible exact Below.refl _ _) | (with_reducible assumption) | (with_reducible refine Below.alloc ?_ ?_ _) | (with_reducible refine Below.setCell ?_ ?_ _) | (with_reducible refine below_row ?_ ?_ _) | (with_reducible refine Below.drew ?_) | (with_reducible refine below_drewN ?_ _) | (with_reducible refine Below.trans ?_ (Below.mono (by assumption) ?_)) | (first | exact Nat.le_refl _ | omega | (simp; done) | (simp; omega))))

theorem redrawS_ok {us : List Int} {n l u : Int} {r : D3 × Int} (h : redrawS us n l u = r) : (r.2 = 0 ∧ okD n l u = true ∧ us.length ≤ 20 ∧ allU us = true ∧ foldD us (n, l, u) = some r.1) ∨ (r.2 ≠ 0 ∧ r.1 = (0, 0, 0)) := by
  subst h
  unfold redrawS
  by_cases h1 : okD n l u = false
  · rw [if_pos h1]; exact .inr ⟨by simp, rfl⟩
  · rw [if_neg h1]
    by_cases h2 : 20 < us.length
    · rw [if_pos h2]; exact .inr ⟨by simp, rfl⟩
    · rw [if_neg h2]
      by_cases h3 : allU us = false
      · rw [if_pos h3]; exact .inr ⟨by simp, rfl⟩
      · rw [if_neg h3]
        cases hf : foldD us (n, l, u) with
        | none => exact .inr ⟨by simp, rfl⟩
        | some x => exact .inl ⟨rfl, by simpa using h1, by omega, by simpa using h3, rfl⟩
/-- What one drawing leaves of a valid size. -/
theorem convS_ok {un n l u : Int} {r : D3 × Int} (h : convS un n l u = r) (h0 : r.2 = 0) : okD n l u = true ∧ (un = 1 ∨ un = 2) ∧ r.1 = (nearS (stepU un) n, upS (stepU un) l, downS (stepU un) u) ∧ upS (stepU un) l ≤ downS (stepU un) u := by
  rcases redrawS_ok h with ⟨_, h1, _, h3, h4⟩ | ⟨h1, _⟩
  · refine ⟨h1, by simpa [allU, unitB] using h3, ?_⟩
    by_cases hx : downS (stepU un) u < upS (stepU un) l
    · have h5 : foldD [un] (n, l, u) = none := if_pos hx
      rw [h5] at h4; cases h4
    · have h5 : foldD [un] (n, l, u) = some (stepD un (n, l, u)) := if_neg hx
      rw [h5] at h4
      injection h4 with h4
      exact ⟨h4.symm, by omega⟩
  · exact absurd h0 h1

/-- What Lost returns. -/
def lostS (un n l u : Int) : Int × Int × Int := if (convS un n l u).2 = 0 then ((convS un n l u).1.2.1 - l, u - (convS un n l u).1.2.2, 0) else (0, 0, (convS un n l u).2)
set_option maxHeartbeats 1000000 in
theorem Lost_any (un n l u : Int) (w : World) :
    Calls Tryd.prog 30 #[.agg #[.int .i64 n, .int .i64 l, .int .i64 u], .int .u8 un] w fun e w' => e = .returned (.tuple #[.int .i64 ((lostS un n l u).1), .int .i64 ((lostS un n l u).2.1), .int .i64 ((lostS un n l u).2.2)]) ∧ Below w.heap.size w w' := by
  have HV := Lib.hid (fun W => Convert_any un n l u W)
  obtain ⟨r, hr⟩ : ∃ r, convS un n l u = r := ⟨_, rfl⟩
  rw [hr] at HV
  unfold lostS
  rw [hr]
  obtain ⟨⟨x, y, z⟩, e⟩ := r
  by_cases h0 : e = 0
  · subst h0
    obtain ⟨hd, hun, he, hle⟩ := convS_ok hr rfl
    obtain ⟨h1, h2, h3, h4, h5⟩ := okD_iff.1 hd
    have hb1 := upS_bd (st := stepU un) h3 (stepU_or un)
    have hb2 := downS_bd (st := stepU un) (n := u) (by omega) (stepU_or un)
    have hst := stepU_or un
    injection he with he1 he2
    injection he2 with he2 he3
    rw [← he2] at hb1
    rw [← he3] at hb2
    have b1 : l ≤ y := hb1.1
    have b2 : y ≤ l + 254 := by omega
    have b3 : z ≤ u := hb2.2.1
    have b4 : 0 ≤ z := hb2.1
    clear hr hd hun he1 he2 he3 hle hb1 hb2 hst
    rw [if_pos rfl]
    go_enter Tryd.func30, Tryd.ntmps30
    go_wp2_with fail
    refine (HV.out _).mono ?_
    rintro _ w1 ⟨rfl, hb1⟩
    have s1 := hb1.size; try simp only [World.size_alloc, World.size_setCell, World.size_drew, setRow_size] at s1
    have LD := (Lies.new (u := w) (t := 23) (cs := #[.int .i64 n, .int .i64 l, .int .i64 u]) rfl).after hb1
    obtain ⟨p0, p1, p2, -, -, -⟩ := LD.c3
    have zd := LD.lt
    clear LD
    go_wp2_with fail
    go_quiet (fail)
    go_wp2
    go_ret3
    exact ⟨rfl, by (repeat' (first | (with_reducible exact Below.refl _ _) | (with_reducible assumption) | (with_reducible refine Below.alloc ?_ ?_ _) | (with_reducible refine Below.setCell ?_ ?_ _) | (with_reducible refine below_row ?_ ?_ _) | (with_reducible refine Below.drew ?_) | (with_reducible refine below_drewN ?_ _) | (with_reducible refine Below.trans ?_ (Below.mono (by assumption) ?_)) | (first | exact Nat.le_refl _ | omega | (simp; done) | (simp; omega))))⟩
  · have h0' : (e == 0) = false := by simpa using h0
    have h1' : (e != 0) = true := by simpa using h0
    rw [if_neg h0]
    clear hr h0
    go_enter Tryd.func30, Tryd.ntmps30
    go_wp2_with fail
    refine (HV.out _).mono ?_
    rintro _ w1 ⟨rfl, hb1⟩
    have s1 := hb1.size; try simp only [World.size_alloc, World.size_setCell, World.size_drew, setRow_size] at s1
    go_wp2_with fail
    go_ret3
    exact ⟨rfl, by (repeat' (first | (with_reducible exact Below.refl _ _) | (with_reducible assumption) | (with_reducible refine Below.alloc ?_ ?_ _) | (with_reducible refine Below.setCell ?_ ?_ _) | (with_reducible refine below_row ?_ ?_ _) | (with_reducible refine Below.drew ?_) | (with_reducible refine below_drewN ?_ _) | (with_reducible refine Below.trans ?_ (Below.mono (by assumption) ?_)) | (first | exact Nat.le_refl _ | omega | (simp; done) | (simp; omega))))⟩
end Go.Proofs.YtjejjeomknkglaaDoor
