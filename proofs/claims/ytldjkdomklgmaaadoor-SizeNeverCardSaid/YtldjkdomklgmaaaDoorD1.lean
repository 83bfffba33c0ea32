/- Meet. -/
import Derived.Test.YtldjkdomklgmaaaDoorC4
import Derived.Test.YtldjkdomklgmaaaDoorA3
namespace Go.Proofs.YtldjkdomklgmaaaDoor
set_option linter.unusedVariables false
set_option linter.unusedSimpArgs false
open Go.RowKit

set_option maxHeartbeats 400000 in
theorem Meet_many (A : Option Addr) (k c : Nat) (w : World) (hk : 20 < k) :
    Calls Tryd.prog 28 #[.slice A k c] w fun e w' => e = .returned (.tuple #[.agg #[.int .i64 0, .int .i64 0], .int .i64 4]) ∧ Below w.heap.size w w' := by
  have hlen : (20 : Int) < (k : Int) := by omega
  go_enter Tryd.func28, Tryd.ntmps28
  go_wp2_with fail
  refine bodyPost_ret (v := .tuple #[.agg #[.int .i64 0, .int .i64 0], .int .i64 4]) (by simp [results, Tryd.results28, go_sem]) rfl ⟨rfl, ?_⟩
  (repeat' (first | (with_reducible exact Below.refl _ _) | (with_reducible assumption) | (with_reducible refine Below.alloc ?_ ?_ _) | (with_reducible refine Below.setCell ?_ ?_ _) | (with_reducible refine below_row ?_ ?_ _) | (with_reducible refine Below.drew ?_) | (with_reducible refine below_drewN ?_ _) | (with_reducible refine Below.trans ?_ (Below.mono (by assumption) ?_)) | (first | exact Nat.le_refl _ | omega | (simp; done) | (simp; omega))))
set_option maxHeartbeats 400000 in
theorem Meet_bad (A : Option Addr) (b off : Nat) (ds : List D3) (c : Nat) (w : World) (hA : 0 < ds.length → A = some ⟨b, off, none⟩) (hl : ds.length ≤ 20) (hc : cellsD w b off ds) (hb : badD ds = true) :
    Calls Tryd.prog 28 #[.slice A ds.length c] w fun e w' => e = .returned (.tuple #[.agg #[.int .i64 0, .int .i64 0], .int .i64 10]) ∧ Below w.heap.size w w' := by
  have hlen : ((ds.length : Nat) : Int) ≤ 20 := by omega
  have HC := Lib.hid (fun W (h : Below w.heap.size w W) => checkAll_any A b off ds c W hA (by omega) (fun i hi => ⟨cell_later h (hc i hi).1, cell_later h (hc i hi).2.1, cell_later h (hc i hi).2.2⟩))
  rw [if_pos hb] at HC
  clear hA hc hb
  go_enter Tryd.func28, Tryd.ntmps28
  go_wp2_with fail
  refine (HC.out _ (by (repeat' (first | (with_reducible exact Below.refl _ _) | (with_reducible assumption) | (with_reducible refine Below.alloc ?_ ?_ _) | (with_reducible refine Below.setCell ?_ ?_ _) | (with_reducible refine below_row ?_ ?_ _) | (with_reducible refine Below.drew ?_) | (with_reducible refine below_drewN ?_ _) | (with_reducible refine Below.trans ?_ (Below.mono (by assumption) ?_)) | (first | exact Nat.le_refl _ | omega | (simp; done) | (simp; omega)))))).mono ?_
  rintro e w1 ⟨rfl, hb1⟩
  have s1 := hb1.size; try simp only [World.size_alloc, World.size_setCell, World.size_drew, setRow_size] at s1
  have LR := (Lies.new (u := w) (t := 31) (cs := #[.int .i64 0, .int .i64 0]) rfl).after hb1
  have HR := Lib.hid LR
  obtain ⟨r0, r1, f0, f1⟩ := LR.c2
  clear LR
  go_wp2_with fail
  refine bodyPost_ret (results_cell_tmp Tryd.results28 _ _ w.heap.size _ _ _ rfl ((HR.out.store 0 _).store 1 _) Tryd.underlying31 rfl (by kernel_rfl)) rfl ⟨rfl, ?_⟩
  (repeat' (first | (with_reducible exact Below.refl _ _) | (with_reducible assumption) | (with_reducible refine Below.alloc ?_ ?_ _) | (with_reducible refine Below.setCell ?_ ?_ _) | (with_reducible refine below_row ?_ ?_ _) | (with_reducible refine Below.drew ?_) | (with_reducible refine below_drewN ?_ _) | (with_reducible refine Below.trans ?_ (Below.mono (by assumption) ?_)) | (first | exact Nat.le_refl _ | omega | (simp; done) | (simp; omega))))
set_option maxHeartbeats 400000 in
theorem Meet_empty (A : Option Addr) (c : Nat) (w : World)  :
    Calls Tryd.prog 28 #[.slice A 0 c] w fun e w' => e = .returned (.tuple #[.agg #[.int .i64 0, .int .i64 0], .int .i64 6]) ∧ Below w.heap.size w w' := by
  have HC := Lib.hid (fun W => checkAll_any A 0 0 [] c W (fun h => absurd h (by simp)) (by simp) (fun i hi => absurd hi (by simp)))
  rw [show badD [] = false from rfl, if_neg (by simp)] at HC
  go_enter Tryd.func28, Tryd.ntmps28
  go_wp2_with fail
  refine (HC.out _).mono ?_
  rintro e w1 ⟨rfl, hb1⟩
  have s1 := hb1.size; try simp only [World.size_alloc, World.size_setCell, World.size_drew, setRow_size] at s1
  have LR := (Lies.new (u := w) (t := 31) (cs := #[.int .i64 0, .int .i64 0]) rfl).after hb1
  have HR := Lib.hid LR
  obtain ⟨r0, r1, f0, f1⟩ := LR.c2
  clear LR
  go_wp2_with fail
  refine bodyPost_ret (results_cell_tmp Tryd.results28 _ _ w.heap.size _ _ _ rfl ((HR.out.store 0 _).store 1 _) Tryd.underlying31 rfl (by kernel_rfl)) rfl ⟨rfl, ?_⟩
  (repeat' (first | (with_reducible exact Below.refl _ _) | (with_reducible assumption) | (with_reducible refine Below.alloc ?_ ?_ _) | (with_reducible refine Below.setCell ?_ ?_ _) | (with_reducible refine below_row ?_ ?_ _) | (with_reducible refine Below.drew ?_) | (with_reducible refine below_drewN ?_ _) | (with_reducible refine Below.trans ?_ (Below.mono (by assumption) ?_)) | (first | exact Nat.le_refl _ | omega | (simp; done) | (simp; omega))))

/-- What is common to a span and some sizes. -/
def meetS : Int → Int → List D3 → Int × Int
  | lo, hi, [] => (lo, hi)
  | lo, hi, d :: ds => meetS (if lo < d.2.1 then d.2.1 else lo) (if d.2.2 < hi then d.2.2 else hi) ds

/-- What Meet returns of at least one valid size. -/
def Met (r : Int × Int) (w : World) (e : Ending) (w' : World) : Prop :=
  e = .returned (.tuple #[.agg #[.int .i64 (if r.2 < r.1 then 0 else r.1), .int .i64 (if r.2 < r.1 then 0 else r.2)], .int .i64 (if r.2 < r.1 then 6 else 0)]) ∧ Below w.heap.size w w'

set_option maxHeartbeats 2000000 in
theorem Meet_go (A : Option Addr) (b off : Nat) (ds : List D3) (c : Nat) (w : World) (hA : 0 < ds.length → A = some ⟨b, off, none⟩) (hl : ds.length ≤ 20) (h0 : 0 < ds.length) (hc : cellsD w b off ds) (hb : badD ds = false) :
    Calls Tryd.prog 28 #[.slice A ds.length c] w (Met (meetS 0 1000000000 ds) w) := by
  obtain rfl := hA h0
  have hlen : ((ds.length : Nat) : Int) ≤ 20 := by omega
  have hlen0 : ((ds.length : Int) == 0) = false := by rw [beq_eq_false_iff_ne]; omega
  have h20 : decide ((20 : Int) < (ds.length : Int)) = false := by simp; omega
  have HC := Lib.hid (fun W (h : Below w.heap.size w W) => checkAll_any _ b off ds c W hA (by omega) (fun i hi => ⟨cell_later h (hc i hi).1, cell_later h (hc i hi).2.1, cell_later h (hc i hi).2.2⟩))
  rw [if_neg (by simp [hb])] at HC
  have HCC := Lib.hid hc
  clear hA hc hb
  go_enter Tryd.func28, Tryd.ntmps28
  go_wp2_with fail
  refine (HC.out _ (by (repeat' (first | (with_reducible exact Below.refl _ _) | (with_reducible assumption) | (with_reducible refine Below.alloc ?_ ?_ _) | (with_reducible refine Below.setCell ?_ ?_ _) | (with_reducible refine below_row ?_ ?_ _) | (with_reducible refine Below.drew ?_) | (with_reducible refine below_drewN ?_ _) | (with_reducible refine Below.trans ?_ (Below.mono (by assumption) ?_)) | (first | exact Nat.le_refl _ | omega | (simp; done) | (simp; omega)))))).mono ?_
  rintro e w1 ⟨rfl, hb1⟩
  have s1 := hb1.size; try simp only [World.size_alloc, World.size_setCell, World.size_drew, setRow_size] at s1
  have hbw : Below w.heap.size w w1 := by (repeat' (first | (with_reducible exact Below.refl _ _) | (with_reducible assumption) | (with_reducible refine Below.alloc ?_ ?_ _) | (with_reducible refine Below.setCell ?_ ?_ _) | (with_reducible refine below_row ?_ ?_ _) | (with_reducible refine Below.drew ?_) | (with_reducible refine below_drewN ?_ _) | (with_reducible refine Below.trans ?_ (Below.mono (by assumption) ?_)) | (first | exact Nat.le_refl _ | omega | (simp; done) | (simp; omega))))
  have HR := Lib.hid ((Lies.new (u := w) (t := 31) (cs := #[.int .i64 0, .int .i64 0]) rfl).after hb1)
  go_wp2_with fail
  go_loopw [25] (fun i wr => ∃ (k : Nat) (lo hi : Int), k ≤ ds.length ∧ i = .int .i64 k ∧ Hid (meetS lo hi (ds.drop k) = meetS 0 1000000000 ds) ∧ Lies wr w1.heap.size 31 #[.int .i64 lo, .int .i64 hi] ∧ Lies wr w.heap.size 31 #[.int .i64 0, .int .i64 0] ∧ Below w.heap.size w wr) (fun i _ => ds.length - (intOf i).toNat)
  case atStart => exact ⟨0, 0, 1000000000, by omega, rfl, Lib.hid rfl, Lies.made _ _ _, HR.out.alloc _, hbw.alloc (by omega) _⟩
  case round =>
    obtain ⟨k, lo, hi, hk, rfl, hm, hL, hZ, hbr⟩ := hrel
    have HL := Lib.hid hL
    have HZ := Lib.hid hZ
    have zL := hL.lt
    have zZ := hZ.lt
    have zr := hbr.size
    obtain ⟨l0, l1, m0, m1⟩ := hL.c2
    obtain ⟨r0, r1, f0, f1⟩ := hZ.c2
    clear hL hZ
    by_cases hlt : k < ds.length
    · obtain ⟨q0, q1, q2⟩ := HCC.out k hlt
      have hbl : b < w.heap.size := World.block_lt_of_cell? w _ q0
      have p0 := (hbr.cell (p := ⟨b, off + k * 3, none⟩) hbl).trans q0
      have p1 := (hbr.cell (p := ⟨b, off + k * 3 + 1, none⟩) hbl).trans q1
      have p2 := (hbr.cell (p := ⟨b, off + k * 3 + 2, none⟩) hbl).trans q2
      have hdrop : ds.drop k = ds[k] :: ds.drop (k + 1) := List.drop_eq_getElem_cons hlt
      have HM := Lib.hid (show meetS (if lo < ds[k].2.1 then ds[k].2.1 else lo) (if ds[k].2.2 < hi then ds[k].2.2 else hi) (ds.drop (k + 1)) = meetS 0 1000000000 ds by
        have := hm.out
        rw [hdrop] at this
        exact this)
      clear q0 q1 q2 hdrop hm r0 r1 f0 f1
      generalize ds[k] = d at *
      obtain ⟨dn, dl, du⟩ := d
      simp only at p0 p1 p2 HM
      by_cases x : lo < dl <;> by_cases y : du < hi
      all_goals
        first | rw [if_pos x] at HM | rw [if_neg x] at HM
        first | rw [if_pos y] at HM | rw [if_neg y] at HM
        go_wp2_with fail
        go_region
        go_wp2_with fail
        go_roundw
        case rel =>
          refine ⟨k + 1, _, _, by omega, by go_num, HM, (((HL.out.store 0 _).store 1 _).alloc _).drew, (((HZ.out.other (p := ⟨w1.heap.size, 0, none⟩) (by simp only; omega) _).other (p := ⟨w1.heap.size, 1, none⟩) (by simp only; omega) _).alloc _).drew, ?_⟩
          (repeat' (first | (with_reducible exact Below.refl _ _) | (with_reducible assumption) | (with_reducible refine Below.alloc ?_ ?_ _) | (with_reducible refine Below.setCell ?_ ?_ _) | (with_reducible refine below_row ?_ ?_ _) | (with_reducible refine Below.drew ?_) | (with_reducible refine below_drewN ?_ _) | (with_reducible refine Below.trans ?_ (Below.mono (by assumption) ?_)) | (first | exact Nat.le_refl _ | omega | (simp; done) | (simp; omega))))
        case measure => simp [intOf]; omega
    · have hke : k = ds.length := by omega
      subst hke
      have HM := Lib.hid (show (lo, hi) = meetS 0 1000000000 ds by
        have := hm.out
        rw [List.drop_length] at this
        exact this)
      clear hm HR HC HCC
      by_cases x : hi < lo
      · go_wp2_with fail
        refine bodyPost_ret (results_cell_tmp Tryd.results28 _ _ w.heap.size _ _ _ rfl ((HZ.out.store 0 _).store 1 _) Tryd.underlying31 rfl (by kernel_rfl)) rfl ⟨?_, ?_⟩
        · rw [← HM.out]; simp only [if_pos x]; rfl
        · (repeat' (first | (with_reducible exact Below.refl _ _) | (with_reducible assumption) | (with_reducible refine Below.alloc ?_ ?_ _) | (with_reducible refine Below.setCell ?_ ?_ _) | (with_reducible refine below_row ?_ ?_ _) | (with_reducible refine Below.drew ?_) | (with_reducible refine below_drewN ?_ _) | (with_reducible refine Below.trans ?_ (Below.mono (by assumption) ?_)) | (first | exact Nat.le_refl _ | omega | (simp; done) | (simp; omega))))
      · go_wp2_with fail
        refine bodyPost_ret (results_cell_tmp Tryd.results28 _ _ w.heap.size _ _ _ rfl ((HZ.out.store 0 _).store 1 _) Tryd.underlying31 rfl (by kernel_rfl)) rfl ⟨?_, ?_⟩
        · rw [← HM.out]; simp only [if_neg (Int.not_lt.2 x)]; rfl
        · (repeat' (first | (with_reducible exact Below.refl _ _) | (with_reducible assumption) | (with_reducible refine Below.alloc ?_ ?_ _) | (with_reducible refine Below.setCell ?_ ?_ _) | (with_reducible refine below_row ?_ ?_ _) | (with_reducible refine Below.drew ?_) | (with_reducible refine below_drewN ?_ _) | (with_reducible refine Below.trans ?_ (Below.mono (by assumption) ?_)) | (first | exact Nat.le_refl _ | omega | (simp; done) | (simp; omega))))
end Go.Proofs.YtldjkdomklgmaaaDoor
