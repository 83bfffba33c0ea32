/- SheetTells: the law's body. -/
import Derived.Test.YtdhandkddbgadaaLH
import Derived.Test.YtdhandkddbgadaaLF
import Derived.Deep.DeepCutAuto
import Derived.Deep.RegionLaw
import Derived.Deep.RegionHeld3
namespace Go.Proofs.Ytdhandkddbgadaa
set_option linter.unusedVariables false
set_option linter.unusedSimpArgs false
open Go.RowKit

set_option maxRecDepth 100000 in
set_option maxHeartbeats 16000000 in
theorem tells_great (A : Option Addr) (c b off : Nat) (xs : List Iss) (vi vd : Nat → Value) (d rd rl : Int) (w : World) (hm : xs.length ≤ 9223372036854775807) (hm2 : ∀ x ∈ xs, x.items.length ≤ 9223372036854775807 ∧ x.dims.length ≤ 9223372036854775807) (hA : 0 < xs.length → A = some ⟨b, off, none⟩) (hc : IssRow w b off xs vi vd) (hg : greatB xs = true) :
    Calls Try.prog 3 #[.agg #[.slice A xs.length c], .int .i64 d, .agg #[.int .i64 rd, .int .i64 rl]] w fun e w' => e = .returned (.bool true) ∧ Below w.heap.size w w' := by
  have HG := Lib.hid (fun W (hW : Below w.heap.size w W) => rGreat_any A c b off xs vi vd W hm hm2 hA (hc.after hW))
  rw [hg] at HG
  clear hA hc hm2 hg
  go_enter Try.func3, Try.ntmps3
  go_wp2_with fail
  refine (HG.out _ (by (repeat' (first | (with_reducible exact Below.refl _ _) | (with_reducible assumption) | (with_reducible refine Below.alloc ?_ ?_ _) | (with_reducible refine Below.setCell ?_ ?_ _) | (with_reducible refine below_row ?_ ?_ _) | (with_reducible refine Below.drew ?_) | (with_reducible refine below_drewN ?_ _) | (with_reducible refine Below.trans ?_ (Below.mono (by assumption) ?_)) | (first | exact Nat.le_refl _ | omega | (simp; done) | (simp; omega) | (exact Below.size (by assumption))))))).mono ?_
  rintro e w1 ⟨rfl, hb1⟩
  have s1 := hb1.size; try simp only [World.size_alloc, World.size_setCell, World.size_drew, setRow_size] at s1
  go_wp2
  go_ret
  exact ⟨rfl, by (repeat' (first | (with_reducible exact Below.refl _ _) | (with_reducible assumption) | (with_reducible refine Below.alloc ?_ ?_ _) | (with_reducible refine Below.setCell ?_ ?_ _) | (with_reducible refine below_row ?_ ?_ _) | (with_reducible refine Below.drew ?_) | (with_reducible refine below_drewN ?_ _) | (with_reducible refine Below.trans ?_ (Below.mono (by assumption) ?_)) | (first | exact Nat.le_refl _ | omega | (simp; done) | (simp; omega) | (exact Below.size (by assumption)))))⟩

theorem lies_ne {W : World} {g g' : Nat} {t t' : TypeId} {cs cs' : Array Value} (h : Lies W g t cs) (h' : Lies W g' t' cs') (ht : t ≠ t') : g ≠ g' := by
  rintro rfl
  unfold Lies at h h'
  rw [h] at h'
  injection h' with h'
  injection h' with _ e
  exact ht e
theorem Lies.beside {W : World} {g g' : Nat} {t t' : TypeId} {cs cs' : Array Value} (h : Lies W g t cs) (h' : Lies W g' t' cs') (ht : t ≠ t') (i : Nat) (u : Value) : Lies (W.setCell ⟨g', i, none⟩ u) g t cs :=
  h.other (p := ⟨g', i, none⟩) (lies_ne h h' ht) u
/-- Rooms to write in. -/
def Room (W : World) (B : Nat) (A : Option Addr) (g : Nat) (t : TypeId) (n size : Nat) : Prop := 0 < n → B ≤ g ∧ A = some ⟨g, 0, none⟩ ∧ ∃ cur, Lies W g t cur ∧ n * size ≤ cur.size
theorem Room.after {W W' : World} {B : Nat} {A : Option Addr} {g : Nat} {t : TypeId} {n size : Nat} (h : Room W B A g t n size) (hb : Below W.heap.size W W') : Room W' B A g t n size := fun h0 => by
  obtain ⟨a, b, cur, c, d⟩ := h h0
  exact ⟨a, b, cur, c.after hb, d⟩
theorem Room.beside {W : World} {B : Nat} {A : Option Addr} {g g' : Nat} {t t' : TypeId} {n size : Nat} {cs' : Array Value} (h : Room W B A g t n size) (h' : Lies W g' t' cs') (ht : t ≠ t') (i : Nat) (u : Value) : Room (W.setCell ⟨g', i, none⟩ u) B A g t n size := fun h0 => by
  obtain ⟨a, b, cur, c, d⟩ := h h0
  exact ⟨a, b, cur, c.beside h' ht i u, d⟩
theorem Room.store {W : World} {B : Nat} {A : Option Addr} {g : Nat} {t : TypeId} {n size : Nat} (h : Room W B A g t n size) (i : Nat) (u : Value) : Room (W.setCell ⟨g, i, none⟩ u) B A g t n size := fun h0 => by
  obtain ⟨a, b, cur, c, d⟩ := h h0
  exact ⟨a, b, _, c.store i u, by simpa using d⟩
set_option maxRecDepth 100000 in
set_option maxHeartbeats 16000000 in
theorem tells_small (A : Option Addr) (c b off : Nat) (xs : List Iss) (vi vd : Nat → Value) (d rd rl : Int) (w : World) (hm : xs.length ≤ 9223372036854775807) (hm2 : ∀ x ∈ xs, x.items.length ≤ 9223372036854775807 ∧ x.dims.length ≤ 9223372036854775807) (hA : 0 < xs.length → A = some ⟨b, off, none⟩) (hc : IssRow w b off xs vi vd) (hg : greatB xs = false) :
    Calls Try.prog 3 #[.agg #[.slice A xs.length c], .int .i64 d, .agg #[.int .i64 rd, .int .i64 rl]] w fun e w' => e = .returned (.bool true) ∧ Below w.heap.size w w' := by
  have HG := Lib.hid (fun W (hW : Below w.heap.size w W) => rGreat_any A c b off xs vi vd W hm hm2 hA (hc.after hW))
  rw [hg] at HG
  obtain ⟨hlen, hsml⟩ := great_no hg
  have hr : RegAt w (.slice A xs.length c) xs := ⟨⟨A, c, b, off, rfl, hA, fun i hi => ⟨vi i, vd i, hc i hi⟩⟩, by omega, fun x hx => ⟨by have := (hsml x hx).1; omega, by have := (hsml x hx).2; omega⟩⟩
  have HSML := Lib.hid hsml
  have HRR := Lib.hid hr
  have HTW := Lib.hid (fun W (hW : Below w.heap.size w W) => rTwin_any (hr.after hW))
  have HRC := Lib.hid (fun W (hW : Below w.heap.size w W) => rCheck_any (hr.after hW))
  obtain ⟨Z, hZ⟩ : ∃ Z, (if layE xs = 0 then numbersL xs else []) = Z := ⟨_, rfl⟩
  have hL : Z.length ≤ 1000 := by
    rw [← hZ]
    split
    · have := (layE_ok (by assumption)).2.2.1; omega
    · simp
  have HRD : Hid (∀ W, Below w.heap.size w W → Calls Try.prog 20 #[.agg #[.slice A xs.length c]] W (DrawQ (layE xs) Z W)) := Lib.hid (fun W (hW : Below w.heap.size w W) => by rw [← hZ]; exact rDrawings_any (hr.after hW))
  have HRL := Lib.hid (fun W (hW : Below w.heap.size w W) => rLast_any d (hr.after hW))
  have HRA := Lib.hid (fun W (hW : Below w.heap.size w W) => rAt_any rd rl (hr.after hW))
  have HRP := Lib.hid (fun W (hW : Below w.heap.size w W) => rDepth_any d (hr.after hW))
  have HD0 := Lib.hid ((Lies.made w 24 #[.slice A xs.length c]).alloc (.cells #[.int .i64 rd, .int .i64 rl] 26))
  have HF0 := Lib.hid (Lies.new (u := w.alloc (.cells #[.slice A xs.length c] 24)) (k := w.heap.size + 1) (t := 26) (cs := #[.int .i64 rd, .int .i64 rl]) (by simp))
  clear hA hc hm2 hg hr hsml
  go_enter Try.func3, Try.ntmps3
  go_wp2_with fail
  refine (HG.out _ (by (repeat' (first | (with_reducible exact Below.refl _ _) | (with_reducible assumption) | (with_reducible refine Below.alloc ?_ ?_ _) | (with_reducible refine Below.setCell ?_ ?_ _) | (with_reducible refine below_row ?_ ?_ _) | (with_reducible refine Below.drew ?_) | (with_reducible refine below_drewN ?_ _) | (with_reducible refine Below.trans ?_ (Below.mono (by assumption) ?_)) | (first | exact Nat.le_refl _ | omega | (simp; done) | (simp; omega) | (exact Below.size (by assumption))))))).mono ?_
  rintro e w1 ⟨rfl, hb1⟩
  have s1 := hb1.size; try simp only [World.size_alloc, World.size_setCell, World.size_drew, setRow_size] at s1
  have HD1 := Lib.hid (HD0.out.after hb1)
  have HF1 := Lib.hid (HF0.out.after hb1)
  have d1 := HD1.out.cell 0
  have zd1 := HD1.out.lt
  have hbw1 : Below w.heap.size w w1 := by (repeat' (first | (with_reducible exact Below.refl _ _) | (with_reducible assumption) | (with_reducible refine Below.alloc ?_ ?_ _) | (with_reducible refine Below.setCell ?_ ?_ _) | (with_reducible refine below_row ?_ ?_ _) | (with_reducible refine Below.drew ?_) | (with_reducible refine below_drewN ?_ _) | (with_reducible refine Below.trans ?_ (Below.mono (by assumption) ?_)) | (first | exact Nat.le_refl _ | omega | (simp; done) | (simp; omega) | (exact Below.size (by assumption)))))
  clear hb1 HG HD0 HF0
  go_wp2_with fail
  refine (HTW.out _ (by (repeat' (first | (with_reducible exact Below.refl _ _) | (with_reducible assumption) | (with_reducible refine Below.alloc ?_ ?_ _) | (with_reducible refine Below.setCell ?_ ?_ _) | (with_reducible refine below_row ?_ ?_ _) | (with_reducible refine Below.drew ?_) | (with_reducible refine below_drewN ?_ _) | (with_reducible refine Below.trans ?_ (Below.mono (by assumption) ?_)) | (first | exact Nat.le_refl _ | omega | (simp; done) | (simp; omega) | (exact Below.size (by assumption))))))).mono ?_
  rintro e w2 ⟨v2, rfl, hown, hb2⟩
  have s2 := hb2.size; try simp only [World.size_alloc, World.size_setCell, World.size_drew, setRow_size] at s2
  have HO := Lib.hid (fun W (hW : Below w2.heap.size w2 W) => hown.after hW)
  obtain ⟨A2, c2, rfl⟩ := hown.slice
  have HSC := Lib.hid (fun W (hW : Below w2.heap.size w2 W) => sCheck_any (HO.out W hW))
  have HSD : Hid (∀ W, Below w2.heap.size w2 W → Calls Try.prog 19 #[.agg #[.slice A2 xs.length c2]] W (DrawQ (layE xs) Z W)) := Lib.hid (fun W (hW : Below w2.heap.size w2 W) => by rw [← hZ]; exact sDrawings_any (HO.out W hW))
  clear hZ
  have HSL := Lib.hid (fun W (hW : Below w2.heap.size w2 W) => sLast_any d (HO.out W hW))
  have HSA := Lib.hid (fun W (hW : Below w2.heap.size w2 W) => sAt_any rd rl (HO.out W hW))
  have HSP := Lib.hid (fun W (hW : Below w2.heap.size w2 W) => sDepth_any d (HO.out W hW))
  have HD2 := Lib.hid ((HD1.out.after hb2).alloc (.cells #[.slice A2 xs.length c2] 24))
  have HF2 := Lib.hid ((HF1.out.after hb2).alloc (.cells #[.slice A2 xs.length c2] 24))
  have HT2 := Lib.hid (Lies.made w2 24 #[.slice A2 xs.length c2])
  have hbw2 : Below w.heap.size w w2 := by (repeat' (first | (with_reducible exact Below.refl _ _) | (with_reducible assumption) | (with_reducible refine Below.alloc ?_ ?_ _) | (with_reducible refine Below.setCell ?_ ?_ _) | (with_reducible refine below_row ?_ ?_ _) | (with_reducible refine Below.drew ?_) | (with_reducible refine below_drewN ?_ _) | (with_reducible refine Below.trans ?_ (Below.mono (by assumption) ?_)) | (first | exact Nat.le_refl _ | omega | (simp; done) | (simp; omega) | (exact Below.size (by assumption)))))
  have hs2 := hbw2.size
  clear hb2 HTW HD1 HF1 d1 zd1 hown
  go_wp2_with fail
  refine (HSD.out _ (by (repeat' (first | (with_reducible exact Below.refl _ _) | (with_reducible assumption) | (with_reducible refine Below.alloc ?_ ?_ _) | (with_reducible refine Below.setCell ?_ ?_ _) | (with_reducible refine below_row ?_ ?_ _) | (with_reducible refine Below.drew ?_) | (with_reducible refine below_drewN ?_ _) | (with_reducible refine Below.trans ?_ (Below.mono (by assumption) ?_)) | (first | exact Nat.le_refl _ | omega | (simp; done) | (simp; omega) | (exact Below.size (by assumption))))))).mono ?_
  rintro e w3 ⟨v3, rfl, hi3, hb3⟩
  have s3 := hb3.size; try simp only [World.size_alloc, World.size_setCell, World.size_drew, setRow_size] at s3
  obtain ⟨A3, c3, rfl⟩ := hi3.slice
  have HD3 := Lib.hid (HD2.out.after hb3)
  have HF3 := Lib.hid (HF2.out.after hb3)
  have HT3 := Lib.hid (HT2.out.after hb3)
  have d3 := HD3.out.cell 0
  have t3 := HT3.out.cell 0
  have zd3 := HD3.out.lt
  have zt3 := HT3.out.lt
  have hq3 : Below w2.heap.size w2 w3 := by (repeat' (first | (with_reducible exact Below.refl _ _) | (with_reducible assumption) | (with_reducible refine Below.alloc ?_ ?_ _) | (with_reducible refine Below.setCell ?_ ?_ _) | (with_reducible refine below_row ?_ ?_ _) | (with_reducible refine Below.drew ?_) | (with_reducible refine below_drewN ?_ _) | (with_reducible refine Below.trans ?_ (Below.mono (by assumption) ?_)) | (first | exact Nat.le_refl _ | omega | (simp; done) | (simp; omega) | (exact Below.size (by assumption)))))
  have hbw3 : Below w.heap.size w w3 := by (repeat' (first | (with_reducible exact Below.refl _ _) | (with_reducible assumption) | (with_reducible refine Below.alloc ?_ ?_ _) | (with_reducible refine Below.setCell ?_ ?_ _) | (with_reducible refine below_row ?_ ?_ _) | (with_reducible refine Below.drew ?_) | (with_reducible refine below_drewN ?_ _) | (with_reducible refine Below.trans ?_ (Below.mono (by assumption) ?_)) | (first | exact Nat.le_refl _ | omega | (simp; done) | (simp; omega) | (exact Below.size (by assumption)))))
  have HI3 := Lib.hid (fun W (hW : Below w3.heap.size w3 W) => hi3.after hW)
  clear hi3 hb3 HD2 HF2 HT2 HSD
  go_wp2_with fail
  refine (HRD.out _ (by (repeat' (first | (with_reducible exact Below.refl _ _) | (with_reducible assumption) | (with_reducible refine Below.alloc ?_ ?_ _) | (with_reducible refine Below.setCell ?_ ?_ _) | (with_reducible refine below_row ?_ ?_ _) | (with_reducible refine Below.drew ?_) | (with_reducible refine below_drewN ?_ _) | (with_reducible refine Below.trans ?_ (Below.mono (by assumption) ?_)) | (first | exact Nat.le_refl _ | omega | (simp; done) | (simp; omega) | (exact Below.size (by assumption))))))).mono ?_
  rintro e w4 ⟨v4, rfl, hi4, hb4⟩
  have s4 := hb4.size; try simp only [World.size_alloc, World.size_setCell, World.size_drew, setRow_size] at s4
  have HSI := Lib.hid (fun W (hW : Below w4.heap.size w4 W) => rSameInts_v ((HI3.out w4 (by (repeat' (first | (with_reducible exact Below.refl _ _) | (with_reducible assumption) | (with_reducible refine Below.alloc ?_ ?_ _) | (with_reducible refine Below.setCell ?_ ?_ _) | (with_reducible refine below_row ?_ ?_ _) | (with_reducible refine Below.drew ?_) | (with_reducible refine below_drewN ?_ _) | (with_reducible refine Below.trans ?_ (Below.mono (by assumption) ?_)) | (first | exact Nat.le_refl _ | omega | (simp; done) | (simp; omega) | (exact Below.size (by assumption))))))).after hW) (hi4.after hW) hL hL)
  obtain ⟨A4, c4, rfl⟩ := hi4.slice
  rw [decide_eq_true rfl] at HSI
  have HD4 := Lib.hid (HD3.out.after hb4)
  have HF4 := Lib.hid (HF3.out.after hb4)
  have HT4 := Lib.hid (HT3.out.after hb4)
  have d4 := HD4.out.cell 0
  have t4 := HT4.out.cell 0
  have zd4 := HD4.out.lt
  have zt4 := HT4.out.lt
  have hq4 : Below w2.heap.size w2 w4 := by (repeat' (first | (with_reducible exact Below.refl _ _) | (with_reducible assumption) | (with_reducible refine Below.alloc ?_ ?_ _) | (with_reducible refine Below.setCell ?_ ?_ _) | (with_reducible refine below_row ?_ ?_ _) | (with_reducible refine Below.drew ?_) | (with_reducible refine below_drewN ?_ _) | (with_reducible refine Below.trans ?_ (Below.mono (by assumption) ?_)) | (first | exact Nat.le_refl _ | omega | (simp; done) | (simp; omega) | (exact Below.size (by assumption)))))
  have hbw4 : Below w.heap.size w w4 := by (repeat' (first | (with_reducible exact Below.refl _ _) | (with_reducible assumption) | (with_reducible refine Below.alloc ?_ ?_ _) | (with_reducible refine Below.setCell ?_ ?_ _) | (with_reducible refine below_row ?_ ?_ _) | (with_reducible refine Below.drew ?_) | (with_reducible refine below_drewN ?_ _) | (with_reducible refine Below.trans ?_ (Below.mono (by assumption) ?_)) | (first | exact Nat.le_refl _ | omega | (simp; done) | (simp; omega) | (exact Below.size (by assumption)))))
  clear hi4 hb4 HD3 HF3 HT3 HRD HI3 d3 t3 zd3 zt3 hL hq3 hbw3
  generalize Z.length = nn at *
  go_wp2_with fail
  refine (HSL.out _ (by (repeat' (first | (with_reducible exact Below.refl _ _) | (with_reducible assumption) | (with_reducible refine Below.alloc ?_ ?_ _) | (with_reducible refine Below.setCell ?_ ?_ _) | (with_reducible refine below_row ?_ ?_ _) | (with_reducible refine Below.drew ?_) | (with_reducible refine below_drewN ?_ _) | (with_reducible refine Below.trans ?_ (Below.mono (by assumption) ?_)) | (first | exact Nat.le_refl _ | omega | (simp; done) | (simp; omega) | (exact Below.size (by assumption))))))).mono ?_
  rintro e w5 ⟨rfl, hb5⟩
  have s5 := hb5.size; try simp only [World.size_alloc, World.size_setCell, World.size_drew, setRow_size] at s5
  have HD5 := Lib.hid (HD4.out.after hb5)
  have HF5 := Lib.hid (HF4.out.after hb5)
  have HT5 := Lib.hid (HT4.out.after hb5)
  have d5 := HD5.out.cell 0
  have t5 := HT5.out.cell 0
  have zd5 := HD5.out.lt
  have zt5 := HT5.out.lt
  have hs45 : Below w4.heap.size w4 w5 := by (repeat' (first | (with_reducible exact Below.refl _ _) | (with_reducible assumption) | (with_reducible refine Below.alloc ?_ ?_ _) | (with_reducible refine Below.setCell ?_ ?_ _) | (with_reducible refine below_row ?_ ?_ _) | (with_reducible refine Below.drew ?_) | (with_reducible refine below_drewN ?_ _) | (with_reducible refine Below.trans ?_ (Below.mono (by assumption) ?_)) | (first | exact Nat.le_refl _ | omega | (simp; done) | (simp; omega) | (exact Below.size (by assumption)))))
  have hq5 : Below w2.heap.size w2 w5 := by (repeat' (first | (with_reducible exact Below.refl _ _) | (with_reducible assumption) | (with_reducible refine Below.alloc ?_ ?_ _) | (with_reducible refine Below.setCell ?_ ?_ _) | (with_reducible refine below_row ?_ ?_ _) | (with_reducible refine Below.drew ?_) | (with_reducible refine below_drewN ?_ _) | (with_reducible refine Below.trans ?_ (Below.mono (by assumption) ?_)) | (first | exact Nat.le_refl _ | omega | (simp; done) | (simp; omega) | (exact Below.size (by assumption)))))
  have hbw5 : Below w.heap.size w w5 := by (repeat' (first | (with_reducible exact Below.refl _ _) | (with_reducible assumption) | (with_reducible refine Below.alloc ?_ ?_ _) | (with_reducible refine Below.setCell ?_ ?_ _) | (with_reducible refine below_row ?_ ?_ _) | (with_reducible refine Below.drew ?_) | (with_reducible refine below_drewN ?_ _) | (with_reducible refine Below.trans ?_ (Below.mono (by assumption) ?_)) | (first | exact Nat.le_refl _ | omega | (simp; done) | (simp; omega) | (exact Below.size (by assumption)))))
  clear hb5 HSL d4 t4 zd4 zt4
  go_wp2_with fail
  refine (HRL.out _ (by (repeat' (first | (with_reducible exact Below.refl _ _) | (with_reducible assumption) | (with_reducible refine Below.alloc ?_ ?_ _) | (with_reducible refine Below.setCell ?_ ?_ _) | (with_reducible refine below_row ?_ ?_ _) | (with_reducible refine Below.drew ?_) | (with_reducible refine below_drewN ?_ _) | (with_reducible refine Below.trans ?_ (Below.mono (by assumption) ?_)) | (first | exact Nat.le_refl _ | omega | (simp; done) | (simp; omega) | (exact Below.size (by assumption))))))).mono ?_
  rintro e w6 ⟨rfl, hb6⟩
  have s6 := hb6.size; try simp only [World.size_alloc, World.size_setCell, World.size_drew, setRow_size] at s6
  have HD6 := Lib.hid (HD5.out.after hb6)
  have HF6 := Lib.hid (HF5.out.after hb6)
  have HT6 := Lib.hid (HT5.out.after hb6)
  have d6 := HD6.out.cell 0
  have t6 := HT6.out.cell 0
  have zd6 := HD6.out.lt
  have zt6 := HT6.out.lt
  have hs6 : Below w4.heap.size w4 w6 := by (repeat' (first | (with_reducible exact Below.refl _ _) | (with_reducible assumption) | (with_reducible refine Below.alloc ?_ ?_ _) | (with_reducible refine Below.setCell ?_ ?_ _) | (with_reducible refine below_row ?_ ?_ _) | (with_reducible refine Below.drew ?_) | (with_reducible refine below_drewN ?_ _) | (with_reducible refine Below.trans ?_ (Below.mono (by assumption) ?_)) | (first | exact Nat.le_refl _ | omega | (simp; done) | (simp; omega) | (exact Below.size (by assumption)))))
  have hq6 : Below w2.heap.size w2 w6 := by (repeat' (first | (with_reducible exact Below.refl _ _) | (with_reducible assumption) | (with_reducible refine Below.alloc ?_ ?_ _) | (with_reducible refine Below.setCell ?_ ?_ _) | (with_reducible refine below_row ?_ ?_ _) | (with_reducible refine Below.drew ?_) | (with_reducible refine below_drewN ?_ _) | (with_reducible refine Below.trans ?_ (Below.mono (by assumption) ?_)) | (first | exact Nat.le_refl _ | omega | (simp; done) | (simp; omega) | (exact Below.size (by assumption)))))
  have hbw6 : Below w.heap.size w w6 := by (repeat' (first | (with_reducible exact Below.refl _ _) | (with_reducible assumption) | (with_reducible refine Below.alloc ?_ ?_ _) | (with_reducible refine Below.setCell ?_ ?_ _) | (with_reducible refine below_row ?_ ?_ _) | (with_reducible refine Below.drew ?_) | (with_reducible refine below_drewN ?_ _) | (with_reducible refine Below.trans ?_ (Below.mono (by assumption) ?_)) | (first | exact Nat.le_refl _ | omega | (simp; done) | (simp; omega) | (exact Below.size (by assumption)))))
  clear hb6 HRL d5 t5 zd5 zt5 hs45 hq5 hbw5 hq4 hbw4 HD4 HF4 HT4 HD5 HF5 HT5
  have q1 : ((lastE xs d).1 != (lastE xs d).1) = false := by simp
  have q2 : ((lastE xs d).2 != (lastE xs d).2) = false := by simp
  have q3 : (layE xs != layE xs) = false := by simp
  generalize (lastE xs d).1 = l1 at *
  generalize (lastE xs d).2 = l2 at *
  generalize layE xs = le at *
  go_upto_region 8 with fail
  go_cut [72] (fun s72 wx => s72 = .bool false ∧ Hid (Lies wx w.heap.size 24 #[.slice A xs.length c]) ∧ Hid (Lies wx (w.heap.size + 1) 26 #[.int .i64 rd, .int .i64 rl]) ∧ Hid (Lies wx w2.heap.size 24 #[.slice A2 xs.length c2]) ∧ Below w2.heap.size w2 wx ∧ Below w.heap.size w wx)
  case first =>
    have n1 : ¬ w2.heap.size = w.heap.size := by have := hbw6.size; have := HT6.out.lt; omega
    have n2 : ¬ w.heap.size = w2.heap.size := by omega
    go_region_held3 (fun W => W.cell? ⟨w.heap.size, 0, none⟩ = some (.slice A xs.length c) ∧ W.cell? ⟨w2.heap.size, 0, none⟩ = some (.slice A2 xs.length c2)) (go_keep) (first
      | (go_at_call 23; refine (HSC.out _ (by (repeat' (first | (with_reducible exact Below.refl _ _) | (with_reducible assumption) | (with_reducible refine Below.alloc ?_ ?_ _) | (with_reducible refine Below.setCell ?_ ?_ _) | (with_reducible refine below_row ?_ ?_ _) | (with_reducible refine Below.drew ?_) | (with_reducible refine below_drewN ?_ _) | (with_reducible refine Below.trans ?_ (Below.mono (by assumption) ?_)) | (first | exact Nat.le_refl _ | omega | (simp; done) | (simp; omega) | (exact Below.size (by assumption))))))).mono ?_; rintro e w7 ⟨rfl, hb7⟩; have hs7 : Below w4.heap.size w4 w7 := (hs6.drew).trans (hb7.mono (hs6.drew).size); have HD7 := Lib.hid (HD6.out.drew.after hb7); have HF7 := Lib.hid (HF6.out.drew.after hb7); have HT7 := Lib.hid (HT6.out.drew.after hb7); have d7 := HD7.out.cell 0; have t7 := HT7.out.cell 0; have zd7 := HD7.out.lt; have zt7 := HT7.out.lt; have hq7 : Below w2.heap.size w2 w7 := (hq6.drew).trans (hb7.mono (hq6.drew).size); have hbw7 : Below w.heap.size w w7 := (hbw6.drew).trans (hb7.mono (hbw6.drew).size); clear hb7)
      | (go_at_call 24; refine (HRC.out _ (by (repeat' (first | (with_reducible exact Below.refl _ _) | (with_reducible assumption) | (with_reducible refine Below.alloc ?_ ?_ _) | (with_reducible refine Below.setCell ?_ ?_ _) | (with_reducible refine below_row ?_ ?_ _) | (with_reducible refine Below.drew ?_) | (with_reducible refine below_drewN ?_ _) | (with_reducible refine Below.trans ?_ (Below.mono (by assumption) ?_)) | (first | exact Nat.le_refl _ | omega | (simp; done) | (simp; omega) | (exact Below.size (by assumption))))))).mono ?_; rintro e w8 ⟨rfl, hb8⟩; have hs8 : Below w4.heap.size w4 w8 := (hs7).trans (hb8.mono (hs7).size); have HD8 := Lib.hid (HD7.out.after hb8); have HF8 := Lib.hid (HF7.out.after hb8); have HT8 := Lib.hid (HT7.out.after hb8); have d8 := HD8.out.cell 0; have t8 := HT8.out.cell 0; have zd8 := HD8.out.lt; have zt8 := HT8.out.lt; have hq8 : Below w2.heap.size w2 w8 := (hq7).trans (hb8.mono (hq7).size); have hbw8 : Below w.heap.size w w8 := (hbw7).trans (hb8.mono (hbw7).size); clear hb8)
      | (go_at_call 25; refine (HSI.out _ (by (repeat' (first | (with_reducible exact Below.refl _ _) | (with_reducible assumption) | (with_reducible refine Below.alloc ?_ ?_ _) | (with_reducible refine Below.setCell ?_ ?_ _) | (with_reducible refine below_row ?_ ?_ _) | (with_reducible refine Below.drew ?_) | (with_reducible refine below_drewN ?_ _) | (with_reducible refine Below.trans ?_ (Below.mono (by assumption) ?_)) | (first | exact Nat.le_refl _ | omega | (simp; done) | (simp; omega) | (exact Below.size (by assumption))))))).mono ?_; rintro e w9 ⟨rfl, hb9⟩; have HD9 := Lib.hid (HD8.out.after hb9); have HF9 := Lib.hid (HF8.out.after hb9); have HT9 := Lib.hid (HT8.out.after hb9); have d9 := HD9.out.cell 0; have t9 := HT9.out.cell 0; have zd9 := HD9.out.lt; have zt9 := HT9.out.lt; have hq9 : Below w2.heap.size w2 w9 := (hq8).trans (hb9.mono (hq8).size); have hbw9 : Below w.heap.size w w9 := (hbw8).trans (hb9.mono (hbw8).size); clear hb9))
    all_goals (go_wp2_with fail; go_meet; exact ⟨rfl, HD9, HF9, HT9, hq9, hbw9⟩)
  case rest =>
    obtain ⟨rfl, HD9, HF9, HT9, hq9, hbw9⟩ := hcut
    have d9 := HD9.out.cell 0
    have t9 := HT9.out.cell 0
    have f90 := HF9.out.cell 0
    have f91 := HF9.out.cell 1
    have zd9 := HD9.out.lt
    have zf9 := HF9.out.lt
    have zt9 := HT9.out.lt
    clear HD6 HF6 HT6 d6 t6 zd6 zt6 hs6 hq6 hbw6 HSC HRC HSI
    go_wp2_with fail
    refine (HSA.out _ (by (repeat' (first | (with_reducible exact Below.refl _ _) | (with_reducible assumption) | (with_reducible refine Below.alloc ?_ ?_ _) | (with_reducible refine Below.setCell ?_ ?_ _) | (with_reducible refine below_row ?_ ?_ _) | (with_reducible refine Below.drew ?_) | (with_reducible refine below_drewN ?_ _) | (with_reducible refine Below.trans ?_ (Below.mono (by assumption) ?_)) | (first | exact Nat.le_refl _ | omega | (simp; done) | (simp; omega) | (exact Below.size (by assumption))))))).mono ?_
    rintro e w10 h10
    obtain ⟨y, x, ee, rfl, hy, haq, hb10⟩ := at_yat h10 w2.heap.size (by have := hq9.size; first | omega | (simp; omega))
    clear h10
    have s10 := hb10.size; try simp only [World.size_alloc, World.size_setCell, World.size_drew, setRow_size] at s10
    have HD10 := Lib.hid (HD9.out.after hb10)
    have HF10 := Lib.hid (HF9.out.after hb10)
    have HT10 := Lib.hid (HT9.out.after hb10)
    have d10 := HD10.out.cell 0
    have f100 := HF10.out.cell 0
    have f101 := HF10.out.cell 1
    have zd10 := HD10.out.lt
    have zf10 := HF10.out.lt
    have zt10 := HT10.out.lt
    have hq10 : Below w2.heap.size w2 w10 := by (repeat' (first | (with_reducible exact Below.refl _ _) | (with_reducible assumption) | (with_reducible refine Below.alloc ?_ ?_ _) | (with_reducible refine Below.setCell ?_ ?_ _) | (with_reducible refine below_row ?_ ?_ _) | (with_reducible refine Below.drew ?_) | (with_reducible refine below_drewN ?_ _) | (with_reducible refine Below.trans ?_ (Below.mono (by assumption) ?_)) | (first | exact Nat.le_refl _ | omega | (simp; done) | (simp; omega) | (exact Below.size (by assumption)))))
    have hbw10 : Below w.heap.size w w10 := by (repeat' (first | (with_reducible exact Below.refl _ _) | (with_reducible assumption) | (with_reducible refine Below.alloc ?_ ?_ _) | (with_reducible refine Below.setCell ?_ ?_ _) | (with_reducible refine below_row ?_ ?_ _) | (with_reducible refine Below.drew ?_) | (with_reducible refine below_drewN ?_ _) | (with_reducible refine Below.trans ?_ (Below.mono (by assumption) ?_)) | (first | exact Nat.le_refl _ | omega | (simp; done) | (simp; omega) | (exact Below.size (by assumption)))))
    have HAQ := Lib.hid haq
    have hsx := haq.small (n := 16) (fun x hx => ⟨(HSML.out x hx).1, by have := (HSML.out x hx).2; omega⟩)
    obtain ⟨A3', c3', g3, A4', c4', g4, rfl, hyi, hyd, hr3, hr4⟩ := hy
    have HYI := Lib.hid (fun W (hW : Below w10.heap.size w10 W) => hyi.after hW)
    have HYD := Lib.hid (fun W (hW : Below w10.heap.size w10 W) => hyd.after hW)
    have HR3 := Lib.hid hr3
    have HR4 := Lib.hid hr4
    clear hb10 haq hyi hyd hr3 hr4 d9 t9 f90 f91 zd9 zf9 zt9 HD9 HF9 HT9 HSA
    go_wp2_with fail
    refine (HRA.out _ (by (repeat' (first | (with_reducible exact Below.refl _ _) | (with_reducible assumption) | (with_reducible refine Below.alloc ?_ ?_ _) | (with_reducible refine Below.setCell ?_ ?_ _) | (with_reducible refine below_row ?_ ?_ _) | (with_reducible refine Below.drew ?_) | (with_reducible refine below_drewN ?_ _) | (with_reducible refine Below.trans ?_ (Below.mono (by assumption) ?_)) | (first | exact Nat.le_refl _ | omega | (simp; done) | (simp; omega) | (exact Below.size (by assumption))))))).mono ?_
    rintro e w11 h11
    obtain ⟨z, x', ee', rfl, hz, haq, hb11⟩ := at_yat h11 0 (Nat.zero_le _)
    clear h11
    obtain ⟨rfl, rfl⟩ := HAQ.out.one haq
    clear haq HAQ
    have s11 := hb11.size; try simp only [World.size_alloc, World.size_setCell, World.size_drew, setRow_size] at s11
    have HD11 := Lib.hid ((HD10.out.alloc _).after hb11)
    have HF11 := Lib.hid ((HF10.out.alloc _).after hb11)
    have HT11 := Lib.hid ((HT10.out.alloc _).after hb11)
    have HYB := Lib.hid ((Lies.made w10 45 #[.int .i64 x'.d, .int .i64 x'.l, .int .u8 x'.k, .slice A3' x'.items.length c3', .slice A4' x'.dims.length c4']).after hb11)
    have d11 := HD11.out.cell 0
    have t11 := HT11.out.cell 0
    have zd11 := HD11.out.lt
    have zt11 := HT11.out.lt
    have hs11 : Below w10.heap.size w10 w11 := by (repeat' (first | (with_reducible exact Below.refl _ _) | (with_reducible assumption) | (with_reducible refine Below.alloc ?_ ?_ _) | (with_reducible refine Below.setCell ?_ ?_ _) | (with_reducible refine below_row ?_ ?_ _) | (with_reducible refine Below.drew ?_) | (with_reducible refine below_drewN ?_ _) | (with_reducible refine Below.trans ?_ (Below.mono (by assumption) ?_)) | (first | exact Nat.le_refl _ | omega | (simp; done) | (simp; omega) | (exact Below.size (by assumption)))))
    have hq11 : Below w2.heap.size w2 w11 := hq10.trans (hs11.mono hq10.size)
    have hbw11 : Below w.heap.size w w11 := hbw10.trans (hs11.mono hbw10.size)
    obtain ⟨A5, c5, g5, A6, c6, g6, rfl, hzi, hzd, -, -⟩ := hz
    have HZB := Lib.hid (Lies.made w11 45 #[.int .i64 x'.d, .int .i64 x'.l, .int .u8 x'.k, .slice A5 x'.items.length c5, .slice A6 x'.dims.length c6])
    have HSM := Lib.hid (fun W (hW : Below w11.heap.size w11 W) => rSameIssue_any x' x' (.slice A3' x'.items.length c3') (.slice A4' x'.dims.length c4') (.slice A5 x'.items.length c5) (.slice A6 x'.dims.length c6) W (by omega) (by omega) (by omega) (by omega) ((HYI.out w11 hs11).after hW) (hzi.after hW) ((HYD.out w11 hs11).after hW) (hzd.after hW))
    rw [sameI_iff.2 rfl] at HSM
    clear hb11 hzi hzd HYI HYD HRA d10 f100 f101 zd10 zf10 zt10 HD10 HF10 HT10
    go_wp2_with fail
    refine (HSP.out _ (by (repeat' (first | (with_reducible exact Below.refl _ _) | (with_reducible assumption) | (with_reducible refine Below.alloc ?_ ?_ _) | (with_reducible refine Below.setCell ?_ ?_ _) | (with_reducible refine below_row ?_ ?_ _) | (with_reducible refine Below.drew ?_) | (with_reducible refine below_drewN ?_ _) | (with_reducible refine Below.trans ?_ (Below.mono (by assumption) ?_)) | (first | exact Nat.le_refl _ | omega | (simp; done) | (simp; omega) | (exact Below.size (by assumption))))))).mono ?_
    rintro e w12 ⟨rfl, hb12⟩
    have s12 := hb12.size; try simp only [World.size_alloc, World.size_setCell, World.size_drew, setRow_size] at s12
    have HD12 := Lib.hid ((HD11.out.alloc _).after hb12)
    have HT12 := Lib.hid ((HT11.out.alloc _).after hb12)
    have HYB12 := Lib.hid ((HYB.out.alloc _).after hb12)
    have HZB12 := Lib.hid (HZB.out.after hb12)
    have d12 := HD12.out.cell 0
    have zd12 := HD12.out.lt
    have hs12 : Below w11.heap.size w11 w12 := by (repeat' (first | (with_reducible exact Below.refl _ _) | (with_reducible assumption) | (with_reducible refine Below.alloc ?_ ?_ _) | (with_reducible refine Below.setCell ?_ ?_ _) | (with_reducible refine below_row ?_ ?_ _) | (with_reducible refine Below.drew ?_) | (with_reducible refine below_drewN ?_ _) | (with_reducible refine Below.trans ?_ (Below.mono (by assumption) ?_)) | (first | exact Nat.le_refl _ | omega | (simp; done) | (simp; omega) | (exact Below.size (by assumption)))))
    have hq12 : Below w2.heap.size w2 w12 := hq11.trans (hs12.mono hq11.size)
    have hbw12 : Below w.heap.size w w12 := hbw11.trans (hs12.mono hbw11.size)
    clear hb12 HD11 HF11 HT11 HYB HZB d11 t11 zd11 zt11 HSP
    go_wp2_with fail
    refine (HRP.out _ (by (repeat' (first | (with_reducible exact Below.refl _ _) | (with_reducible assumption) | (with_reducible refine Below.alloc ?_ ?_ _) | (with_reducible refine Below.setCell ?_ ?_ _) | (with_reducible refine below_row ?_ ?_ _) | (with_reducible refine Below.drew ?_) | (with_reducible refine below_drewN ?_ _) | (with_reducible refine Below.trans ?_ (Below.mono (by assumption) ?_)) | (first | exact Nat.le_refl _ | omega | (simp; done) | (simp; omega) | (exact Below.size (by assumption))))))).mono ?_
    rintro e w13 ⟨rfl, hb13⟩
    have s13 := hb13.size; try simp only [World.size_alloc, World.size_setCell, World.size_drew, setRow_size] at s13
    have HD13 := Lib.hid (HD12.out.after hb13)
    have HT13 := Lib.hid (HT12.out.after hb13)
    have HYB13 := Lib.hid (HYB12.out.after hb13)
    have HZB13 := Lib.hid (HZB12.out.after hb13)
    have y0 := HYB13.out.cell 0
    have y1 := HYB13.out.cell 1
    have y2 := HYB13.out.cell 2
    have y3 := HYB13.out.cell 3
    have y4 := HYB13.out.cell 4
    have z0 := HZB13.out.cell 0
    have z1 := HZB13.out.cell 1
    have z2 := HZB13.out.cell 2
    have z3 := HZB13.out.cell 3
    have z4 := HZB13.out.cell 4
    have zy := HYB13.out.lt
    have zz := HZB13.out.lt
    have hs13 : Below w11.heap.size w11 w13 := hs12.trans (hb13.mono hs12.size)
    have hq13 : Below w2.heap.size w2 w13 := hq12.trans (hb13.mono hq12.size)
    have hbw13 : Below w.heap.size w w13 := hbw12.trans (hb13.mono hbw12.size)
    have k1 : ((depthE xs d).1 == (depthE xs d).1) = true := by simp
    have k2 : ((depthE xs d).2 == (depthE xs d).2) = true := by simp
    have k3 : (ee' == ee') = true := by simp
    generalize (depthE xs d).1 = p1 at *
    generalize (depthE xs d).2 = p2 at *
    clear hb13 HD12 HT12 HYB12 HZB12 d12 zd12 HRP
    go_wp2_with fail
    refine (HSM.out _ (by (repeat' (first | (with_reducible exact Below.refl _ _) | (with_reducible assumption) | (with_reducible refine Below.alloc ?_ ?_ _) | (with_reducible refine Below.setCell ?_ ?_ _) | (with_reducible refine below_row ?_ ?_ _) | (with_reducible refine Below.drew ?_) | (with_reducible refine below_drewN ?_ _) | (with_reducible refine Below.trans ?_ (Below.mono (by assumption) ?_)) | (first | exact Nat.le_refl _ | omega | (simp; done) | (simp; omega) | (exact Below.size (by assumption))))))).mono ?_
    rintro e w14 ⟨rfl, hb14⟩
    have s14 := hb14.size; try simp only [World.size_alloc, World.size_setCell, World.size_drew, setRow_size] at s14
    have HD14 := Lib.hid (HD13.out.after hb14)
    have HT14 := Lib.hid (HT13.out.after hb14)
    have HYB14 := Lib.hid (HYB13.out.after hb14)
    have hs14 : Below w11.heap.size w11 w14 := hs13.trans (hb14.mono hs13.size)
    have hw14 : Below w10.heap.size w10 w14 := hs11.trans (hs14.mono hs11.size)
    have hq14 : Below w2.heap.size w2 w14 := hq13.trans (hb14.mono hq13.size)
    have hbw14 : Below w.heap.size w w14 := hbw13.trans (hb14.mono hbw13.size)
    have e3 := HYB14.out.cell 3
    have e4 := HYB14.out.cell 4
    have ze := HYB14.out.lt
    clear hb14 HD13 HT13 HYB13 HZB13 HSM y0 y1 y2 y3 y4 z0 z1 z2 z3 z4 zy zz
    go_wp2_with fail
    have HRM3 := Lib.hid (Room.after (n := x'.items.length) (size := 2) HR3.out hw14)
    have HRM4 := Lib.hid (Room.after (n := x'.dims.length) (size := 3) HR4.out hw14)
    go_loopw [118] (fun i wr => ∃ j : Nat, j ≤ x'.items.length ∧ i = .int .i64 j ∧ Hid (Lies wr w10.heap.size 45 #[.int .i64 x'.d, .int .i64 x'.l, .int .u8 x'.k, .slice A3' x'.items.length c3', .slice A4' x'.dims.length c4']) ∧ Hid (Room wr w2.heap.size A3' g3 52 x'.items.length 2) ∧ Hid (Room wr w2.heap.size A4' g4 54 x'.dims.length 3) ∧ Hid (Lies wr w.heap.size 24 #[.slice A xs.length c]) ∧ Hid (Lies wr w2.heap.size 24 #[.slice A2 xs.length c2]) ∧ Below w2.heap.size w2 wr ∧ Below w.heap.size w wr) (fun i _ => x'.items.length - (intOf i).toNat)
    case atStart => exact ⟨0, by omega, rfl, HYB14, HRM3, HRM4, HD14, HT14, hq14, hbw14⟩
    case round =>
      obtain ⟨j, hj, rfl, YB7, R37, R47, D7, T7, q7, bw7⟩ := hrel
      have e3 := YB7.out.cell 3
      have zy := YB7.out.lt
      have d0 := D7.out.cell 0
      have t0 := T7.out.cell 0
      have zd := D7.out.lt
      have zt := T7.out.lt
      by_cases hlt : j < x'.items.length
      · obtain ⟨hgB, hAe, cur, hcl, hcs⟩ := R37.out (by omega)
        have HAE := Lib.hid hAe
        have hjs : j * 2 + 1 < cur.size := by omega
        have c1 := hcl.cell (j * 2 + 1)
        rw [Array.getElem?_eq_getElem hjs] at c1
        have f1 := hcl.free (j * 2 + 1)
        have kl1 : (j : Int) < (x'.items.length : Int) := by omega
        obtain rfl := hAe
        generalize cur[j * 2 + 1] = cv at *
        go_wp2_with fail
        go_roundw
        case rel =>
          exact ⟨j + 1, by omega, by go_num, Lib.hid (YB7.out.beside hcl (by decide) _ _), Lib.hid (R37.out.store _ _), Lib.hid (R47.out.beside hcl (by decide) _ _), Lib.hid (D7.out.beside hcl (by decide) _ _), Lib.hid (T7.out.beside hcl (by decide) _ _), q7.setCell (p := ⟨g3, j * 2 + 1, none⟩) hgB _, bw7.setCell (p := ⟨g3, j * 2 + 1, none⟩) (by show w.heap.size ≤ g3; have := hbw2.size; omega) _⟩
        case measure => simp [intOf]; omega
      · have hje : j = x'.items.length := by omega
        subst hje
        have e4 := YB7.out.cell 4
        go_wp2_with fail
        go_loopw [130] (fun i wr => ∃ j : Nat, j ≤ x'.dims.length ∧ i = .int .i64 j ∧ Hid (Lies wr w10.heap.size 45 #[.int .i64 x'.d, .int .i64 x'.l, .int .u8 x'.k, .slice A3' x'.items.length c3', .slice A4' x'.dims.length c4']) ∧ Hid (Room wr w2.heap.size A3' g3 52 x'.items.length 2) ∧ Hid (Room wr w2.heap.size A4' g4 54 x'.dims.length 3) ∧ Hid (Lies wr w.heap.size 24 #[.slice A xs.length c]) ∧ Hid (Lies wr w2.heap.size 24 #[.slice A2 xs.length c2]) ∧ Below w2.heap.size w2 wr ∧ Below w.heap.size w wr) (fun i _ => x'.dims.length - (intOf i).toNat)
        case atStart => exact ⟨0, by omega, rfl, YB7, R37, R47, D7, T7, q7, bw7⟩
        case round =>
          obtain ⟨j, hj, rfl, YB8, R38, R48, D8, T8, q8, bw8⟩ := hrel
          have e4 := YB8.out.cell 4
          have zy := YB8.out.lt
          have d0 := D8.out.cell 0
          have t0 := T8.out.cell 0
          have zd := D8.out.lt
          have zt := T8.out.lt
          by_cases hlt : j < x'.dims.length
          · obtain ⟨hgB, hAe, cur, hcl, hcs⟩ := R48.out (by omega)
            have HAE := Lib.hid hAe
            have hjs : j * 3 + 1 < cur.size := by omega
            have c1 := hcl.cell (j * 3 + 1)
            rw [Array.getElem?_eq_getElem hjs] at c1
            have f1 := hcl.free (j * 3 + 1)
            have kl1 : (j : Int) < (x'.dims.length : Int) := by omega
            obtain rfl := hAe
            generalize cur[j * 3 + 1] = cv at *
            go_wp2_with fail
            go_roundw
            case rel =>
              exact ⟨j + 1, by omega, by go_num, Lib.hid (YB8.out.beside hcl (by decide) _ _), Lib.hid (R38.out.beside hcl (by decide) _ _), Lib.hid (R48.out.store _ _), Lib.hid (D8.out.beside hcl (by decide) _ _), Lib.hid (T8.out.beside hcl (by decide) _ _), q8.setCell (p := ⟨g4, j * 3 + 1, none⟩) hgB _, bw8.setCell (p := ⟨g4, j * 3 + 1, none⟩) (by show w.heap.size ≤ g4; have := hbw2.size; omega) _⟩
            case measure => simp [intOf]; omega
          · have hje : j = x'.dims.length := by omega
            subst hje
            have HSS := Lib.hid (rSame_v (HO.out wr q8) (HRR.out.after bw8))
            rw [decide_eq_true rfl] at HSS
            go_wp2_with fail
            refine HSS.out.mono ?_
            rintro e w20 ⟨rfl, hb20⟩
            have s20 := hb20.size; try simp only [World.size_alloc, World.size_setCell, World.size_drew, setRow_size] at s20
            have hbw20 : Below w.heap.size w w20 := bw8.trans (hb20.mono bw8.size)
            go_wp2
            go_ret
            exact ⟨rfl, hbw20⟩
end Go.Proofs.Ytdhandkddbgadaa
