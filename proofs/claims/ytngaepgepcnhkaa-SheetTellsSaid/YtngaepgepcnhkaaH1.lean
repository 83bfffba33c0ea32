/- The walks of package sheet: within, isNamed, isInOrder. -/
import Derived.Test.YtngaepgepcnhkaaH0
namespace Go.Proofs.Ytngaepgepcnhkaa
set_option linter.unusedVariables false
set_option linter.unusedSimpArgs false
open Go.RowKit

set_option maxHeartbeats 400000 in
theorem swithin_any (lo hi : Int) (b off : Nat) (zs : List Int) (c : Nat) (w : World) (hl : zs.length ≤ 1000) (hc : ∀ i (h : i < zs.length), w.cell? ⟨b, off + i, none⟩ = some (.int .i64 zs[i])) :
    Calls Try.prog 104 #[.agg #[.int .i64 lo, .int .i64 hi], .slice (some ⟨b, off, none⟩) zs.length c] w fun e w' => e = .returned (.bool (allIn lo hi zs)) ∧ Below w.heap.size w w' := by
  have HC := Lib.hid hc; clear hc
  go_enter Try.func104, Try.ntmps104
  go_wp2
  go_loop [9] (fun i => ∃ k : Nat, k ≤ zs.length ∧ i = .int .i64 k ∧ Hid (∀ j (hj : j < k) (h : j < zs.length), lo ≤ zs[j] ∧ zs[j] ≤ hi)) (fun i => zs.length - (intOf i).toNat)
  case atStart => exact ⟨0, by omega, rfl, Lib.hid (fun j hj => by omega)⟩
  case round =>
    obtain ⟨k, hk, rfl, hj⟩ := hrel
    by_cases hlt : k < zs.length
    · have hcell := HC.out k hlt
      have hb : b < w.heap.size := World.block_lt_of_cell? w _ hcell
      generalize hz : zs[k] = z at *
      have Hz := Lib.hid hz; clear hz
      by_cases h1 : z < lo
      · go_wp2
        go_ret
        exact ⟨ret_bool (allIn_no hlt (by rw [Hz.out]; omega)).symm, (Below.refl _ _).alloc (Nat.le_refl _) _⟩
      · by_cases h2 : hi < z
        · go_wp2
          go_ret
          exact ⟨ret_bool (allIn_no hlt (by rw [Hz.out]; omega)).symm, (Below.refl _ _).alloc (Nat.le_refl _) _⟩
        · go_wp2
          go_round
          case rel =>
            refine ⟨k + 1, by omega, by go_num, Lib.hid (fun j hj' h => ?_)⟩
            by_cases e : j = k
            · subst e; rw [Hz.out]; omega
            · exact hj.out j (by omega) h
          case measure => simp [intOf]; omega
    · go_wp2
      go_ret
      exact ⟨ret_bool (allIn_yes fun j h => hj.out j (by omega) h).symm, (Below.refl _ _).alloc (Nat.le_refl _) _⟩

theorem swithin_1 (lo hi x : Int) (b : Nat) (c : Nat) (w : World) (h0 : w.cell? ⟨b, 0, none⟩ = some (.int .i64 x)) :
    Calls Try.prog 104 #[.agg #[.int .i64 lo, .int .i64 hi], .slice (some ⟨b, 0, none⟩) 1 c] w fun e w' => e = .returned (.bool (allIn lo hi [x])) ∧ Below w.heap.size w w' :=
  swithin_any lo hi b 0 [x] c w (by simp) (fun i h => by
    match i, h with
    | 0, _ => simpa using h0)
theorem swithin_2 (lo hi x y : Int) (b : Nat) (c : Nat) (w : World) (h0 : w.cell? ⟨b, 0, none⟩ = some (.int .i64 x)) (h1 : w.cell? ⟨b, 1, none⟩ = some (.int .i64 y)) :
    Calls Try.prog 104 #[.agg #[.int .i64 lo, .int .i64 hi], .slice (some ⟨b, 0, none⟩) 2 c] w fun e w' => e = .returned (.bool (allIn lo hi [x, y])) ∧ Below w.heap.size w w' :=
  swithin_any lo hi b 0 [x, y] c w (by simp) (fun i h => by
    match i, h with
    | 0, _ => simpa using h0
    | 1, _ => simpa using h1)
theorem swithin_3 (lo hi x y z : Int) (b : Nat) (c : Nat) (w : World) (h0 : w.cell? ⟨b, 0, none⟩ = some (.int .i64 x)) (h1 : w.cell? ⟨b, 1, none⟩ = some (.int .i64 y)) (h2 : w.cell? ⟨b, 2, none⟩ = some (.int .i64 z)) :
    Calls Try.prog 104 #[.agg #[.int .i64 lo, .int .i64 hi], .slice (some ⟨b, 0, none⟩) 3 c] w fun e w' => e = .returned (.bool (allIn lo hi [x, y, z])) ∧ Below w.heap.size w w' :=
  swithin_any lo hi b 0 [x, y, z] c w (by simp) (fun i h => by
    match i, h with
    | 0, _ => simpa using h0
    | 1, _ => simpa using h1
    | 2, _ => simpa using h2)


/-- within at one number, with a name for what it says. -/
theorem sone (lo hi x : Int) (r : Bool) (h : inB lo hi x = r) (b : Nat) (c : Nat) (w : World) (h0 : w.cell? ⟨b, 0, none⟩ = some (.int .i64 x)) :
    Calls Try.prog 104 #[.agg #[.int .i64 lo, .int .i64 hi], .slice (some ⟨b, 0, none⟩) 1 c] w fun e w' => e = .returned (.bool r) ∧ Below w.heap.size w w' := by
  rw [← h, ← in1B]; exact swithin_1 lo hi x b c w h0
set_option maxHeartbeats 1000000 in
theorem isNamed_any (cb : Array Value) (d l k : Int) (it : List (Int × Int)) (di : List D3) (vi vd : Value) (w : World) (hk : 0 ≤ k ∧ k ≤ 255) :
    Calls Try.prog 133 #[.agg cb, .agg #[.int .i64 d, .int .i64 l, .int .u8 k, vi, vd]] w fun e w' => e = .returned (.bool (namedB ⟨d, l, k, it, di⟩)) ∧ Below w.heap.size w w' := by
  unfold namedB
  simp only
  have H1 := Lib.hid (sone 1 9999 d _ rfl)
  have H2 := Lib.hid (sone 1 8 l _ rfl)
  have H3 := Lib.hid (sone 1 3 k _ rfl)
  have hk2 : IntKind.i64.wrap k = k := by simp [IntKind.wrap, IntKind.bits, IntKind.signed]; omega
  generalize inB 1 9999 d = p at *
  generalize inB 1 8 l = q at *
  generalize inB 1 3 k = r at *
  cases p <;> cases q
  all_goals
    go_enter Try.func133, Try.ntmps133
    go_wp2_with fail
    refine (H1.out _ _ _ ((Lies.new (by simp)).cell 0)).mono ?_
    rintro e w1 ⟨rfl, hb1⟩
    have s1 := hb1.size; try simp only [World.size_alloc, World.size_setCell, World.size_drew, setRow_size] at s1
    have LX := (Lies.new (u := w.alloc (.cells cb 45)) (t := 45) (cs := #[.int .i64 d, .int .i64 l, .int .u8 k, vi, vd]) rfl).keep (w' := w1) (B := w.heap.size + 2) (Below.trans (by (repeat' (first | (with_reducible exact Below.refl _ _) | (with_reducible assumption) | (with_reducible refine Below.alloc ?_ ?_ _) | (with_reducible refine Below.setCell ?_ ?_ _) | (with_reducible refine below_row ?_ ?_ _) | (with_reducible refine Below.drew ?_) | (with_reducible refine below_drewN ?_ _) | (with_reducible refine Below.trans ?_ (Below.mono (by assumption) ?_)) | (first | exact Nat.le_refl _ | omega | (simp; done) | (simp; omega) | (exact Below.size (by assumption)))))) (hb1.mono (by simp))) (by simp)
    simp only [World.size_alloc] at LX
    have q1 := LX.cell 1
    have q2 := LX.cell 2
    have zX := LX.lt
    have B1 : Below w.heap.size w w1 := by (repeat' (first | (with_reducible exact Below.refl _ _) | (with_reducible assumption) | (with_reducible refine Below.alloc ?_ ?_ _) | (with_reducible refine Below.setCell ?_ ?_ _) | (with_reducible refine below_row ?_ ?_ _) | (with_reducible refine Below.drew ?_) | (with_reducible refine below_drewN ?_ _) | (with_reducible refine Below.trans ?_ (Below.mono (by assumption) ?_)) | (first | exact Nat.le_refl _ | omega | (simp; done) | (simp; omega) | (exact Below.size (by assumption)))))
    clear hb1
    have HX := Lib.hid LX
    clear LX
    go_wp2_with fail
    try
      refine (H2.out _ _ _ ((Lies.new (by simp)).cell 0)).mono ?_
      rintro e w2 ⟨rfl, hb2⟩
      have s2 := hb2.size; try simp only [World.size_alloc, World.size_setCell, World.size_drew, setRow_size] at s2
      have HX2 := Lib.hid ((HX.out.alloc _).after hb2)
      have r2 := HX2.out.cell 2
      have zX2 := HX2.out.lt
      have B2 : Below w.heap.size w w2 := by (repeat' (first | (with_reducible exact Below.refl _ _) | (with_reducible assumption) | (with_reducible refine Below.alloc ?_ ?_ _) | (with_reducible refine Below.setCell ?_ ?_ _) | (with_reducible refine below_row ?_ ?_ _) | (with_reducible refine Below.drew ?_) | (with_reducible refine below_drewN ?_ _) | (with_reducible refine Below.trans ?_ (Below.mono (by assumption) ?_)) | (first | exact Nat.le_refl _ | omega | (simp; done) | (simp; omega) | (exact Below.size (by assumption)))))
      clear hb2
      go_wp2_with fail
    try
      refine (H3.out _ _ _ ((Lies.new (by simp)).cell 0)).mono ?_
      rintro e w3 ⟨rfl, hb3⟩
      have s3 := hb3.size; try simp only [World.size_alloc, World.size_setCell, World.size_drew, setRow_size] at s3
      have B3 : Below w.heap.size w w3 := by (repeat' (first | (with_reducible exact Below.refl _ _) | (with_reducible assumption) | (with_reducible refine Below.alloc ?_ ?_ _) | (with_reducible refine Below.setCell ?_ ?_ _) | (with_reducible refine below_row ?_ ?_ _) | (with_reducible refine Below.drew ?_) | (with_reducible refine below_drewN ?_ _) | (with_reducible refine Below.trans ?_ (Below.mono (by assumption) ?_)) | (first | exact Nat.le_refl _ | omega | (simp; done) | (simp; omega) | (exact Below.size (by assumption)))))
      go_wp2_with fail
    go_ret
    exact ⟨rfl, by (repeat' (first | (with_reducible exact Below.refl _ _) | (with_reducible assumption) | (with_reducible refine Below.alloc ?_ ?_ _) | (with_reducible refine Below.setCell ?_ ?_ _) | (with_reducible refine below_row ?_ ?_ _) | (with_reducible refine Below.drew ?_) | (with_reducible refine below_drewN ?_ _) | (with_reducible refine Below.trans ?_ (Below.mono (by assumption) ?_)) | (first | exact Nat.le_refl _ | omega | (simp; done) | (simp; omega) | (exact Below.size (by assumption)))))⟩
end Go.Proofs.Ytngaepgepcnhkaa
