/- H1: The walks of package sheet: within, isNamed, isInOrder. H2: The walks of package sheet: isInOrder, isMade. H3: The walks of package sheet: isMade in every case, isMeasured. H5: The walks of package sheet: demands, right. -/
import Derived.Test.YtkjfceajakhlfaaLA
import Derived.IntWalk
import Derived.Test.YtkjfceajakhlfaaLB
import Derived.Shelf.Abstract
import Derived.Laws.EntriesVeiled
namespace Go.Proofs.Ytkjfceajakhlfaa
set_option linter.unusedVariables false
set_option linter.unusedSimpArgs false
section
open Go.RowKit

set_option maxHeartbeats 400000 in
theorem swithin_any (lo hi : Int) (b off : Nat) (zs : List Int) (c : Nat) (w : World) (hl : zs.length ≤ 1000) (hc : ∀ i (h : i < zs.length), w.cell? ⟨b, off + i, none⟩ = some (.int .i64 zs[i])) :
    Calls Try.prog 104 #[.agg #[.int .i64 lo, .int .i64 hi], .slice (some ⟨b, off, none⟩) zs.length c] w fun e w' => e = .returned (.bool (allIn lo hi zs)) ∧ Below w.heap.size w w' := by
  have HC := Lib.hid hc; clear hc
  go_enter Try.func104, Try.ntmps104
  go_wp2
  go_loop [9] (fun i => ∃ k : Nat, k ≤ zs.length ∧ i = .int .i64 k ∧ Hid (∀ j (hj : j < k) (h : j < zs.length), lo ≤ zs[j] ∧ zs[j] ≤ hi)) (fun i => zs.length - (intOf i).toNat)
  case atStart => exact ⟨0, by omega, rfl, Lib.hid (fun j hj => by omega)⟩
  case round =>
    obtain ⟨k, hk, rfl, hj⟩ := hrel
    by_cases hlt : k < zs.length
    · have hcell := HC.out k hlt
      have hb : b < w.heap.size := World.block_lt_of_cell? w _ hcell
      generalize hz : zs[k] = z at *
      have Hz := Lib.hid hz; clear hz
      by_cases h1 : z < lo
      · go_wp2
        go_ret
        exact ⟨ret_bool (allIn_no hlt (by rw [Hz.out]; omega)).symm, (Below.refl _ _).alloc (Nat.le_refl _) _⟩
      · by_cases h2 : hi < z
        · go_wp2
          go_ret
          exact ⟨ret_bool (allIn_no hlt (by rw [Hz.out]; omega)).symm, (Below.refl _ _).alloc (Nat.le_refl _) _⟩
        · go_wp2
          go_round
          case rel =>
            refine ⟨k + 1, by omega, by go_num, Lib.hid (fun j hj' h => ?_)⟩
            by_cases e : j = k
            · subst e; rw [Hz.out]; omega
            · exact hj.out j (by omega) h
          case measure => simp [intOf]; omega
    · go_wp2
      go_ret
      exact ⟨ret_bool (allIn_yes fun j h => hj.out j (by omega) h).symm, (Below.refl _ _).alloc (Nat.le_refl _) _⟩

theorem swithin_1 (lo hi x : Int) (b : Nat) (c : Nat) (w : World) (h0 : w.cell? ⟨b, 0, none⟩ = some (.int .i64 x)) :
    Calls Try.prog 104 #[.agg #[.int .i64 lo, .int .i64 hi], .slice (some ⟨b, 0, none⟩) 1 c] w fun e w' => e = .returned (.bool (allIn lo hi [x])) ∧ Below w.heap.size w w' :=
  swithin_any lo hi b 0 [x] c w (by simp) (fun i h => by
    match i, h with
    | 0, _ => simpa using h0)
theorem swithin_2 (lo hi x y : Int) (b : Nat) (c : Nat) (w : World) (h0 : w.cell? ⟨b, 0, none⟩ = some (.int .i64 x)) (h1 : w.cell? ⟨b, 1, none⟩ = some (.int .i64 y)) :
    Calls Try.prog 104 #[.agg #[.int .i64 lo, .int .i64 hi], .slice (some ⟨b, 0, none⟩) 2 c] w fun e w' => e = .returned (.bool (allIn lo hi [x, y])) ∧ Below w.heap.size w w' :=
  swithin_any lo hi b 0 [x, y] c w (by simp) (fun i h => by
    match i, h with
    | 0, _ => simpa using h0
    | 1, _ => simpa using h1)
theorem swithin_3 (lo hi x y z : Int) (b : Nat) (c : Nat) (w : World) (h0 : w.cell? ⟨b, 0, none⟩ = some (.int .i64 x)) (h1 : w.cell? ⟨b, 1, none⟩ = some (.int .i64 y)) (h2 : w.cell? ⟨b, 2, none⟩ = some (.int .i64 z)) :
    Calls Try.prog 104 #[.agg #[.int .i64 lo, .int .i64 hi], .slice (some ⟨b, 0, none⟩) 3 c] w fun e w' => e = .returned (.bool (allIn lo hi [x, y, z])) ∧ Below w.heap.size w w' :=
  swithin_any lo hi b 0 [x, y, z] c w (by simp) (fun i h => by
    match i, h with
    | 0, _ => simpa using h0
    | 1, _ => simpa using h1
    | 2, _ => simpa using h2)


/-- within at one number, with a name for what it says. -/
theorem sone (lo hi x : Int) (r : Bool) (h : inB lo hi x = r) (b : Nat) (c : Nat) (w : World) (h0 : w.cell? ⟨b, 0, none⟩ = some (.int .i64 x)) :
    Calls Try.prog 104 #[.agg #[.int .i64 lo, .int .i64 hi], .slice (some ⟨b, 0, none⟩) 1 c] w fun e w' => e = .returned (.bool r) ∧ Below w.heap.size w w' := by
  rw [← h, ← in1B]; exact swithin_1 lo hi x b c w h0
set_option maxHeartbeats 1000000 in
theorem isNamed_any (cb : Array Value) (d l k : Int) (it : List (Int × Int)) (di : List D3) (vi vd : Value) (w : World) (hk : 0 ≤ k ∧ k ≤ 255) :
    Calls Try.prog 133 #[.agg cb, .agg #[.int .i64 d, .int .i64 l, .int .u8 k, vi, vd]] w fun e w' => e = .returned (.bool (namedB ⟨d, l, k, it, di⟩)) ∧ Below w.heap.size w w' := by
  unfold namedB
  simp only
  have H1 := Lib.hid (sone 1 9999 d _ rfl)
  have H2 := Lib.hid (sone 1 8 l _ rfl)
  have H3 := Lib.hid (sone 1 3 k _ rfl)
  have hk2 : IntKind.i64.wrap k = k := by simp [IntKind.wrap, IntKind.bits, IntKind.signed]; omega
  generalize inB 1 9999 d = p at *
  generalize inB 1 8 l = q at *
  generalize inB 1 3 k = r at *
  cases p <;> cases q
  all_goals
    go_enter Try.func133, Try.ntmps133
    go_wp2_with fail
    refine (H1.out _ _ _ ((Lies.new (by simp)).cell 0)).mono ?_
    rintro e w1 ⟨rfl, hb1⟩
    have s1 := hb1.size; try simp only [World.size_alloc, World.size_setCell, World.size_drew, setRow_size] at s1
    have LX := (Lies.new (u := w.alloc (.cells cb 45)) (t := 45) (cs := #[.int .i64 d, .int .i64 l, .int .u8 k, vi, vd]) rfl).keep (w' := w1) (B := w.heap.size + 2) (Below.trans (by (repeat' (first | (with_reducible first | exact Below.refl _ _ | assumption | refine Below.alloc ?_ ?_ _ | refine Below.setCell ?_ ?_ _ | refine below_row ?_ ?_ _ | refine Below.drew ?_ | refine below_drewN ?_ _ | refine Below.trans ?_ (Below.mono (by assumption) ?_)) | exact Nat.le_refl _ | omega | (simp; done) | (simp; omega) | exact Below.size (by assumption)))) (hb1.mono (by simp))) (by simp)
    simp only [World.size_alloc] at LX
    have q1 := LX.cell 1
    have q2 := LX.cell 2
    have zX := LX.lt
    have B1 : Below w.heap.size w w1 := by (repeat' (first | (with_reducible first | exact Below.refl _ _ | assumption | refine Below.alloc ?_ ?_ _ | refine Below.setCell ?_ ?_ _ | refine below_row ?_ ?_ _ | refine Below.drew ?_ | refine below_drewN ?_ _ | refine Below.trans ?_ (Below.mono (by assumption) ?_)) | exact Nat.le_refl _ | omega | (simp; done) | (simp; omega) | exact Below.size (by assumption)))
    clear hb1
    have HX := Lib.hid LX
    clear LX
    go_wp2_with fail
    try
      refine (H2.out _ _ _ ((Lies.new (by simp)).cell 0)).mono ?_
      rintro e w2 ⟨rfl, hb2⟩
      have s2 := hb2.size; try simp only [World.size_alloc, World.size_setCell, World.size_drew, setRow_size] at s2
      have HX2 := Lib.hid ((HX.out.alloc _).after hb2)
      have r2 := HX2.out.cell 2
      have zX2 := HX2.out.lt
      have B2 : Below w.heap.size w w2 := by (repeat' (first | (with_reducible first | exact Below.refl _ _ | assumption | refine Below.alloc ?_ ?_ _ | refine Below.setCell ?_ ?_ _ | refine below_row ?_ ?_ _ | refine Below.drew ?_ | refine below_drewN ?_ _ | refine Below.trans ?_ (Below.mono (by assumption) ?_)) | exact Nat.le_refl _ | omega | (simp; done) | (simp; omega) | exact Below.size (by assumption)))
      clear hb2
      go_wp2_with fail
    try
      refine (H3.out _ _ _ ((Lies.new (by simp)).cell 0)).mono ?_
      rintro e w3 ⟨rfl, hb3⟩
      have s3 := hb3.size; try simp only [World.size_alloc, World.size_setCell, World.size_drew, setRow_size] at s3
      have B3 : Below w.heap.size w w3 := by (repeat' (first | (with_reducible first | exact Below.refl _ _ | assumption | refine Below.alloc ?_ ?_ _ | refine Below.setCell ?_ ?_ _ | refine below_row ?_ ?_ _ | refine Below.drew ?_ | refine below_drewN ?_ _ | refine Below.trans ?_ (Below.mono (by assumption) ?_)) | exact Nat.le_refl _ | omega | (simp; done) | (simp; omega) | exact Below.size (by assumption)))
      go_wp2_with fail
    go_ret
    exact ⟨rfl, by (repeat' (first | (with_reducible first | exact Below.refl _ _ | assumption | refine Below.alloc ?_ ?_ _ | refine Below.setCell ?_ ?_ _ | refine below_row ?_ ?_ _ | refine Below.drew ?_ | refine below_drewN ?_ _ | refine Below.trans ?_ (Below.mono (by assumption) ?_)) | exact Nat.le_refl _ | omega | (simp; done) | (simp; omega) | exact Below.size (by assumption)))⟩
end
section
open Go.RowKit

set_option maxHeartbeats 1000000 in
theorem isInOrder_any (bd bl bk : Int) (bit : List (Int × Int)) (bdi : List D3) (bvi bvd : Value) (d l k : Int) (it : List (Int × Int)) (di : List D3) (vi vd : Value) (w : World) (hb : -1000 ≤ bl ∧ bl ≤ 1000) :
    Calls Try.prog 134 #[.agg #[.int .i64 bd, .int .i64 bl, .int .u8 bk, bvi, bvd], .agg #[.int .i64 d, .int .i64 l, .int .u8 k, vi, vd]] w fun e w' => e = .returned (.bool (orderB ⟨bd, bl, bk, bit, bdi⟩ ⟨d, l, k, it, di⟩)) ∧ Below w.heap.size w w' := by
  unfold orderB
  simp only
  have hw : IntKind.i64.wrap (bl + 1) = bl + 1 := IntWalk.i64_in _ (by omega)
  by_cases h1 : d = bd
  · subst h1
    rw [if_pos rfl]
    by_cases h2 : l = bl + 1 <;> by_cases h3 : k = bk
    all_goals
      go_enter Try.func134, Try.ntmps134
      go_wp2
      go_ret
      exact ⟨ret_bool (by simp [h2, h3]), by (repeat' (first | (with_reducible first | exact Below.refl _ _ | assumption | refine Below.alloc ?_ ?_ _ | refine Below.setCell ?_ ?_ _ | refine below_row ?_ ?_ _ | refine Below.drew ?_ | refine below_drewN ?_ _ | refine Below.trans ?_ (Below.mono (by assumption) ?_)) | exact Nat.le_refl _ | omega | (simp; done) | (simp; omega) | exact Below.size (by assumption)))⟩
  · rw [if_neg h1]
    have h1' : (d == bd) = false := by rw [beq_eq_false_iff_ne]; exact h1
    by_cases h2 : bd < d <;> by_cases h3 : l = 1
    all_goals
      go_enter Try.func134, Try.ntmps134
      go_wp2
      go_ret
      exact ⟨ret_bool (by simp [h2, h3]), by (repeat' (first | (with_reducible first | exact Below.refl _ _ | assumption | refine Below.alloc ?_ ?_ _ | refine Below.setCell ?_ ?_ _ | refine below_row ?_ ?_ _ | refine Below.drew ?_ | refine below_drewN ?_ _ | refine Below.trans ?_ (Below.mono (by assumption) ?_)) | exact Nat.le_refl _ | omega | (simp; done) | (simp; omega) | exact Below.size (by assumption)))⟩

set_option maxHeartbeats 2000000 in
theorem isMade_part (cb : Array Value) (d l k : Int) (it : List (Int × Int)) (di : List D3) (A : Option Addr) (c : Nat) (vd : Value) (w : World) (hk : ¬ k = 1) :
    Calls Try.prog 135 #[.agg cb, .agg #[.int .i64 d, .int .i64 l, .int .u8 k, .slice A it.length c, vd]] w fun e w' => e = .returned (.bool (madeB ⟨d, l, k, it, di⟩)) ∧ Below w.heap.size w w' := by
  unfold madeB
  simp only
  rw [if_neg hk]
  have hk' : (k == 1) = false := by rw [beq_eq_false_iff_ne]; exact hk
  generalize it.length = n at *
  by_cases h : n = 0
  · subst h
    go_enter Try.func135, Try.ntmps135
    go_wp2
    go_ret
    exact ⟨ret_bool (by simp), by (repeat' (first | (with_reducible first | exact Below.refl _ _ | assumption | refine Below.alloc ?_ ?_ _ | refine Below.setCell ?_ ?_ _ | refine below_row ?_ ?_ _ | refine Below.drew ?_ | refine below_drewN ?_ _ | refine Below.trans ?_ (Below.mono (by assumption) ?_)) | exact Nat.le_refl _ | omega | (simp; done) | (simp; omega) | exact Below.size (by assumption)))⟩
  · have h' : ((n : Int) == 0) = false := by rw [beq_eq_false_iff_ne]; omega
    go_enter Try.func135, Try.ntmps135
    go_wp2
    go_ret
    exact ⟨ret_bool (by simp [h]), by (repeat' (first | (with_reducible first | exact Below.refl _ _ | assumption | refine Below.alloc ?_ ?_ _ | refine Below.setCell ?_ ?_ _ | refine below_row ?_ ?_ _ | refine Below.drew ?_ | refine below_drewN ?_ _ | refine Below.trans ?_ (Below.mono (by assumption) ?_)) | exact Nat.le_refl _ | omega | (simp; done) | (simp; omega) | exact Below.size (by assumption)))⟩
set_option maxHeartbeats 2000000 in
theorem isMade_long (cb : Array Value) (d l : Int) (it : List (Int × Int)) (di : List D3) (A : Option Addr) (c : Nat) (vd : Value) (w : World) (hl : ¬ (1 ≤ it.length ∧ it.length ≤ 8)) :
    Calls Try.prog 135 #[.agg cb, .agg #[.int .i64 d, .int .i64 l, .int .u8 1, .slice A it.length c, vd]] w fun e w' => e = .returned (.bool (madeB ⟨d, l, 1, it, di⟩)) ∧ Below w.heap.size w w' := by
  unfold madeB
  simp only
  rw [if_pos trivial]
  have h0 : inB 1 8 (it.length : Int) = false := by unfold inB; simp; omega
  rw [h0, Bool.false_and]
  have H1 := Lib.hid (sone 1 8 (it.length : Int) _ h0)
  generalize it.length = n at *
  go_enter Try.func135, Try.ntmps135
  go_wp2_with fail
  refine (H1.out _ _ _ ((Lies.new (by simp)).cell 0)).mono ?_
  rintro e w1 ⟨rfl, hb1⟩
  have s1 := hb1.size; try simp only [World.size_alloc, World.size_setCell, World.size_drew, setRow_size] at s1
  go_wp2_with fail
  go_ret
  exact ⟨rfl, by (repeat' (first | (with_reducible first | exact Below.refl _ _ | assumption | refine Below.alloc ?_ ?_ _ | refine Below.setCell ?_ ?_ _ | refine below_row ?_ ?_ _ | refine Below.drew ?_ | refine below_drewN ?_ _ | refine Below.trans ?_ (Below.mono (by assumption) ?_)) | exact Nat.le_refl _ | omega | (simp; done) | (simp; omega) | exact Below.size (by assumption)))⟩
set_option maxHeartbeats 4000000 in
set_option maxRecDepth 100000 in
theorem isMade_go (cb : Array Value) (d l : Int) (it : List (Int × Int)) (di : List D3) (b off : Nat) (c : Nat) (vd : Value) (w : World) (hl : 1 ≤ it.length ∧ it.length ≤ 8)
    (hc : ∀ i (h : i < it.length), w.cell? ⟨b, off + i * 2, none⟩ = some (.int .i64 it[i].1) ∧ w.cell? ⟨b, off + i * 2 + 1, none⟩ = some (.int .i64 it[i].2)) :
    Calls Try.prog 135 #[.agg cb, .agg #[.int .i64 d, .int .i64 l, .int .u8 1, .slice (some ⟨b, off, none⟩) it.length c, vd]] w fun e w' => e = .returned (.bool (madeB ⟨d, l, 1, it, di⟩)) ∧ Below w.heap.size w w' := by
  have HC := Lib.hid hc
  clear hc
  unfold madeB
  simp only
  rw [if_pos trivial]
  have h0 : inB 1 8 (it.length : Int) = true := by unfold inB; simp; omega
  rw [h0, Bool.true_and]
  have H1 := Lib.hid (sone 1 8 (it.length : Int) _ h0)
  have H2 := Lib.hid (fun x r h => sone 1 20 x r h)
  go_enter Try.func135, Try.ntmps135
  go_wp2_with fail
  refine (H1.out _ _ _ ((Lies.new (by simp)).cell 0)).mono ?_
  rintro e w1 ⟨rfl, hb1⟩
  have s1 := hb1.size; try simp only [World.size_alloc, World.size_setCell, World.size_drew, setRow_size] at s1
  have LX := (Lies.new (u := w.alloc (.cells cb 45)) (t := 45) (cs := #[.int .i64 d, .int .i64 l, .int .u8 1, .slice (some ⟨b, off, none⟩) it.length c, vd]) rfl).keep (w' := w1) (B := w.heap.size + 2) (Below.trans (by (repeat' (first | (with_reducible first | exact Below.refl _ _ | assumption | refine Below.alloc ?_ ?_ _ | refine Below.setCell ?_ ?_ _ | refine below_row ?_ ?_ _ | refine Below.drew ?_ | refine below_drewN ?_ _ | refine Below.trans ?_ (Below.mono (by assumption) ?_)) | exact Nat.le_refl _ | omega | (simp; done) | (simp; omega) | exact Below.size (by assumption)))) (hb1.mono (by simp))) (by simp)
  simp only [World.size_alloc] at LX
  have B1 : Below w.heap.size w w1 := by (repeat' (first | (with_reducible first | exact Below.refl _ _ | assumption | refine Below.alloc ?_ ?_ _ | refine Below.setCell ?_ ?_ _ | refine below_row ?_ ?_ _ | refine Below.drew ?_ | refine below_drewN ?_ _ | refine Below.trans ?_ (Below.mono (by assumption) ?_)) | exact Nat.le_refl _ | omega | (simp; done) | (simp; omega) | exact Below.size (by assumption)))
  clear hb1
  have HX := Lib.hid LX
  have x3 := LX.cell 3
  have zX := LX.lt
  clear LX
  go_wp2_with fail
  clear x3
  go_loopw [5, 25] (fun la i wr => ∃ (k : Nat) (p : Int), k ≤ it.length ∧ i = .int .i64 k ∧ la = .int .i64 p ∧ Hid (itemsB d p (it.drop k) = itemsB d 0 it) ∧ Below w.heap.size w wr ∧ Hid (Lies wr (w.heap.size + 1) 45 #[.int .i64 d, .int .i64 l, .int .u8 1, .slice (some ⟨b, off, none⟩) it.length c, vd])) (fun _ i _ => it.length - (intOf i).toNat)
  case atStart => exact ⟨0, 0, by omega, rfl, rfl, Lib.hid rfl, B1, HX⟩
  case round =>
    obtain ⟨k, p, hk, rfl, rfl, HG, hb, HX2⟩ := hrel
    have hz := hb.size
    have x0 := HX2.out.cell 0
    have zX2 := HX2.out.lt
    by_cases hlt : k < it.length
    · obtain ⟨q0, q1⟩ := HC.out k hlt
      have hbl : b < w.heap.size := World.block_lt_of_cell? w _ q0
      have r0 := (hb.cell (p := ⟨b, off + k * 2, none⟩) hbl).trans q0
      have r1 := (hb.cell (p := ⟨b, off + k * 2 + 1, none⟩) hbl).trans q1
      clear q0 q1
      have HS := Lib.hid (fun h1 h2 h3 => itemsB_step (d := d) (last := p) hlt h1 h2 h3)
      have HT := Lib.hid (fun h1 => itemsB_stop (d := d) (last := p) hlt h1)
      obtain ⟨e, he⟩ : ∃ e, it[k] = e := ⟨_, rfl⟩
      rw [he] at r0 r1 HS HT
      obtain ⟨e1, e2⟩ := e
      simp only at r0 r1 HS HT
      clear he
      by_cases h1 : e1 = d
      · have HR := Lib.hid ((HT.out (.inl h1)).symm.trans HG.out)
        subst h1
        go_wp2
        go_ret
        exact ⟨ret_bool HR.out, by (repeat' (first | (with_reducible first | exact Below.refl _ _ | assumption | refine Below.alloc ?_ ?_ _ | refine Below.setCell ?_ ?_ _ | refine below_row ?_ ?_ _ | refine Below.drew ?_ | refine below_drewN ?_ _ | refine Below.trans ?_ (Below.mono (by assumption) ?_)) | exact Nat.le_refl _ | omega | (simp; done) | (simp; omega) | exact Below.size (by assumption)))⟩
      · have h1' : (e1 == d) = false := by rw [beq_eq_false_iff_ne]; exact h1
        by_cases h2 : e1 ≤ p
        · have HR := Lib.hid ((HT.out (.inr (.inl h2))).symm.trans HG.out)
          go_wp2
          go_ret
          exact ⟨ret_bool HR.out, by (repeat' (first | (with_reducible first | exact Below.refl _ _ | assumption | refine Below.alloc ?_ ?_ _ | refine Below.setCell ?_ ?_ _ | refine below_row ?_ ?_ _ | refine Below.drew ?_ | refine below_drewN ?_ _ | refine Below.trans ?_ (Below.mono (by assumption) ?_)) | exact Nat.le_refl _ | omega | (simp; done) | (simp; omega) | exact Below.size (by assumption)))⟩
        · by_cases h3 : 1 ≤ e2 ∧ e2 ≤ 20
          · have HR := Lib.hid ((HS.out h1 h2 h3).symm.trans HG.out)
            have HW := Lib.hid (H2.out e2 true (by unfold inB; simp [h3]))
            go_wp2_with fail
            refine (HW.out _ _ _ ((Lies.new (by simp)).cell 0)).mono ?_
            rintro e w2 ⟨rfl, hb2⟩
            have s2 := hb2.size; try simp only [World.size_alloc, World.size_setCell, World.size_drew, setRow_size] at s2
            have LI := ((Lies.made wr 52 #[.int .i64 e1, .int .i64 e2]).alloc (.cells #[.int .i64 e2] 3)).after hb2
            have i0 := LI.cell 0
            have zI := LI.lt
            clear LI
            have HX3 := Lib.hid (((HX2.out.alloc (.cells #[.int .i64 e1, .int .i64 e2] 52)).alloc (.cells #[.int .i64 e2] 3)).after hb2)
            have hb3 : Below w.heap.size w w2 := by (repeat' (first | (with_reducible first | exact Below.refl _ _ | assumption | refine Below.alloc ?_ ?_ _ | refine Below.setCell ?_ ?_ _ | refine below_row ?_ ?_ _ | refine Below.drew ?_ | refine below_drewN ?_ _ | refine Below.trans ?_ (Below.mono (by assumption) ?_)) | exact Nat.le_refl _ | omega | (simp; done) | (simp; omega) | exact Below.size (by assumption)))
            clear hb2
            go_wp2_with fail
            go_roundw
            case rel => exact ⟨k + 1, e1, by omega, by go_num, rfl, HR, hb3, HX3⟩
            case measure => simp [intOf]; omega
          · have HR := Lib.hid ((HT.out (.inr (.inr h3))).symm.trans HG.out)
            have HW := Lib.hid (H2.out e2 false (by unfold inB; simp only [decide_eq_false_iff_not]; exact h3))
            go_wp2_with fail
            refine (HW.out _ _ _ ((Lies.new (by simp)).cell 0)).mono ?_
            rintro e w2 ⟨rfl, hb2⟩
            have s2 := hb2.size; try simp only [World.size_alloc, World.size_setCell, World.size_drew, setRow_size] at s2
            go_wp2_with fail
            go_ret
            exact ⟨ret_bool HR.out, by (repeat' (first | (with_reducible first | exact Below.refl _ _ | assumption | refine Below.alloc ?_ ?_ _ | refine Below.setCell ?_ ?_ _ | refine below_row ?_ ?_ _ | refine Below.drew ?_ | refine below_drewN ?_ _ | refine Below.trans ?_ (Below.mono (by assumption) ?_)) | exact Nat.le_refl _ | omega | (simp; done) | (simp; omega) | exact Below.size (by assumption)))⟩
    · have hke : k = it.length := by omega
      have HR := Lib.hid HG.out
      rw [hke, List.drop_length, itemsB] at HR
      clear HG
      subst hke
      go_wp2
      go_ret
      exact ⟨ret_bool HR.out, by (repeat' (first | (with_reducible first | exact Below.refl _ _ | assumption | refine Below.alloc ?_ ?_ _ | refine Below.setCell ?_ ?_ _ | refine below_row ?_ ?_ _ | refine Below.drew ?_ | refine below_drewN ?_ _ | refine Below.trans ?_ (Below.mono (by assumption) ?_)) | exact Nat.le_refl _ | omega | (simp; done) | (simp; omega) | exact Below.size (by assumption)))⟩
end
section
open Go.RowKit Go.Shelf

theorem isMade_any (cb : Array Value) (x : Iss) (vi vd : Value) (w : World) (hi : ItemsAt w vi x.items) :
    Calls Try.prog 135 #[.agg cb, .agg #[.int .i64 x.d, .int .i64 x.l, .int .u8 x.k, vi, vd]] w fun e w' => e = .returned (.bool (madeB x)) ∧ Below w.heap.size w w' := by
  obtain ⟨d, l, k, it, di⟩ := x
  obtain ⟨A, c, b, off, rfl, hA, hc⟩ := hi
  simp only at hA hc ⊢
  by_cases hk : k = 1
  · subst hk
    by_cases hl : 1 ≤ it.length ∧ it.length ≤ 8
    · rw [hA (by omega)]
      exact isMade_go cb d l it di b off c vd w hl hc
    · exact isMade_long cb d l it di A c vd w hl
  · exact isMade_part cb d l k it di A c vd w hk

set_option maxHeartbeats 400000 in
theorem isMeasured1_any (n l u : Int) (w : World) :
    Calls Try.prog 140 #[.agg #[.int .i64 n, .int .i64 l, .int .i64 u]] w fun e w' => e = .returned (.bool (!okD n l u)) ∧ Below w.heap.size w w' := by
  by_cases h : okD n l u = true
  · go_enter Try.func140, Try.ntmps140
    go_wp2_with fail
    refine (Check_ok n l u _ h).mono ?_
    rintro e w1 ⟨rfl, hb⟩
    go_wp2
    go_ret
    exact ⟨ret_bool (by rw [h]; rfl), ((Below.refl _ _).alloc (Nat.le_refl _) _).trans (hb.mono (by simp))⟩
  · have h' : okD n l u = false := by simpa using h
    clear h
    go_enter Try.func140, Try.ntmps140
    go_wp2_with fail
    refine (Check_no n l u _ h').mono ?_
    rintro e w1 ⟨rfl, hb⟩
    go_wp2
    go_ret
    exact ⟨ret_bool (by rw [h']; rfl), ((Below.refl _ _).alloc (Nat.le_refl _) _).trans (hb.mono (by simp))⟩
theorem enter_m1 : ∀ (args : Array Value) (W : World), (callFunc 140 args).run Try.prog W = .ok (.enter 140 args) W := enters_of Try.func140 (by kernel_rfl) rfl
set_option maxHeartbeats 1000000 in
theorem isMeasured_any (cb : Array Value) (x : Iss) (vi vd : Value) (w : World) (hi : DimsAt w vd x.dims) :
    Calls Try.prog 136 #[.agg cb, .agg #[.int .i64 x.d, .int .i64 x.l, .int .u8 x.k, vi, vd]] w fun e w' => e = .returned (.bool (measuredB x)) ∧ Below w.heap.size w w' := by
  obtain ⟨d, l, k, it, di⟩ := x
  obtain ⟨A, c, b, off, rfl, hA, hc⟩ := hi
  simp only at hA hc ⊢
  unfold measuredB
  simp only
  by_cases hk : k = 1
  · subst hk
    rw [if_pos rfl]
    clear hc hA
    generalize di.length = n at *
    by_cases h : n = 0
    · subst h
      go_enter Try.func136, Try.ntmps136
      go_wp2
      go_ret
      exact ⟨ret_bool (by simp), by (repeat' (first | (with_reducible first | exact Below.refl _ _ | assumption | refine Below.alloc ?_ ?_ _ | refine Below.setCell ?_ ?_ _ | refine below_row ?_ ?_ _ | refine Below.drew ?_ | refine below_drewN ?_ _ | refine Below.trans ?_ (Below.mono (by assumption) ?_)) | exact Nat.le_refl _ | omega | (simp; done) | (simp; omega) | exact Below.size (by assumption)))⟩
    · have h' : ((n : Int) == 0) = false := by rw [beq_eq_false_iff_ne]; omega
      go_enter Try.func136, Try.ntmps136
      go_wp2
      go_ret
      exact ⟨ret_bool (by simp [h]), by (repeat' (first | (with_reducible first | exact Below.refl _ _ | assumption | refine Below.alloc ?_ ?_ _ | refine Below.setCell ?_ ?_ _ | refine below_row ?_ ?_ _ | refine Below.drew ?_ | refine below_drewN ?_ _ | refine Below.trans ?_ (Below.mono (by assumption) ?_)) | exact Nat.le_refl _ | omega | (simp; done) | (simp; omega) | exact Below.size (by assumption)))⟩
  · rw [if_neg hk]
    have hk' : (k == 1) = false := by rw [beq_eq_false_iff_ne]; exact hk
    by_cases h4 : di.length ≤ 4
    · have h4' : (di.length : Int) ≤ 4 := by omega
      have HH : Hid (∀ W, Below w.heap.size w W → Calls Try.prog 139 #[.slice A di.length c, .func (.func 140) #[] #[]] W fun e w' => e = .returned (.bool (di.any fun d => !okD d.1 d.2.1 d.2.2)) ∧ Below W.heap.size W w') :=
        Lib.hid (fun W hW => hasD_any 140 #[] (fun d => !okD d.1 d.2.1 d.2.2) A c b off di W hA (by omega) (fun i hi => ⟨cell_keep hW (hc i hi).1, cell_keep hW (hc i hi).2.1, cell_keep hW (hc i hi).2.2⟩) enter_m1 (fun x _ W' _ => isMeasured1_any x.1 x.2.1 x.2.2 W'))
      have HR : Hid (measuredB.badD0 di = di.any fun d => !okD d.1 d.2.1 d.2.2) := Lib.hid rfl
      rw [show decide (di.length ≤ 4) = true from by simpa using h4, Bool.true_and, HR.out]
      generalize (di.any fun d => !okD d.1 d.2.1 d.2.2) = r at *
      clear hA hc HR
      go_enter Try.func136, Try.ntmps136
      go_wp2_with fail
      refine (HH.out _ (by (repeat' (first | (with_reducible first | exact Below.refl _ _ | assumption | refine Below.alloc ?_ ?_ _ | refine Below.setCell ?_ ?_ _ | refine below_row ?_ ?_ _ | refine Below.drew ?_ | refine below_drewN ?_ _ | refine Below.trans ?_ (Below.mono (by assumption) ?_)) | exact Nat.le_refl _ | omega | (simp; done) | (simp; omega) | exact Below.size (by assumption))))).mono ?_
      rintro e w1 ⟨rfl, hb1⟩
      have s1 := hb1.size; try simp only [World.size_alloc, World.size_setCell, World.size_drew, setRow_size] at s1
      go_wp2_with fail
      go_ret
      exact ⟨rfl, by (repeat' (first | (with_reducible first | exact Below.refl _ _ | assumption | refine Below.alloc ?_ ?_ _ | refine Below.setCell ?_ ?_ _ | refine below_row ?_ ?_ _ | refine Below.drew ?_ | refine below_drewN ?_ _ | refine Below.trans ?_ (Below.mono (by assumption) ?_)) | exact Nat.le_refl _ | omega | (simp; done) | (simp; omega) | exact Below.size (by assumption)))⟩
    · have h4' : ¬ (di.length : Int) ≤ 4 := by omega
      rw [show decide (di.length ≤ 4) = false from by simpa using h4, Bool.false_and]
      clear hA hc
      go_enter Try.func136, Try.ntmps136
      go_wp2
      go_ret
      exact ⟨rfl, by (repeat' (first | (with_reducible first | exact Below.refl _ _ | assumption | refine Below.alloc ?_ ?_ _ | refine Below.setCell ?_ ?_ _ | refine below_row ?_ ?_ _ | refine Below.drew ?_ | refine below_drewN ?_ _ | refine Below.trans ?_ (Below.mono (by assumption) ?_)) | exact Nat.le_refl _ | omega | (simp; done) | (simp; omega) | exact Below.size (by assumption)))⟩
end
section
open Go.RowKit Go.Shelf

theorem mid7 (w1 : World) (F : Value) : ∃ v, (w1.alloc (.cells #[.nilFunc] 181)).setRow w1.heap.size #[F] = v ∧ Below w1.heap.size w1 v ∧ Lies v w1.heap.size 181 #[F] :=
  ⟨_, rfl, below_row ((Below.refl _ _).alloc (Nat.le_refl _) _) (Nat.le_refl _) _, (Lies.made _ _ _).row _⟩
def fnV (f : Nat) : Value := .func (.func f) #[] #[]
set_option maxHeartbeats 1000000 in
theorem demands_any (w : World) :
    Calls Try.prog 126 #[] w fun e w' => e = .returned (.agg #[fnV 133, fnV 134, fnV 135, fnV 136]) ∧ Below w.heap.size w w' := by
  go_enter Try.func126, Try.ntmps126
  have HL := Lib.hid (Lies.made w 182 #[.nilFunc, .nilFunc, .nilFunc, .nilFunc])
  go_wp2_with (refine wpList_store_row rfl 182 _ _ rfl w.heap.size #[fnV 133, fnV 134, fnV 135, fnV 136] rfl rfl _ _ HL.out (by kernel_rfl) rfl (by kernel_rfl) ?_)
  refine bodyPost_ret (results_cell_row rfl _ _ w.heap.size _ _ (0, 0) _ rfl (HL.out.row _) Try.underlying182 rfl (by kernel_rfl)) rfl ⟨rfl, ?_⟩
  (repeat' (first | (with_reducible first | exact Below.refl _ _ | assumption | refine Below.alloc ?_ ?_ _ | refine Below.setCell ?_ ?_ _ | refine below_row ?_ ?_ _ | refine Below.drew ?_ | refine below_drewN ?_ _ | refine Below.trans ?_ (Below.mono (by assumption) ?_)) | exact Nat.le_refl _ | omega | (simp; done) | (simp; omega) | exact Below.size (by assumption)))
set_option maxHeartbeats 4000000 in
set_option maxRecDepth 100000 in
theorem right_any (A : Option Addr) (c b off : Nat) (xs : List Iss) (w : World) (hA : 0 < xs.length → A = some ⟨b, off, none⟩) (hl : xs.length ≤ 1000) (hc : ∀ i (h : i < xs.length), IssC w b (off + i * 5) xs[i]) :
    Calls Try.prog 105 #[.slice A xs.length c] w fun e w' => e = .returned (.bool (rightB zeroI xs)) ∧ Below w.heap.size w w' := by
  have HC := Lib.hid hc; clear hc
  have HA := Lib.hid hA; clear hA
  go_enter Try.func105, Try.ntmps105
  go_wp2_with fail
  go_step3
  go_wp2_with fail
  go_step3
  go_wp2_with fail
  have LG0 := Lib.hid (Lies.made w 45 #[.int .i64 0, .int .i64 0, .int .u8 0, .slice none 0 0, .slice none 0 0])
  go_loopw [4, 12] (fun wrong i wr => ∃ (k : Nat) (bef : Iss) (vbi vbd : Value), wrong = .bool false ∧ k ≤ xs.length ∧ i = .int .i64 k ∧ Hid (rightB bef (xs.drop k) = rightB zeroI xs) ∧ (-1000 ≤ bef.l ∧ bef.l ≤ 1000) ∧ Below w.heap.size w wr ∧ Hid (Lies wr w.heap.size 45 #[.int .i64 bef.d, .int .i64 bef.l, .int .u8 bef.k, vbi, vbd])) (fun _ i _ => xs.length - (intOf i).toNat)
  case atStart => exact ⟨0, zeroI, .slice none 0 0, .slice none 0 0, rfl, by omega, rfl, Lib.hid rfl, by decide, by (repeat' (first | (with_reducible first | exact Below.refl _ _ | assumption | refine Below.alloc ?_ ?_ _ | refine Below.setCell ?_ ?_ _ | refine below_row ?_ ?_ _ | refine Below.drew ?_ | refine below_drewN ?_ _ | refine Below.trans ?_ (Below.mono (by assumption) ?_)) | exact Nat.le_refl _ | omega | (simp; done) | (simp; omega) | exact Below.size (by assumption))), LG0⟩
  case round =>
    obtain ⟨k, ⟨bd, bl, bk, bit, bdi⟩, vbi, vbd, rfl, hk, rfl, HG, hbl, hb, HB⟩ := hrel
    simp only at hbl HB
    have hz := hb.size
    by_cases hlt : k < xs.length
    · obtain rfl := HA.out (by omega)
      obtain ⟨vi, vd, q0, q1, q2, q3, q4, hkk, hi, hd, -⟩ := HC.out k hlt
      have hblk : b < w.heap.size := World.block_lt_of_cell? w _ q0
      have r0 := (hb.cell (p := ⟨b, off + k * 5, none⟩) hblk).trans q0
      have r1 := (hb.cell (p := ⟨b, off + k * 5 + 1, none⟩) hblk).trans q1
      have r2 := (hb.cell (p := ⟨b, off + k * 5 + 2, none⟩) hblk).trans q2
      have r3 := (hb.cell (p := ⟨b, off + k * 5 + 3, none⟩) hblk).trans q3
      have r4 := (hb.cell (p := ⟨b, off + k * 5 + 4, none⟩) hblk).trans q4
      clear q0 q1 q2 q3 q4
      have HI := Lib.hid hi
      have HD := Lib.hid hd
      obtain ⟨Ai, ci, -, -, rfl, -, -⟩ := hi
      obtain ⟨Ad, cd, -, -, rfl, -, -⟩ := hd
      have HX := Lib.hid (show rightB ⟨bd, bl, bk, bit, bdi⟩ (xs.drop k) = (metB ⟨bd, bl, bk, bit, bdi⟩ xs[k] && rightB xs[k] (xs.drop (k + 1))) by rw [List.drop_eq_getElem_cons hlt, rightB])
      generalize xs[k] = x at *
      obtain ⟨d, l, kk, it, di⟩ := x
      simp only at hkk HI HD r0 r1 r2 r3 r4
      generalize it.length = ni at *
      generalize di.length = nd at *
      have HGX := Lib.hid (HX.out.symm.trans HG.out)
      clear HX
      have HN := Lib.hid (fun W => isNamed_any #[.int .i64 bd, .int .i64 bl, .int .u8 bk, vbi, vbd] d l kk it di (.slice Ai ni ci) (.slice Ad nd cd) W hkk)
      have HO := Lib.hid (fun W => isInOrder_any bd bl bk bit bdi vbi vbd d l kk it di (.slice Ai ni ci) (.slice Ad nd cd) W hbl)
      have HM : Hid (∀ W, Below w.heap.size w W → Calls Try.prog 135 #[.agg #[.int .i64 bd, .int .i64 bl, .int .u8 bk, vbi, vbd], .agg #[.int .i64 d, .int .i64 l, .int .u8 kk, .slice Ai ni ci, .slice Ad nd cd]] W fun e w' => e = .returned (.bool (madeB ⟨d, l, kk, it, di⟩)) ∧ Below W.heap.size W w') := Lib.hid (fun W hW => isMade_any _ ⟨d, l, kk, it, di⟩ _ _ W (HI.out.after hW))
      have HE : Hid (∀ W, Below w.heap.size w W → Calls Try.prog 136 #[.agg #[.int .i64 bd, .int .i64 bl, .int .u8 bk, vbi, vbd], .agg #[.int .i64 d, .int .i64 l, .int .u8 kk, .slice Ai ni ci, .slice Ad nd cd]] W fun e w' => e = .returned (.bool (measuredB ⟨d, l, kk, it, di⟩)) ∧ Below W.heap.size W w') := Lib.hid (fun W hW => isMeasured_any _ ⟨d, l, kk, it, di⟩ _ _ W (HD.out.after hW))
      have hls : namedB ⟨d, l, kk, it, di⟩ = true → (-1000 ≤ l ∧ l ≤ 1000) := fun h => by unfold namedB inB at h; simp at h; omega
      have HLS := Lib.hid hls
      clear hls
      unfold metB at HGX
      generalize namedB ⟨d, l, kk, it, di⟩ = p1 at *
      generalize orderB ⟨bd, bl, bk, bit, bdi⟩ ⟨d, l, kk, it, di⟩ = p2 at *
      generalize madeB ⟨d, l, kk, it, di⟩ = p3 at *
      generalize measuredB ⟨d, l, kk, it, di⟩ = p4 at *
      go_wp2_with fail
      refine (demands_any _).mono ?_
      rintro e w1 ⟨rfl, hb1⟩
      have s1 := hb1.size; try simp only [World.size_alloc, World.size_setCell, World.size_drew, setRow_size] at s1
      have HX1 := Lib.hid ((Lies.made wr 45 #[.int .i64 d, .int .i64 l, .int .u8 kk, .slice Ai ni ci, .slice Ad nd cd]).after hb1)
      have HB1 := Lib.hid ((HB.out.alloc (.cells #[.int .i64 d, .int .i64 l, .int .u8 kk, .slice Ai ni ci, .slice Ad nd cd] 45)).after hb1)
      have hbw1 : Below w.heap.size w w1 := by (repeat' (first | (with_reducible first | exact Below.refl _ _ | assumption | refine Below.alloc ?_ ?_ _ | refine Below.setCell ?_ ?_ _ | refine below_row ?_ ?_ _ | refine Below.drew ?_ | refine below_drewN ?_ _ | refine Below.trans ?_ (Below.mono (by assumption) ?_)) | exact Nat.le_refl _ | omega | (simp; done) | (simp; omega) | exact Below.size (by assumption)))
      clear hb1
      have zX := HX1.out.lt
      have zB := HB1.out.lt
      have x0 := HX1.out.cell 0
      have x1 := HX1.out.cell 1
      have x2 := HX1.out.cell 2
      have x3 := HX1.out.cell 3
      have x4 := HX1.out.cell 4
      have b0 := HB1.out.cell 0
      have b1 := HB1.out.cell 1
      have b2 := HB1.out.cell 2
      have b3 := HB1.out.cell 3
      have b4 := HB1.out.cell 4
      have j0 : ∀ W, (Instr.index 182 (.agg #[.func (.func 133) #[] #[], .func (.func 134) #[] #[], .func (.func 135) #[] #[], .func (.func 136) #[] #[]]) (.int .i64 0)).run Try.prog W = .ok (.agg #[.func (.func 133) #[] #[]]) W := fun _ => by kernel_rfl
      have j1 : ∀ W, (Instr.index 182 (.agg #[.func (.func 133) #[] #[], .func (.func 134) #[] #[], .func (.func 135) #[] #[], .func (.func 136) #[] #[]]) (.int .i64 1)).run Try.prog W = .ok (.agg #[.func (.func 134) #[] #[]]) W := fun _ => by kernel_rfl
      have j2 : ∀ W, (Instr.index 182 (.agg #[.func (.func 133) #[] #[], .func (.func 134) #[] #[], .func (.func 135) #[] #[], .func (.func 136) #[] #[]]) (.int .i64 2)).run Try.prog W = .ok (.agg #[.func (.func 135) #[] #[]]) W := fun _ => by kernel_rfl
      have j3 : ∀ W, (Instr.index 182 (.agg #[.func (.func 133) #[] #[], .func (.func 134) #[] #[], .func (.func 135) #[] #[], .func (.func 136) #[] #[]]) (.int .i64 3)).run Try.prog W = .ok (.agg #[.func (.func 136) #[] #[]]) W := fun _ => by kernel_rfl
      unfold fnV
      go_wp2_with fail
      refine wp_loop_rounds 5 ?_
      rw [rounds_succ]
      go_wp2_with fail
      refine (HN.out _).mono ?_
      rintro e w2 ⟨rfl, hb2⟩
      have s2 := hb2.size; try simp only [World.size_alloc, World.size_setCell, World.size_drew, setRow_size] at s2
      clear x0 x1 x2 x3 x4 b0 b1 b2 b3 b4 zX zB
      replace HX1 := Lib.hid ((HX1.out.alloc (.cells #[.func (.func 133) #[] #[]] 181)).after hb2)
      replace HB1 := Lib.hid ((HB1.out.alloc (.cells #[.func (.func 133) #[] #[]] 181)).after hb2)
      have hbw2 : Below w.heap.size w w2 := by (repeat' (first | (with_reducible first | exact Below.refl _ _ | assumption | refine Below.alloc ?_ ?_ _ | refine Below.setCell ?_ ?_ _ | refine below_row ?_ ?_ _ | refine Below.drew ?_ | refine below_drewN ?_ _ | refine Below.trans ?_ (Below.mono (by assumption) ?_)) | exact Nat.le_refl _ | omega | (simp; done) | (simp; omega) | exact Below.size (by assumption)))
      clear hb2 hbw1
      have zX := HX1.out.lt
      have zB := HB1.out.lt
      have x0 := HX1.out.cell 0
      have x1 := HX1.out.cell 1
      have x2 := HX1.out.cell 2
      have x3 := HX1.out.cell 3
      have x4 := HX1.out.cell 4
      have b0 := HB1.out.cell 0
      have b1 := HB1.out.cell 1
      have b2 := HB1.out.cell 2
      have b3 := HB1.out.cell 3
      have b4 := HB1.out.cell 4
      cases p1
      · have HRF := Lib.hid HGX.out
        simp only [Bool.false_and, Bool.and_false, Bool.true_and] at HRF
        clear HGX HG
        go_wp2
        rw [Exit.noGoto_ret]
        go_ret
        exact ⟨ret_bool HRF.out, by (repeat' (first | (with_reducible first | exact Below.refl _ _ | assumption | refine Below.alloc ?_ ?_ _ | refine Below.setCell ?_ ?_ _ | refine below_row ?_ ?_ _ | refine Below.drew ?_ | refine below_drewN ?_ _ | refine Below.trans ?_ (Below.mono (by assumption) ?_)) | exact Nat.le_refl _ | omega | (simp; done) | (simp; omega) | exact Below.size (by assumption)))⟩
      go_wp2_with fail
      rw [rounds_succ]
      go_wp2_with fail
      refine (HO.out _).mono ?_
      rintro e w3 ⟨rfl, hb3⟩
      have s3 := hb3.size; try simp only [World.size_alloc, World.size_setCell, World.size_drew, setRow_size] at s3
      clear x0 x1 x2 x3 x4 b0 b1 b2 b3 b4 zX zB
      replace HX1 := Lib.hid ((HX1.out.alloc (.cells #[.func (.func 134) #[] #[]] 181)).after hb3)
      replace HB1 := Lib.hid ((HB1.out.alloc (.cells #[.func (.func 134) #[] #[]] 181)).after hb3)
      have hbw3 : Below w.heap.size w w3 := by (repeat' (first | (with_reducible first | exact Below.refl _ _ | assumption | refine Below.alloc ?_ ?_ _ | refine Below.setCell ?_ ?_ _ | refine below_row ?_ ?_ _ | refine Below.drew ?_ | refine below_drewN ?_ _ | refine Below.trans ?_ (Below.mono (by assumption) ?_)) | exact Nat.le_refl _ | omega | (simp; done) | (simp; omega) | exact Below.size (by assumption)))
      clear hb3 hbw2
      have zX := HX1.out.lt
      have zB := HB1.out.lt
      have x0 := HX1.out.cell 0
      have x1 := HX1.out.cell 1
      have x2 := HX1.out.cell 2
      have x3 := HX1.out.cell 3
      have x4 := HX1.out.cell 4
      have b0 := HB1.out.cell 0
      have b1 := HB1.out.cell 1
      have b2 := HB1.out.cell 2
      have b3 := HB1.out.cell 3
      have b4 := HB1.out.cell 4
      cases p2
      · have HRF := Lib.hid HGX.out
        simp only [Bool.false_and, Bool.and_false, Bool.true_and] at HRF
        clear HGX HG
        go_wp2
        rw [Exit.noGoto_ret]
        go_ret
        exact ⟨ret_bool HRF.out, by (repeat' (first | (with_reducible first | exact Below.refl _ _ | assumption | refine Below.alloc ?_ ?_ _ | refine Below.setCell ?_ ?_ _ | refine below_row ?_ ?_ _ | refine Below.drew ?_ | refine below_drewN ?_ _ | refine Below.trans ?_ (Below.mono (by assumption) ?_)) | exact Nat.le_refl _ | omega | (simp; done) | (simp; omega) | exact Below.size (by assumption)))⟩
      go_wp2_with fail
      rw [rounds_succ]
      go_wp2_with fail
      refine (HM.out _ (by (repeat' (first | (with_reducible first | exact Below.refl _ _ | assumption | refine Below.alloc ?_ ?_ _ | refine Below.setCell ?_ ?_ _ | refine below_row ?_ ?_ _ | refine Below.drew ?_ | refine below_drewN ?_ _ | refine Below.trans ?_ (Below.mono (by assumption) ?_)) | exact Nat.le_refl _ | omega | (simp; done) | (simp; omega) | exact Below.size (by assumption))))).mono ?_
      rintro e w4 ⟨rfl, hb4⟩
      have s4 := hb4.size; try simp only [World.size_alloc, World.size_setCell, World.size_drew, setRow_size] at s4
      clear x0 x1 x2 x3 x4 b0 b1 b2 b3 b4 zX zB
      replace HX1 := Lib.hid ((HX1.out.alloc (.cells #[.func (.func 135) #[] #[]] 181)).after hb4)
      replace HB1 := Lib.hid ((HB1.out.alloc (.cells #[.func (.func 135) #[] #[]] 181)).after hb4)
      have hbw4 : Below w.heap.size w w4 := by (repeat' (first | (with_reducible first | exact Below.refl _ _ | assumption | refine Below.alloc ?_ ?_ _ | refine Below.setCell ?_ ?_ _ | refine below_row ?_ ?_ _ | refine Below.drew ?_ | refine below_drewN ?_ _ | refine Below.trans ?_ (Below.mono (by assumption) ?_)) | exact Nat.le_refl _ | omega | (simp; done) | (simp; omega) | exact Below.size (by assumption)))
      clear hb4 hbw3
      have zX := HX1.out.lt
      have zB := HB1.out.lt
      have x0 := HX1.out.cell 0
      have x1 := HX1.out.cell 1
      have x2 := HX1.out.cell 2
      have x3 := HX1.out.cell 3
      have x4 := HX1.out.cell 4
      have b0 := HB1.out.cell 0
      have b1 := HB1.out.cell 1
      have b2 := HB1.out.cell 2
      have b3 := HB1.out.cell 3
      have b4 := HB1.out.cell 4
      cases p3
      · have HRF := Lib.hid HGX.out
        simp only [Bool.false_and, Bool.and_false, Bool.true_and] at HRF
        clear HGX HG
        go_wp2
        rw [Exit.noGoto_ret]
        go_ret
        exact ⟨ret_bool HRF.out, by (repeat' (first | (with_reducible first | exact Below.refl _ _ | assumption | refine Below.alloc ?_ ?_ _ | refine Below.setCell ?_ ?_ _ | refine below_row ?_ ?_ _ | refine Below.drew ?_ | refine below_drewN ?_ _ | refine Below.trans ?_ (Below.mono (by assumption) ?_)) | exact Nat.le_refl _ | omega | (simp; done) | (simp; omega) | exact Below.size (by assumption)))⟩
      go_wp2_with fail
      rw [rounds_succ]
      go_wp2_with fail
      refine (HE.out _ (by (repeat' (first | (with_reducible first | exact Below.refl _ _ | assumption | refine Below.alloc ?_ ?_ _ | refine Below.setCell ?_ ?_ _ | refine below_row ?_ ?_ _ | refine Below.drew ?_ | refine below_drewN ?_ _ | refine Below.trans ?_ (Below.mono (by assumption) ?_)) | exact Nat.le_refl _ | omega | (simp; done) | (simp; omega) | exact Below.size (by assumption))))).mono ?_
      rintro e w5 ⟨rfl, hb5⟩
      have s5 := hb5.size; try simp only [World.size_alloc, World.size_setCell, World.size_drew, setRow_size] at s5
      clear x0 x1 x2 x3 x4 b0 b1 b2 b3 b4 zX zB
      replace HX1 := Lib.hid ((HX1.out.alloc (.cells #[.func (.func 136) #[] #[]] 181)).after hb5)
      replace HB1 := Lib.hid ((HB1.out.alloc (.cells #[.func (.func 136) #[] #[]] 181)).after hb5)
      have hbw5 : Below w.heap.size w w5 := by (repeat' (first | (with_reducible first | exact Below.refl _ _ | assumption | refine Below.alloc ?_ ?_ _ | refine Below.setCell ?_ ?_ _ | refine below_row ?_ ?_ _ | refine Below.drew ?_ | refine below_drewN ?_ _ | refine Below.trans ?_ (Below.mono (by assumption) ?_)) | exact Nat.le_refl _ | omega | (simp; done) | (simp; omega) | exact Below.size (by assumption)))
      clear hb5 hbw4
      have zX := HX1.out.lt
      have zB := HB1.out.lt
      have x0 := HX1.out.cell 0
      have x1 := HX1.out.cell 1
      have x2 := HX1.out.cell 2
      have x3 := HX1.out.cell 3
      have x4 := HX1.out.cell 4
      have b0 := HB1.out.cell 0
      have b1 := HB1.out.cell 1
      have b2 := HB1.out.cell 2
      have b3 := HB1.out.cell 3
      have b4 := HB1.out.cell 4
      cases p4
      · have HRF := Lib.hid HGX.out
        simp only [Bool.false_and, Bool.and_false, Bool.true_and] at HRF
        clear HGX HG
        go_wp2
        rw [Exit.noGoto_ret]
        go_ret
        exact ⟨ret_bool HRF.out, by (repeat' (first | (with_reducible first | exact Below.refl _ _ | assumption | refine Below.alloc ?_ ?_ _ | refine Below.setCell ?_ ?_ _ | refine below_row ?_ ?_ _ | refine Below.drew ?_ | refine below_drewN ?_ _ | refine Below.trans ?_ (Below.mono (by assumption) ?_)) | exact Nat.le_refl _ | omega | (simp; done) | (simp; omega) | exact Below.size (by assumption)))⟩
      go_wp2_with fail
      rw [rounds_succ]
      have f0 := HB1.out.free 0
      have f1 := HB1.out.free 1
      have f2 := HB1.out.free 2
      have f3 := HB1.out.free 3
      have f4 := HB1.out.free 4
      have HRT := Lib.hid HGX.out
      simp only [Bool.true_and] at HRT
      clear HGX HG
      go_wp2_with fail
      go_roundw
      case rel =>
        refine ⟨k + 1, ⟨d, l, kk, it, di⟩, .slice Ai ni ci, .slice Ad nd cd, rfl, by omega, by go_num, HRT, HLS.out trivial, ?_, Lib.hid (((((HB1.out.store 0 _).store 1 _).store 2 _).store 3 _).store 4 _)⟩
        exact ((((hbw5.setCell (p := ⟨w.heap.size, 0, none⟩) (Nat.le_refl _) _).setCell (p := ⟨w.heap.size, 1, none⟩) (Nat.le_refl _) _).setCell (p := ⟨w.heap.size, 2, none⟩) (Nat.le_refl _) _).setCell (p := ⟨w.heap.size, 3, none⟩) (Nat.le_refl _) _).setCell (p := ⟨w.heap.size, 4, none⟩) (Nat.le_refl _) _
      case measure => simp [intOf]; omega
    · have hke : k = xs.length := by omega
      have HRF := Lib.hid HG.out
      rw [hke, List.drop_length, rightB] at HRF
      clear HG
      subst hke
      go_wp2
      rw [Exit.noGoto_ret]
      go_ret
      exact ⟨ret_bool HRF.out, by (repeat' (first | (with_reducible first | exact Below.refl _ _ | assumption | refine Below.alloc ?_ ?_ _ | refine Below.setCell ?_ ?_ _ | refine below_row ?_ ?_ _ | refine Below.drew ?_ | refine below_drewN ?_ _ | refine Below.trans ?_ (Below.mono (by assumption) ?_)) | exact Nat.le_refl _ | omega | (simp; done) | (simp; omega) | exact Below.size (by assumption)))⟩
end
end Go.Proofs.Ytkjfceajakhlfaa
