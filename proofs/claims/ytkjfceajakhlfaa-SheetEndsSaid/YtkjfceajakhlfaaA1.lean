/- The walks of package size: within. -/
import Derived.Test.YtkjfceajakhlfaaBase
namespace Go.Proofs.Ytkjfceajakhlfaa
set_option linter.unusedVariables false
set_option linter.unusedSimpArgs false
open Go.RowKit

/-- All numbers are from lo to hi. -/
def allIn (lo hi : Int) (zs : List Int) : Bool := zs.all fun n => decide (lo ≤ n ∧ n ≤ hi)

theorem allIn_no {lo hi : Int} {zs : List Int} {k : Nat} (h : k < zs.length) (hn : zs[k] < lo ∨ hi < zs[k]) : allIn lo hi zs = false := by
  unfold allIn
  rw [List.all_eq_false]
  exact ⟨zs[k], List.getElem_mem h, by simp; omega⟩
theorem allIn_yes {lo hi : Int} {zs : List Int} (h : ∀ k (hk : k < zs.length), lo ≤ zs[k] ∧ zs[k] ≤ hi) : allIn lo hi zs = true := by
  unfold allIn
  rw [List.all_eq_true]
  intro x hx
  obtain ⟨k, hk, rfl⟩ := List.getElem_of_mem hx
  simpa using h k hk

set_option maxHeartbeats 400000 in
theorem within_any (lo hi : Int) (b off : Nat) (zs : List Int) (c : Nat) (w : World) (hl : zs.length ≤ 1000) (hc : ∀ i (h : i < zs.length), w.cell? ⟨b, off + i, none⟩ = some (.int .i64 zs[i])) :
    Calls Try.prog 103 #[.agg #[.int .i64 lo, .int .i64 hi], .slice (some ⟨b, off, none⟩) zs.length c] w fun e w' => e = .returned (.bool (allIn lo hi zs)) ∧ Below w.heap.size w w' := by
  have HC := Lib.hid hc; clear hc
  go_enter Try.func103, Try.ntmps103
  go_wp2
  go_loop [9] (fun i => ∃ k : Nat, k ≤ zs.length ∧ i = .int .i64 k ∧ Hid (∀ j (hj : j < k) (h : j < zs.length), lo ≤ zs[j] ∧ zs[j] ≤ hi)) (fun i => zs.length - (intOf i).toNat)
  case atStart => exact ⟨0, by omega, rfl, Lib.hid (fun j hj => by omega)⟩
  case round =>
    obtain ⟨k, hk, rfl, hj⟩ := hrel
    by_cases hlt : k < zs.length
    · have hcell := HC.out k hlt
      have hb : b < w.heap.size := World.block_lt_of_cell? w _ hcell
      generalize hz : zs[k] = z at *
      have Hz := Lib.hid hz; clear hz
      by_cases h1 : z < lo
      · go_wp2
        go_ret
        exact ⟨ret_bool (allIn_no hlt (by rw [Hz.out]; omega)).symm, (Below.refl _ _).alloc (Nat.le_refl _) _⟩
      · by_cases h2 : hi < z
        · go_wp2
          go_ret
          exact ⟨ret_bool (allIn_no hlt (by rw [Hz.out]; omega)).symm, (Below.refl _ _).alloc (Nat.le_refl _) _⟩
        · go_wp2
          go_round
          case rel =>
            refine ⟨k + 1, by omega, by go_num, Lib.hid (fun j hj' h => ?_)⟩
            by_cases e : j = k
            · subst e; rw [Hz.out]; omega
            · exact hj.out j (by omega) h
          case measure => simp [intOf]; omega
    · go_wp2
      go_ret
      exact ⟨ret_bool (allIn_yes fun j h => hj.out j (by omega) h).symm, (Below.refl _ _).alloc (Nat.le_refl _) _⟩

theorem within_1 (lo hi x : Int) (b : Nat) (c : Nat) (w : World) (h0 : w.cell? ⟨b, 0, none⟩ = some (.int .i64 x)) :
    Calls Try.prog 103 #[.agg #[.int .i64 lo, .int .i64 hi], .slice (some ⟨b, 0, none⟩) 1 c] w fun e w' => e = .returned (.bool (allIn lo hi [x])) ∧ Below w.heap.size w w' :=
  within_any lo hi b 0 [x] c w (by simp) (fun i h => by
    match i, h with
    | 0, _ => simpa using h0)
theorem within_2 (lo hi x y : Int) (b : Nat) (c : Nat) (w : World) (h0 : w.cell? ⟨b, 0, none⟩ = some (.int .i64 x)) (h1 : w.cell? ⟨b, 1, none⟩ = some (.int .i64 y)) :
    Calls Try.prog 103 #[.agg #[.int .i64 lo, .int .i64 hi], .slice (some ⟨b, 0, none⟩) 2 c] w fun e w' => e = .returned (.bool (allIn lo hi [x, y])) ∧ Below w.heap.size w w' :=
  within_any lo hi b 0 [x, y] c w (by simp) (fun i h => by
    match i, h with
    | 0, _ => simpa using h0
    | 1, _ => simpa using h1)
theorem within_3 (lo hi x y z : Int) (b : Nat) (c : Nat) (w : World) (h0 : w.cell? ⟨b, 0, none⟩ = some (.int .i64 x)) (h1 : w.cell? ⟨b, 1, none⟩ = some (.int .i64 y)) (h2 : w.cell? ⟨b, 2, none⟩ = some (.int .i64 z)) :
    Calls Try.prog 103 #[.agg #[.int .i64 lo, .int .i64 hi], .slice (some ⟨b, 0, none⟩) 3 c] w fun e w' => e = .returned (.bool (allIn lo hi [x, y, z])) ∧ Below w.heap.size w w' :=
  within_any lo hi b 0 [x, y, z] c w (by simp) (fun i h => by
    match i, h with
    | 0, _ => simpa using h0
    | 1, _ => simpa using h1
    | 2, _ => simpa using h2)

/-- A valid size. -/
def okD (n l u : Int) : Bool := decide (0 ≤ n ∧ n ≤ 1000000000 ∧ 0 ≤ l ∧ l ≤ u ∧ u ≤ 1000000000)
theorem okD_iff {n l u : Int} : okD n l u = true ↔ (0 ≤ n ∧ n ≤ 1000000000 ∧ 0 ≤ l ∧ l ≤ u ∧ u ≤ 1000000000) := by simp [okD]
theorem okD_no {n l u : Int} : okD n l u = false ↔ ¬ (0 ≤ n ∧ n ≤ 1000000000 ∧ 0 ≤ l ∧ l ≤ u ∧ u ≤ 1000000000) := by simp [okD]

theorem okD_in {n l u : Int} (h : okD n l u = true) : allIn 0 1000000000 [n, l, u] = true := by
  have := okD_iff.1 h
  simp [allIn]; omega
theorem okD_out {n l u : Int} (h : okD n l u = false) : allIn 0 1000000000 [n, l, u] = false ∨ (allIn 0 1000000000 [n, l, u] = true ∧ u < l) := by
  by_cases hA : allIn 0 1000000000 [n, l, u] = true
  · refine .inr ⟨hA, ?_⟩
    have h1 := okD_no.1 h
    simp [allIn] at hA
    omega
  · exact .inl (by simpa using hA)

set_option maxHeartbeats 400000 in
theorem Check_ok (n l u : Int) (w : World) (h : okD n l u = true) :
    Calls Try.prog 63 #[.agg #[.int .i64 n, .int .i64 l, .int .i64 u]] w fun e w' => e = .returned (.int .i64 0) ∧ Below w.heap.size w w' := by
  have hA := okD_in h
  have hlu : l ≤ u := (okD_iff.1 h).2.2.2.1
  clear h
  go_enter Try.func63, Try.ntmps63
  go_wp2_with fail
  refine (within_3 _ _ n l u _ _ _ (by simp) (by simp) (by simp)).mono ?_
  rintro e w1 ⟨rfl, hb⟩
  obtain ⟨hc, hf⟩ := bcell hb
  go_wp2
  go_ret
  exact ⟨rfl, (((Below.refl _ _).alloc (Nat.le_refl _) _).alloc (by simp) _).trans (hb.mono (by simp; omega))⟩

set_option maxHeartbeats 400000 in
theorem Check_no (n l u : Int) (w : World) (h : okD n l u = false) :
    Calls Try.prog 63 #[.agg #[.int .i64 n, .int .i64 l, .int .i64 u]] w fun e w' => e = .returned (.int .i64 10) ∧ Below w.heap.size w w' := by
  rcases okD_out h with hA | ⟨hA, hlu⟩
  all_goals
    clear h
    go_enter Try.func63, Try.ntmps63
    go_wp2_with fail
    refine (within_3 _ _ n l u _ _ _ (by simp) (by simp) (by simp)).mono ?_
    rintro e w1 ⟨rfl, hb⟩
    obtain ⟨hc, hf⟩ := bcell hb
    go_wp2
    go_ret
    exact ⟨rfl, (((Below.refl _ _).alloc (Nat.le_refl _) _).alloc (by simp) _).trans (hb.mono (by simp; omega))⟩

/-- What Check returns. -/
def chk (n l u : Int) : Int := if okD n l u = true then 0 else 10
theorem Check_any (n l u : Int) (w : World) :
    Calls Try.prog 63 #[.agg #[.int .i64 n, .int .i64 l, .int .i64 u]] w fun e w' => e = .returned (.int .i64 (chk n l u)) ∧ Below w.heap.size w w' := by
  unfold chk
  by_cases h : okD n l u = true
  · rw [if_pos h]; exact Check_ok n l u w h
  · rw [if_neg h]; exact Check_no n l u w (by simpa using h)

end Go.Proofs.Ytkjfceajakhlfaa
