/- Numbers: cmp.Less, cmp.Compare, slices.Index, Contains, Max, BinarySearch of package slices; within and Index of the reference. -/
import Derived.Test.YtngaepgepcnhkaaH0
import Derived.IntWalk
namespace Go.Proofs.Ytngaepgepcnhkaa
set_option linter.unusedVariables false
set_option linter.unusedSimpArgs false
open Go.RowKit

set_option maxHeartbeats 400000 in
theorem isNaN_any (a : Int) (w : World) : Calls Try.prog 129 #[.int .i64 a] w fun e w' => e = .returned (.bool false) ∧ w = w' := by
  go_enter Try.func129, Try.ntmps129
  go_wp2
  go_ret
  exact ⟨ret_bool (by simp), rfl⟩
set_option maxHeartbeats 400000 in
theorem sNaN_any (a : Int) (w : World) : Calls Try.prog 132 #[.int .i64 a] w fun e w' => e = .returned (.bool false) ∧ w = w' := by
  go_enter Try.func132, Try.ntmps132
  go_wp2
  go_ret
  exact ⟨ret_bool (by simp), rfl⟩
set_option maxHeartbeats 400000 in
theorem cmpLess_any (a b : Int) (w : World) : Calls Try.prog 131 #[.int .i64 a, .int .i64 b] w fun e w' => e = .returned (.bool (decide (a < b))) ∧ w = w' := by
  go_enter Try.func131, Try.ntmps131
  go_wp2_with (first | (go_at_call 129; refine (isNaN_any _ _).mono ?_; rintro e w' ⟨rfl, rfl⟩))
  go_ret
  exact ⟨rfl, rfl⟩
def cmpI (a b : Int) : Int := if a < b then -1 else if b < a then 1 else 0
set_option maxHeartbeats 400000 in
theorem cmpCompare_any (a b : Int) (w : World) : Calls Try.prog 114 #[.int .i64 a, .int .i64 b] w fun e w' => e = .returned (.int .i64 (cmpI a b)) ∧ w = w' := by
  unfold cmpI
  by_cases h1 : a < b
  · rw [if_pos h1]
    go_enter Try.func114, Try.ntmps114
    go_wp2_with (first | (go_at_call 129; refine (isNaN_any _ _).mono ?_; rintro e w' ⟨rfl, rfl⟩))
    go_ret
    exact ⟨rfl, rfl⟩
  · rw [if_neg h1]
    by_cases h2 : b < a
    · rw [if_pos h2]
      go_enter Try.func114, Try.ntmps114
      go_wp2_with (first | (go_at_call 129; refine (isNaN_any _ _).mono ?_; rintro e w' ⟨rfl, rfl⟩))
      go_ret
      exact ⟨rfl, rfl⟩
    · rw [if_neg h2]
      go_enter Try.func114, Try.ntmps114
      go_wp2_with (first | (go_at_call 129; refine (isNaN_any _ _).mono ?_; rintro e w' ⟨rfl, rfl⟩))
      go_ret
      exact ⟨rfl, rfl⟩

/-- The place of a number in a list: -1 if it is not there. -/
def idxL : List Int → Int → Int
  | [], _ => -1
  | x :: r, n => if x = n then 0 else if idxL r n < 0 then -1 else idxL r n + 1
theorem idxL_ge (l : List Int) (n : Int) : -1 ≤ idxL l n := by
  induction l with
  | nil => simp [idxL]
  | cons x r ih => rw [idxL]; split; · omega
                   · split <;> omega
theorem idxL_lt (l : List Int) (n : Int) : idxL l n < l.length := by
  induction l with
  | nil => simp [idxL]
  | cons x r ih => rw [idxL, List.length_cons]; split; · omega
                   · split <;> omega
theorem idxL_at {l : List Int} {n : Int} {k : Nat} (hk : k < l.length) (h : l[k] = n) (hb : ∀ j (hj : j < k), l[j] ≠ n) : idxL l n = k := by
  induction l generalizing k with
  | nil => simp at hk
  | cons x r ih =>
    rw [idxL]
    cases k with
    | zero => simp at h; simp [h]
    | succ k =>
      have h0 := hb 0 (by omega)
      simp at h0
      rw [if_neg h0]
      have := ih (k := k) (by simpa using hk) (by simpa using h) (fun j hj => by simpa using hb (j + 1) (by omega))
      rw [this, if_neg (by omega)]
      omega
theorem idxL_no {l : List Int} {n : Int} (hb : ∀ j (hj : j < l.length), l[j] ≠ n) : idxL l n = -1 := by
  induction l with
  | nil => rfl
  | cons x r ih =>
    have h0 := hb 0 (by simp)
    simp at h0
    rw [idxL, if_neg h0, ih (fun j hj => hb (j + 1) (Nat.succ_lt_succ hj))]
    rfl
theorem idxL_mem {l : List Int} {n : Int} : 0 ≤ idxL l n ↔ n ∈ l := by
  induction l with
  | nil => simp [idxL]
  | cons x r ih =>
    rw [idxL]
    by_cases h : x = n
    · simp [h]
    · rw [if_neg h]
      have : n ∈ x :: r ↔ n ∈ r := by simp [List.mem_cons, Ne.symm h]
      rw [this, ← ih]
      split <;> omega

set_option maxHeartbeats 1000000 in
theorem sIndex_any (A : Option Addr) (c b off : Nat) (l : List Int) (n : Int) (w : World) (hA : 0 < l.length → A = some ⟨b, off, none⟩) (hl : l.length ≤ 1000) (hc : ∀ i (h : i < l.length), w.cell? ⟨b, off + i, none⟩ = some (.int .i64 (l[i]))) :
    Calls Try.prog 128 #[.slice A l.length c, .int .i64 n] w fun e w' => e = .returned (.int .i64 (idxL l n)) ∧ w = w' := by
  have HC := Lib.hid hc; clear hc
  have HA := Lib.hid hA; clear hA
  go_enter Try.func128, Try.ntmps128
  go_wp2
  go_loop [8] (fun i => ∃ k : Nat, k ≤ l.length ∧ i = .int .i64 k ∧ Hid (∀ j (_ : j < k) (h : j < l.length), l[j] ≠ n)) (fun i => l.length - (intOf i).toNat)
  case atStart => exact ⟨0, by omega, rfl, Lib.hid (fun j hj => by omega)⟩
  case round =>
    obtain ⟨k, hk, rfl, hj⟩ := hrel
    by_cases hlt : k < l.length
    · obtain rfl := HA.out (by omega)
      have r0 := HC.out k hlt
      obtain ⟨x, hx⟩ : ∃ x, l[k] = x := ⟨_, rfl⟩
      have Hx := Lib.hid hx
      rw [hx] at r0
      clear hx
      by_cases he : x = n
      · subst he
        have HR := Lib.hid (idxL_at hlt Hx.out (fun j hj' => hj.out j hj' (by omega)))
        go_wp2
        go_ret
        exact ⟨ret_int HR.out.symm, rfl⟩
      · have he' : (n == x) = false := by rw [beq_eq_false_iff_ne]; exact fun h => he h.symm
        go_wp2
        go_round
        case rel =>
          refine ⟨k + 1, by omega, by go_num, Lib.hid (fun j hj' h => ?_)⟩
          by_cases e : j = k
          · subst e; rw [Hx.out]; exact he
          · exact hj.out j (by omega) h
        case measure => simp [intOf]; omega
    · have HR := Lib.hid (idxL_no fun j h => hj.out j (by omega) h)
      go_wp2
      go_ret
      exact ⟨ret_int HR.out.symm, rfl⟩
set_option maxHeartbeats 1000000 in
theorem rIndex_any (A : Option Addr) (c b off : Nat) (l : List Int) (n : Int) (w : World) (hA : 0 < l.length → A = some ⟨b, off, none⟩) (hl : l.length ≤ 1000) (hc : ∀ i (h : i < l.length), w.cell? ⟨b, off + i, none⟩ = some (.int .i64 (l[i]))) :
    Calls Try.prog 60 #[.slice A l.length c, .int .i64 n] w fun e w' => e = .returned (.int .i64 (idxL l n)) ∧ w = w' := by
  have HC := Lib.hid hc; clear hc
  have HA := Lib.hid hA; clear hA
  go_enter Try.func60, Try.ntmps60
  go_wp2
  go_loop [5] (fun i => ∃ k : Nat, k ≤ l.length ∧ i = .int .i64 k ∧ Hid (∀ j (_ : j < k) (h : j < l.length), l[j] ≠ n)) (fun i => l.length - (intOf i).toNat)
  case atStart => exact ⟨0, by omega, rfl, Lib.hid (fun j hj => by omega)⟩
  case round =>
    obtain ⟨k, hk, rfl, hj⟩ := hrel
    by_cases hlt : k < l.length
    · obtain rfl := HA.out (by omega)
      have r0 := HC.out k hlt
      obtain ⟨x, hx⟩ : ∃ x, l[k] = x := ⟨_, rfl⟩
      have Hx := Lib.hid hx
      rw [hx] at r0
      clear hx
      by_cases he : x = n
      · subst he
        have HR := Lib.hid (idxL_at hlt Hx.out (fun j hj' => hj.out j hj' (by omega)))
        go_wp2
        go_ret
        exact ⟨ret_int HR.out.symm, rfl⟩
      · have he' : (x == n) = false := by rw [beq_eq_false_iff_ne]; exact he
        go_wp2
        go_round
        case rel =>
          refine ⟨k + 1, by omega, by go_num, Lib.hid (fun j hj' h => ?_)⟩
          by_cases e : j = k
          · subst e; rw [Hx.out]; exact he
          · exact hj.out j (by omega) h
        case measure => simp [intOf]; omega
    · have HR := Lib.hid (idxL_no fun j h => hj.out j (by omega) h)
      go_wp2
      go_ret
      exact ⟨ret_int HR.out.symm, rfl⟩
set_option maxHeartbeats 400000 in
theorem sContains_any (A : Option Addr) (c b off : Nat) (l : List Int) (n : Int) (w : World) (hA : 0 < l.length → A = some ⟨b, off, none⟩) (hl : l.length ≤ 1000) (hc : ∀ i (h : i < l.length), w.cell? ⟨b, off + i, none⟩ = some (.int .i64 (l[i]))) :
    Calls Try.prog 109 #[.slice A l.length c, .int .i64 n] w fun e w' => e = .returned (.bool (decide (n ∈ l))) ∧ w = w' := by
  have HI := Lib.hid (sIndex_any A c b off l n w hA hl hc)
  have HR : Hid (decide (0 ≤ idxL l n) = decide (n ∈ l)) := Lib.hid (by rw [decide_eq_decide]; exact idxL_mem)
  clear hc hA
  generalize idxL l n = r at *
  go_enter Try.func109, Try.ntmps109
  go_wp2_with fail
  refine HI.out.mono ?_
  rintro e w' ⟨rfl, rfl⟩
  go_wp2
  go_ret
  exact ⟨ret_bool HR.out, rfl⟩
set_option maxHeartbeats 400000 in
theorem rwithin_any (a lo hi : Int) (w : World) : Calls Try.prog 115 #[.int .i64 a, .int .i64 lo, .int .i64 hi] w fun e w' => e = .returned (.bool (inB lo hi a)) ∧ w = w' := by
  unfold inB
  by_cases h1 : lo ≤ a <;> by_cases h2 : a ≤ hi
  all_goals
    go_enter Try.func115, Try.ntmps115
    go_wp2
    go_ret
    exact ⟨ret_bool (by simp [h1, h2]), rfl⟩
end Go.Proofs.Ytngaepgepcnhkaa
