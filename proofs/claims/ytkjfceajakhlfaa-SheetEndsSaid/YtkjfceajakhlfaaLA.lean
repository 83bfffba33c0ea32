/- H0: Registers, as lists, and in memory. Nothing of the walks. J1: Numbers: cmp.Less, cmp.Compare, slices.Index, Contains, Max, BinarySearch of package slices; within and Index of the reference. J2: slices.Max, slices.BinarySearch over numbers. J3: The issues of a drawing: the comparison, slices.BinarySearchFunc over issues, issuesOf. JA: Rows that a call owns: numbers, items, sizes, issues. -/
import Derived.Test.YtkjfceajakhlfaaA0
import Derived.Test.YtkjfceajakhlfaaA1
import Derived.IntWalk
import Derived.Deep.AppendLies
import Derived.Laws.AppendOwnNone
namespace Go.Proofs.Ytkjfceajakhlfaa
set_option linter.unusedVariables false
set_option linter.unusedSimpArgs false
section
open Go.RowKit

/-- An issue: drawing, letter, kind, items, sizes. -/
structure Iss where
  d : Int
  l : Int
  k : Int
  items : List (Int × Int)
  dims : List D3

def inB (lo hi n : Int) : Bool := decide (lo ≤ n ∧ n ≤ hi)
theorem in1B (lo hi n : Int) : allIn lo hi [n] = inB lo hi n := by simp [allIn, inB]
def namedB (x : Iss) : Bool := inB 1 9999 x.d && inB 1 8 x.l && inB 1 3 x.k
def orderB (b x : Iss) : Bool := if x.d = b.d then decide (x.l = b.l + 1) && decide (x.k = b.k) else decide (b.d < x.d) && decide (x.l = 1)
/-- Items are valid, behind an item of a drawing 'last'. -/
def itemsB (d : Int) : Int → List (Int × Int) → Bool
  | _, [] => true
  | last, it :: r => if it.1 = d ∨ it.1 ≤ last ∨ ¬ (1 ≤ it.2 ∧ it.2 ≤ 20) then false else itemsB d it.1 r
def madeB (x : Iss) : Bool := if x.k = 1 then inB 1 8 x.items.length && itemsB x.d 0 x.items else decide (x.items.length = 0)
def measuredB (x : Iss) : Bool := if x.k = 1 then decide (x.dims.length = 0) else decide (x.dims.length ≤ 4) && !badD0 x.dims
  where badD0 (ds : List D3) : Bool := ds.any fun d => !okD d.1 d.2.1 d.2.2
def metB (b x : Iss) : Bool := namedB x && orderB b x && madeB x && measuredB x
def rightB : Iss → List Iss → Bool
  | _, [] => true
  | b, x :: r => metB b x && rightB x r
def zeroI : Iss := ⟨0, 0, 0, [], []⟩
def numbersL (xs : List Iss) : List Int := (xs.filter fun x => decide (x.l = 1)).map (·.d)

/-- A list of numbers in memory. -/
def IntsAt (w : World) (v : Value) (l : List Int) : Prop :=
  ∃ A c b off, v = .slice A l.length c ∧ (0 < l.length → A = some ⟨b, off, none⟩) ∧ ∀ i (h : i < l.length), w.cell? ⟨b, off + i, none⟩ = some (.int .i64 l[i])
def ItemsAt (w : World) (v : Value) (l : List (Int × Int)) : Prop :=
  ∃ A c b off, v = .slice A l.length c ∧ (0 < l.length → A = some ⟨b, off, none⟩) ∧ ∀ i (h : i < l.length), w.cell? ⟨b, off + i * 2, none⟩ = some (.int .i64 l[i].1) ∧ w.cell? ⟨b, off + i * 2 + 1, none⟩ = some (.int .i64 l[i].2)
def DimsAt (w : World) (v : Value) (l : List D3) : Prop :=
  ∃ A c b off, v = .slice A l.length c ∧ (0 < l.length → A = some ⟨b, off, none⟩) ∧ cellsD w b off l
/-- A nil slice has no room. -/
def NilOk (v : Value) : Prop := ∀ n c, v = .slice none n c → c = 0
/-- An issue as a value. -/
def IssV (w : World) (v : Value) (x : Iss) : Prop := ∃ vi vd, v = .agg #[.int .i64 x.d, .int .i64 x.l, .int .u8 x.k, vi, vd] ∧ (0 ≤ x.k ∧ x.k ≤ 255) ∧ ItemsAt w vi x.items ∧ DimsAt w vd x.dims
/-- An issue in five cells. -/
def IssC (w : World) (b o : Nat) (x : Iss) : Prop := ∃ vi vd, w.cell? ⟨b, o, none⟩ = some (.int .i64 x.d) ∧ w.cell? ⟨b, o + 1, none⟩ = some (.int .i64 x.l) ∧ w.cell? ⟨b, o + 2, none⟩ = some (.int .u8 x.k) ∧
  w.cell? ⟨b, o + 3, none⟩ = some vi ∧ w.cell? ⟨b, o + 4, none⟩ = some vd ∧ (0 ≤ x.k ∧ x.k ≤ 255) ∧ ItemsAt w vi x.items ∧ DimsAt w vd x.dims ∧ NilOk vi ∧ NilOk vd
def IssuesAt (w : World) (v : Value) (xs : List Iss) : Prop :=
  ∃ A c b off, v = .slice A xs.length c ∧ (0 < xs.length → A = some ⟨b, off, none⟩) ∧ ∀ i (h : i < xs.length), IssC w b (off + i * 5) xs[i]

theorem cell_keep {w w' : World} (hb : Below w.heap.size w w') {p : Addr} {v : Value} (h : w.cell? p = some v) : w'.cell? p = some v := (hb.cell (World.block_lt_of_cell? w _ h)).trans h
theorem IntsAt.after {w w' : World} {v : Value} {l : List Int} (h : IntsAt w v l) (hb : Below w.heap.size w w') : IntsAt w' v l := by
  obtain ⟨A, c, b, off, hv, hA, hc⟩ := h
  exact ⟨A, c, b, off, hv, hA, fun i hi => cell_keep hb (hc i hi)⟩
theorem ItemsAt.after {w w' : World} {v : Value} {l : List (Int × Int)} (h : ItemsAt w v l) (hb : Below w.heap.size w w') : ItemsAt w' v l := by
  obtain ⟨A, c, b, off, hv, hA, hc⟩ := h
  exact ⟨A, c, b, off, hv, hA, fun i hi => ⟨cell_keep hb (hc i hi).1, cell_keep hb (hc i hi).2⟩⟩
theorem DimsAt.after {w w' : World} {v : Value} {l : List D3} (h : DimsAt w v l) (hb : Below w.heap.size w w') : DimsAt w' v l := by
  obtain ⟨A, c, b, off, hv, hA, hc⟩ := h
  exact ⟨A, c, b, off, hv, hA, fun i hi => ⟨cell_keep hb (hc i hi).1, cell_keep hb (hc i hi).2.1, cell_keep hb (hc i hi).2.2⟩⟩
theorem IssV.after {w w' : World} {v : Value} {x : Iss} (h : IssV w v x) (hb : Below w.heap.size w w') : IssV w' v x := by
  obtain ⟨vi, vd, hv, hk, h1, h2⟩ := h
  exact ⟨vi, vd, hv, hk, h1.after hb, h2.after hb⟩
theorem IssC.after {w w' : World} {b o : Nat} {x : Iss} (h : IssC w b o x) (hb : Below w.heap.size w w') : IssC w' b o x := by
  obtain ⟨vi, vd, h0, h1, h2, h3, h4, hk, h5, h6, h7⟩ := h
  exact ⟨vi, vd, cell_keep hb h0, cell_keep hb h1, cell_keep hb h2, cell_keep hb h3, cell_keep hb h4, hk, h5.after hb, h6.after hb, h7⟩
theorem IssuesAt.after {w w' : World} {v : Value} {xs : List Iss} (h : IssuesAt w v xs) (hb : Below w.heap.size w w') : IssuesAt w' v xs := by
  obtain ⟨A, c, b, off, hv, hA, hc⟩ := h
  exact ⟨A, c, b, off, hv, hA, fun i hi => (hc i hi).after hb⟩

theorem itemsB_step {d last : Int} {l : List (Int × Int)} {k : Nat} (h : k < l.length) (h1 : ¬ l[k].1 = d) (h2 : ¬ l[k].1 ≤ last) (h3 : 1 ≤ l[k].2 ∧ l[k].2 ≤ 20) : itemsB d last (l.drop k) = itemsB d l[k].1 (l.drop (k + 1)) := by
  rw [List.drop_eq_getElem_cons h, itemsB, if_neg]
  rintro (h' | h' | h')
  · exact h1 h'
  · exact h2 h'
  · exact h' h3
theorem itemsB_stop {d last : Int} {l : List (Int × Int)} {k : Nat} (h : k < l.length) (h1 : l[k].1 = d ∨ l[k].1 ≤ last ∨ ¬ (1 ≤ l[k].2 ∧ l[k].2 ≤ 20)) : itemsB d last (l.drop k) = false := by
  rw [List.drop_eq_getElem_cons h, itemsB, if_pos h1]
end
section
open Go.RowKit

set_option maxHeartbeats 400000 in
theorem isNaN_any (a : Int) (w : World) : Calls Try.prog 129 #[.int .i64 a] w fun e w' => e = .returned (.bool false) ∧ w = w' := by
  go_enter Try.func129, Try.ntmps129
  go_wp2
  go_ret
  exact ⟨ret_bool (by simp), rfl⟩
set_option maxHeartbeats 400000 in
theorem sNaN_any (a : Int) (w : World) : Calls Try.prog 132 #[.int .i64 a] w fun e w' => e = .returned (.bool false) ∧ w = w' := by
  go_enter Try.func132, Try.ntmps132
  go_wp2
  go_ret
  exact ⟨ret_bool (by simp), rfl⟩
set_option maxHeartbeats 400000 in
theorem cmpLess_any (a b : Int) (w : World) : Calls Try.prog 131 #[.int .i64 a, .int .i64 b] w fun e w' => e = .returned (.bool (decide (a < b))) ∧ w = w' := by
  go_enter Try.func131, Try.ntmps131
  go_wp2_with (first | (go_at_call 129; refine (isNaN_any _ _).mono ?_; rintro e w' ⟨rfl, rfl⟩))
  go_ret
  exact ⟨rfl, rfl⟩
def cmpI (a b : Int) : Int := if a < b then -1 else if b < a then 1 else 0
set_option maxHeartbeats 400000 in
theorem cmpCompare_any (a b : Int) (w : World) : Calls Try.prog 114 #[.int .i64 a, .int .i64 b] w fun e w' => e = .returned (.int .i64 (cmpI a b)) ∧ w = w' := by
  unfold cmpI
  by_cases h1 : a < b
  · rw [if_pos h1]
    go_enter Try.func114, Try.ntmps114
    go_wp2_with (first | (go_at_call 129; refine (isNaN_any _ _).mono ?_; rintro e w' ⟨rfl, rfl⟩))
    go_ret
    exact ⟨rfl, rfl⟩
  · rw [if_neg h1]
    by_cases h2 : b < a
    · rw [if_pos h2]
      go_enter Try.func114, Try.ntmps114
      go_wp2_with (first | (go_at_call 129; refine (isNaN_any _ _).mono ?_; rintro e w' ⟨rfl, rfl⟩))
      go_ret
      exact ⟨rfl, rfl⟩
    · rw [if_neg h2]
      go_enter Try.func114, Try.ntmps114
      go_wp2_with (first | (go_at_call 129; refine (isNaN_any _ _).mono ?_; rintro e w' ⟨rfl, rfl⟩))
      go_ret
      exact ⟨rfl, rfl⟩

/-- The place of a number in a list: -1 if it is not there. -/
def idxL : List Int → Int → Int
  | [], _ => -1
  | x :: r, n => if x = n then 0 else if idxL r n < 0 then -1 else idxL r n + 1
theorem idxL_ge (l : List Int) (n : Int) : -1 ≤ idxL l n := by
  induction l with
  | nil => simp [idxL]
  | cons x r ih => rw [idxL]; split; · omega
                   · split <;> omega
theorem idxL_lt (l : List Int) (n : Int) : idxL l n < l.length := by
  induction l with
  | nil => simp [idxL]
  | cons x r ih => rw [idxL, List.length_cons]; split; · omega
                   · split <;> omega
theorem idxL_at {l : List Int} {n : Int} {k : Nat} (hk : k < l.length) (h : l[k] = n) (hb : ∀ j (hj : j < k), l[j] ≠ n) : idxL l n = k := by
  induction l generalizing k with
  | nil => simp at hk
  | cons x r ih =>
    rw [idxL]
    cases k with
    | zero => simp at h; simp [h]
    | succ k =>
      have h0 := hb 0 (by omega)
      simp at h0
      rw [if_neg h0]
      have := ih (k := k) (by simpa using hk) (by simpa using h) (fun j hj => by simpa using hb (j + 1) (by omega))
      rw [this, if_neg (by omega)]
      omega
theorem idxL_no {l : List Int} {n : Int} (hb : ∀ j (hj : j < l.length), l[j] ≠ n) : idxL l n = -1 := by
  induction l with
  | nil => rfl
  | cons x r ih =>
    have h0 := hb 0 (by simp)
    simp at h0
    rw [idxL, if_neg h0, ih (fun j hj => hb (j + 1) (Nat.succ_lt_succ hj))]
    rfl
theorem idxL_mem {l : List Int} {n : Int} : 0 ≤ idxL l n ↔ n ∈ l := by
  induction l with
  | nil => simp [idxL]
  | cons x r ih =>
    rw [idxL]
    by_cases h : x = n
    · simp [h]
    · rw [if_neg h]
      have : n ∈ x :: r ↔ n ∈ r := by simp [List.mem_cons, Ne.symm h]
      rw [this, ← ih]
      split <;> omega

set_option maxHeartbeats 1000000 in
theorem sIndex_any (A : Option Addr) (c b off : Nat) (l : List Int) (n : Int) (w : World) (hA : 0 < l.length → A = some ⟨b, off, none⟩) (hl : l.length ≤ 1000) (hc : ∀ i (h : i < l.length), w.cell? ⟨b, off + i, none⟩ = some (.int .i64 (l[i]))) :
    Calls Try.prog 128 #[.slice A l.length c, .int .i64 n] w fun e w' => e = .returned (.int .i64 (idxL l n)) ∧ w = w' := by
  have HC := Lib.hid hc; clear hc
  have HA := Lib.hid hA; clear hA
  go_enter Try.func128, Try.ntmps128
  go_wp2
  go_loop [8] (fun i => ∃ k : Nat, k ≤ l.length ∧ i = .int .i64 k ∧ Hid (∀ j (_ : j < k) (h : j < l.length), l[j] ≠ n)) (fun i => l.length - (intOf i).toNat)
  case atStart => exact ⟨0, by omega, rfl, Lib.hid (fun j hj => by omega)⟩
  case round =>
    obtain ⟨k, hk, rfl, hj⟩ := hrel
    by_cases hlt : k < l.length
    · obtain rfl := HA.out (by omega)
      have r0 := HC.out k hlt
      obtain ⟨x, hx⟩ : ∃ x, l[k] = x := ⟨_, rfl⟩
      have Hx := Lib.hid hx
      rw [hx] at r0
      clear hx
      by_cases he : x = n
      · subst he
        have HR := Lib.hid (idxL_at hlt Hx.out (fun j hj' => hj.out j hj' (by omega)))
        go_wp2
        go_ret
        exact ⟨ret_int HR.out.symm, rfl⟩
      · have he' : (n == x) = false := by rw [beq_eq_false_iff_ne]; exact fun h => he h.symm
        go_wp2
        go_round
        case rel =>
          refine ⟨k + 1, by omega, by go_num, Lib.hid (fun j hj' h => ?_)⟩
          by_cases e : j = k
          · subst e; rw [Hx.out]; exact he
          · exact hj.out j (by omega) h
        case measure => simp [intOf]; omega
    · have HR := Lib.hid (idxL_no fun j h => hj.out j (by omega) h)
      go_wp2
      go_ret
      exact ⟨ret_int HR.out.symm, rfl⟩
set_option maxHeartbeats 1000000 in
theorem rIndex_any (A : Option Addr) (c b off : Nat) (l : List Int) (n : Int) (w : World) (hA : 0 < l.length → A = some ⟨b, off, none⟩) (hl : l.length ≤ 1000) (hc : ∀ i (h : i < l.length), w.cell? ⟨b, off + i, none⟩ = some (.int .i64 (l[i]))) :
    Calls Try.prog 60 #[.slice A l.length c, .int .i64 n] w fun e w' => e = .returned (.int .i64 (idxL l n)) ∧ w = w' := by
  have HC := Lib.hid hc; clear hc
  have HA := Lib.hid hA; clear hA
  go_enter Try.func60, Try.ntmps60
  go_wp2
  go_loop [5] (fun i => ∃ k : Nat, k ≤ l.length ∧ i = .int .i64 k ∧ Hid (∀ j (_ : j < k) (h : j < l.length), l[j] ≠ n)) (fun i => l.length - (intOf i).toNat)
  case atStart => exact ⟨0, by omega, rfl, Lib.hid (fun j hj => by omega)⟩
  case round =>
    obtain ⟨k, hk, rfl, hj⟩ := hrel
    by_cases hlt : k < l.length
    · obtain rfl := HA.out (by omega)
      have r0 := HC.out k hlt
      obtain ⟨x, hx⟩ : ∃ x, l[k] = x := ⟨_, rfl⟩
      have Hx := Lib.hid hx
      rw [hx] at r0
      clear hx
      by_cases he : x = n
      · subst he
        have HR := Lib.hid (idxL_at hlt Hx.out (fun j hj' => hj.out j hj' (by omega)))
        go_wp2
        go_ret
        exact ⟨ret_int HR.out.symm, rfl⟩
      · have he' : (x == n) = false := by rw [beq_eq_false_iff_ne]; exact he
        go_wp2
        go_round
        case rel =>
          refine ⟨k + 1, by omega, by go_num, Lib.hid (fun j hj' h => ?_)⟩
          by_cases e : j = k
          · subst e; rw [Hx.out]; exact he
          · exact hj.out j (by omega) h
        case measure => simp [intOf]; omega
    · have HR := Lib.hid (idxL_no fun j h => hj.out j (by omega) h)
      go_wp2
      go_ret
      exact ⟨ret_int HR.out.symm, rfl⟩
set_option maxHeartbeats 400000 in
theorem sContains_any (A : Option Addr) (c b off : Nat) (l : List Int) (n : Int) (w : World) (hA : 0 < l.length → A = some ⟨b, off, none⟩) (hl : l.length ≤ 1000) (hc : ∀ i (h : i < l.length), w.cell? ⟨b, off + i, none⟩ = some (.int .i64 (l[i]))) :
    Calls Try.prog 109 #[.slice A l.length c, .int .i64 n] w fun e w' => e = .returned (.bool (decide (n ∈ l))) ∧ w = w' := by
  have HI := Lib.hid (sIndex_any A c b off l n w hA hl hc)
  have HR : Hid (decide (0 ≤ idxL l n) = decide (n ∈ l)) := Lib.hid (by rw [decide_eq_decide]; exact idxL_mem)
  clear hc hA
  generalize idxL l n = r at *
  go_enter Try.func109, Try.ntmps109
  go_wp2_with fail
  refine HI.out.mono ?_
  rintro e w' ⟨rfl, rfl⟩
  go_wp2
  go_ret
  exact ⟨ret_bool HR.out, rfl⟩
set_option maxHeartbeats 400000 in
theorem rwithin_any (a lo hi : Int) (w : World) : Calls Try.prog 115 #[.int .i64 a, .int .i64 lo, .int .i64 hi] w fun e w' => e = .returned (.bool (inB lo hi a)) ∧ w = w' := by
  unfold inB
  by_cases h1 : lo ≤ a <;> by_cases h2 : a ≤ hi
  all_goals
    go_enter Try.func115, Try.ntmps115
    go_wp2
    go_ret
    exact ⟨ret_bool (by simp [h1, h2]), rfl⟩
end
section
open Go.RowKit

/-- The greatest of some numbers. -/
def maxL (l : List Int) : Int := l.foldl max (l.headD 0)
theorem maxL_step {l : List Int} {k : Nat} (h : k < l.length) (m : Int) : (l.take (k + 1)).foldl max m = max ((l.take k).foldl max m) l[k] := by
  rw [List.take_succ_eq_append_getElem h, List.foldl_append]; rfl
theorem maxL_one {l : List Int} (h : 0 < l.length) : (l.take 1).foldl max (l.headD 0) = l.headD 0 := by
  cases l with
  | nil => simp at h
  | cons x r => simp [Int.max_def]
set_option maxHeartbeats 1000000 in
theorem sMax_any (c b off : Nat) (l : List Int) (w : World) (h0 : 0 < l.length) (hl : l.length ≤ 1000) (hc : ∀ i (h : i < l.length), w.cell? ⟨b, off + i, none⟩ = some (.int .i64 (l[i]))) :
    Calls Try.prog 110 #[.slice (some ⟨b, off, none⟩) l.length c] w fun e w' => e = .returned (.int .i64 (maxL l)) ∧ w = w' := by
  have HC := Lib.hid hc
  have q0 : w.cell? ⟨b, off, none⟩ = some (.int .i64 (l.headD 0)) := by
    have := hc 0 h0
    rw [Nat.add_zero] at this
    rw [this]
    cases l with
    | nil => simp at h0
    | cons x r => rfl
  clear hc
  have hn : ¬ ((l.length : Int) < 1) := by omega
  have HM := Lib.hid (maxL_one h0)
  have HD : Hid (∃ m, l.headD 0 = m) := Lib.hid ⟨_, rfl⟩
  obtain ⟨m, hm⟩ := HD.out
  have HH := Lib.hid hm
  rw [hm] at q0 HM
  clear hm HD
  go_enter Try.func110, Try.ntmps110
  go_wp2_with fail
  go_loop [3, 4] (fun u i => ∃ k : Nat, 1 ≤ k ∧ k ≤ l.length ∧ i = .int .i64 k ∧ ∃ z : Int, u = .int .i64 z ∧ Hid (z = (l.take k).foldl max m)) (fun _ i => l.length - (intOf i).toNat)
  case atStart => exact ⟨1, by omega, by omega, rfl, _, rfl, Lib.hid HM.out.symm⟩
  case round =>
    obtain ⟨k, hk1, hk, rfl, z, rfl, hz⟩ := hrel
    by_cases hlt : k < l.length
    · have r0 := HC.out k hlt
      have HS := Lib.hid (maxL_step hlt m)
      generalize l[k] = x at *
      go_wp2
      go_round
      case rel => exact ⟨k + 1, by omega, by omega, by go_num, _, rfl, Lib.hid (by rw [HS.out, ← hz.out, Int.max_def]; split <;> split <;> omega)⟩
      case measure => simp [intOf]; omega
    · have hke : k = l.length := by omega
      have HR := Lib.hid hz.out
      rw [hke, List.take_length] at HR
      go_wp2
      go_ret
      exact ⟨ret_int (by rw [HR.out, maxL, HH.out]), rfl⟩

/-- Where a number is, or would be, in a list in order. -/
def BSat (zs : List Int) (t : Int) (w : World) (e : Ending) (w' : World) : Prop :=
  ∃ r : Nat, r ≤ zs.length ∧ (∀ i (h : i < zs.length), i < r → zs[i] < t) ∧ (∀ i (h : i < zs.length), r ≤ i → t ≤ zs[i]) ∧ e = .returned (.tuple #[.int .i64 r, .bool (decide (t ∈ zs))]) ∧ w = w'
theorem bs_yes {zs : List Int} {t : Int} {r : Nat} (h : r < zs.length) (he : zs[r] = t) : decide (t ∈ zs) = true := by
  rw [decide_eq_true_eq, ← he]; exact List.getElem_mem h
theorem bs_no {zs : List Int} {t : Int} {r : Nat} (hs : zs.Pairwise (· < ·)) (h1 : ∀ i (h : i < zs.length), i < r → zs[i] < t) (h2 : ∀ (h : r < zs.length), t < zs[r]) : decide (t ∈ zs) = false := by
  rw [decide_eq_false_iff_not]
  intro hm
  obtain ⟨k, hk, rfl⟩ := List.getElem_of_mem hm
  by_cases hr : k < r
  · have := h1 k hk hr; omega
  · have hr2 : r < zs.length := by omega
    have h3 := h2 hr2
    by_cases e : k = r
    · subst e; omega
    · have := List.pairwise_iff_getElem.1 hs r k hr2 hk (by omega); omega
set_option maxHeartbeats 2000000 in
theorem bSearch_any (A : Option Addr) (c b off : Nat) (l : List Int) (t : Int) (w : World) (hs : l.Pairwise (· < ·)) (hA : 0 < l.length → A = some ⟨b, off, none⟩) (hl : l.length ≤ 1000) (hc : ∀ i (h : i < l.length), w.cell? ⟨b, off + i, none⟩ = some (.int .i64 (l[i]))) :
    Calls Try.prog 117 #[.slice A l.length c, .int .i64 t] w (BSat l t w) := by
  have HC := Lib.hid hc; clear hc
  have HA := Lib.hid hA; clear hA
  have HS := Lib.hid hs; clear hs
  go_enter Try.func117, Try.ntmps117
  go_wp2
  go_loop [7, 8] (fun i j => ∃ k m : Nat, k ≤ m ∧ m ≤ l.length ∧ i = .int .i64 k ∧ j = .int .i64 m ∧ Hid (∀ x (h : x < l.length), x < k → l[x] < t) ∧ Hid (∀ x (h : x < l.length), m ≤ x → t ≤ l[x])) (fun i j => (intOf j).toNat - (intOf i).toNat)
  case atStart => exact ⟨0, l.length, by omega, by omega, rfl, rfl, Lib.hid (fun x h hx => by omega), Lib.hid (fun x h hx => by omega)⟩
  case round =>
    obtain ⟨k, m, hkm, hm, rfl, rfl, hlo, hhi⟩ := hrel
    by_cases hlt : k < m
    · obtain rfl := HA.out (by omega)
      have r0 := HC.out ((k + m) / 2) (by omega)
      have hh : (k + m) / 2 < l.length := by omega
      have HX : Hid (∃ x, l[(k + m) / 2] = x) := Lib.hid ⟨_, rfl⟩
      obtain ⟨x, hx⟩ := HX.out
      have HE := Lib.hid hx
      rw [hx] at r0
      clear hx HX
      by_cases hxt : x < t
      · go_wp2_with (go_at_call 131; refine (cmpLess_any _ _ _).mono ?_; rintro e w' ⟨rfl, rfl⟩)
        go_round
        case rel =>
          refine ⟨(k + m) / 2 + 1, m, by omega, hm, by go_num, rfl, Lib.hid (fun y h hy => ?_), hhi⟩
          by_cases e : y = (k + m) / 2
          · subst e; rw [HE.out]; exact hxt
          · have := List.pairwise_iff_getElem.1 HS.out y ((k + m) / 2) h hh (by omega)
            rw [HE.out] at this; omega
        case measure => simp [intOf]; omega
      · go_wp2_with (go_at_call 131; refine (cmpLess_any _ _ _).mono ?_; rintro e w' ⟨rfl, rfl⟩)
        go_round
        case rel =>
          refine ⟨k, (k + m) / 2, by omega, by omega, rfl, by go_num, hlo, Lib.hid (fun y h hy => ?_)⟩
          by_cases e : y = (k + m) / 2
          · subst e; rw [HE.out]; omega
          · have := List.pairwise_iff_getElem.1 HS.out ((k + m) / 2) y hh h (by omega)
            rw [HE.out] at this; omega
        case measure => simp [intOf]; omega
    · obtain rfl : k = m := by omega
      by_cases hkl : k < l.length
      · obtain rfl := HA.out (by omega)
        have r0 := HC.out k hkl
        obtain ⟨x, hx⟩ : ∃ x, l[k] = x := ⟨_, rfl⟩
        have HE := Lib.hid hx
        rw [hx] at r0
        clear hx
        by_cases hxt : x = t
        · subst hxt
          have HR := Lib.hid (bs_yes hkl HE.out)
          unfold BSat
          go_wp2_with (go_at_call 132; refine (sNaN_any _ _).mono ?_; rintro e w' ⟨rfl, rfl⟩)
          go_ret2
          exact ⟨k, by omega, hlo.out, fun i h hi => hhi.out i h hi, by rw [HR.out]; simp, rfl⟩
        · have hxt' : (x == t) = false := by rw [beq_eq_false_iff_ne]; exact hxt
          have HR := Lib.hid (bs_no HS.out hlo.out (fun h => by have h2 := hhi.out k h (Nat.le_refl _); rw [HE.out] at h2 ⊢; omega))
          go_wp2_with (go_at_call 132; refine (sNaN_any _ _).mono ?_; rintro e w' ⟨rfl, rfl⟩)
          go_ret2
          exact ⟨k, by omega, hlo.out, fun i h hi => hhi.out i h hi, by rw [HR.out]; simp, rfl⟩
      · have HR := Lib.hid (bs_no HS.out hlo.out (fun h => absurd h hkl))
        go_wp2
        go_ret2
        exact ⟨k, by omega, hlo.out, fun i h hi => hhi.out i h hi, by rw [HR.out]; simp, rfl⟩
end
section
open Go.RowKit

/-- The issues of a slice: their cells, with the slices of their items and sizes as they stand. -/
def IssRow (w : World) (b off : Nat) (xs : List Iss) (vi vd : Nat → Value) : Prop :=
  ∀ i (h : i < xs.length), w.cell? ⟨b, off + i * 5, none⟩ = some (.int .i64 xs[i].d) ∧ w.cell? ⟨b, off + i * 5 + 1, none⟩ = some (.int .i64 xs[i].l) ∧ w.cell? ⟨b, off + i * 5 + 2, none⟩ = some (.int .u8 xs[i].k) ∧
    w.cell? ⟨b, off + i * 5 + 3, none⟩ = some (vi i) ∧ w.cell? ⟨b, off + i * 5 + 4, none⟩ = some (vd i) ∧ (0 ≤ xs[i].k ∧ xs[i].k ≤ 255) ∧ ItemsAt w (vi i) xs[i].items ∧ DimsAt w (vd i) xs[i].dims ∧ NilOk (vi i) ∧ NilOk (vd i)
theorem IssRow.after {w w' : World} {b off : Nat} {xs : List Iss} {vi vd : Nat → Value} (h : IssRow w b off xs vi vd) (hb : Below w.heap.size w w') : IssRow w' b off xs vi vd := by
  intro i hi
  obtain ⟨h0, h1, h2, h3, h4, hk, h5, h6, h7⟩ := h i hi
  exact ⟨cell_keep hb h0, cell_keep hb h1, cell_keep hb h2, cell_keep hb h3, cell_keep hb h4, hk, h5.after hb, h6.after hb, h7⟩
theorem IssRow.slices {w : World} {b off : Nat} {xs : List Iss} {vi vd : Nat → Value} (h : IssRow w b off xs vi vd) {i : Nat} (hi : i < xs.length) : (∃ A n c, vi i = .slice A n c) ∧ ∃ A n c, vd i = .slice A n c := by
  obtain ⟨-, -, -, -, -, -, ⟨A, c, -, -, h1, -, -⟩, ⟨A', c', -, -, h2, -, -⟩, -⟩ := h i hi
  exact ⟨⟨A, _, c, h1⟩, ⟨A', _, c', h2⟩⟩
theorem IssuesAt.row {w : World} {v : Value} {xs : List Iss} (h : IssuesAt w v xs) : ∃ A c b off vi vd, v = .slice A xs.length c ∧ (0 < xs.length → A = some ⟨b, off, none⟩) ∧ IssRow w b off xs vi vd := by
  obtain ⟨A, c, b, off, hv, hA, hc⟩ := h
  have hex : ∀ i, ∃ p : Value × Value, (h : i < xs.length) → w.cell? ⟨b, off + i * 5, none⟩ = some (.int .i64 xs[i].d) ∧ w.cell? ⟨b, off + i * 5 + 1, none⟩ = some (.int .i64 xs[i].l) ∧ w.cell? ⟨b, off + i * 5 + 2, none⟩ = some (.int .u8 xs[i].k) ∧
    w.cell? ⟨b, off + i * 5 + 3, none⟩ = some p.1 ∧ w.cell? ⟨b, off + i * 5 + 4, none⟩ = some p.2 ∧ (0 ≤ xs[i].k ∧ xs[i].k ≤ 255) ∧ ItemsAt w p.1 xs[i].items ∧ DimsAt w p.2 xs[i].dims ∧ NilOk p.1 ∧ NilOk p.2 := by
    intro i
    by_cases hi : i < xs.length
    · obtain ⟨x, y, r⟩ := hc i hi
      exact ⟨(x, y), fun _ => r⟩
    · exact ⟨(undef, undef), fun h => absurd h hi⟩
  obtain ⟨f, hf⟩ := Classical.skolem.1 hex
  exact ⟨A, c, b, off, fun i => (f i).1, fun i => (f i).2, hv, hA, fun i hi => hf i hi⟩
theorem IssRow.at {w : World} {A : Option Addr} {c b off : Nat} {xs : List Iss} {vi vd : Nat → Value} (h : IssRow w b off xs vi vd) (hA : 0 < xs.length → A = some ⟨b, off, none⟩) : IssuesAt w (.slice A xs.length c) xs :=
  ⟨A, c, b, off, rfl, hA, fun i hi => ⟨vi i, vd i, h i hi⟩⟩

set_option maxHeartbeats 400000 in
theorem iCmp_any (d l k t : Int) (vi vd : Value) (w : World) : Calls Try.prog 113 #[.agg #[.int .i64 d, .int .i64 l, .int .u8 k, vi, vd], .int .i64 t] w fun e w' => e = .returned (.int .i64 (cmpI d t)) ∧ Below w.heap.size w w' := by
  have HC := Lib.hid (fun W => cmpCompare_any d t W)
  generalize cmpI d t = r at *
  go_enter Try.func113, Try.ntmps113
  go_wp2_with (go_at_call 114; refine (HC.out _).mono ?_; rintro e w' ⟨rfl, rfl⟩)
  go_ret
  exact ⟨rfl, by (repeat' (first | (with_reducible first | exact Below.refl _ _ | assumption | refine Below.alloc ?_ ?_ _ | refine Below.setCell ?_ ?_ _ | refine below_row ?_ ?_ _ | refine Below.drew ?_ | refine below_drewN ?_ _ | refine Below.trans ?_ (Below.mono (by assumption) ?_)) | exact Nat.le_refl _ | omega | (simp; done) | (simp; omega) | exact Below.size (by assumption)))⟩

/-- Where the issues of a drawing begin. -/
def BSF (xs : List Iss) (t : Int) (w : World) (e : Ending) (w' : World) : Prop :=
  ∃ (r : Nat) (f : Bool), r ≤ xs.length ∧ (∀ i (h : i < xs.length), i < r → xs[i].d < t) ∧ (∀ i (h : i < xs.length), r ≤ i → t ≤ xs[i].d) ∧ e = .returned (.tuple #[.int .i64 r, .bool f]) ∧ Below w.heap.size w w'
set_option maxHeartbeats 2000000 in
theorem bsf_any (A : Option Addr) (c b off : Nat) (xs : List Iss) (vi vd : Nat → Value) (t : Int) (w : World) (hs : xs.Pairwise (fun x y => x.d ≤ y.d)) (hA : 0 < xs.length → A = some ⟨b, off, none⟩) (hl : xs.length ≤ 1000) (hc : IssRow w b off xs vi vd) :
    Calls Try.prog 112 #[.slice A xs.length c, .int .i64 t, .func (.func 113) #[] #[]] w (BSF xs t w) := by
  have HC := Lib.hid hc; clear hc
  have HA := Lib.hid hA; clear hA
  have HS := Lib.hid hs; clear hs
  go_enter Try.func112, Try.ntmps112
  go_wp2
  go_loopw [9, 10] (fun i j wr => ∃ k m : Nat, k ≤ m ∧ m ≤ xs.length ∧ i = .int .i64 k ∧ j = .int .i64 m ∧ Hid (∀ x (h : x < xs.length), x < k → xs[x].d < t) ∧ Hid (∀ x (h : x < xs.length), m ≤ x → t ≤ xs[x].d) ∧ Below w.heap.size w wr) (fun i j _ => (intOf j).toNat - (intOf i).toNat)
  case atStart => exact ⟨0, xs.length, by omega, by omega, rfl, rfl, Lib.hid (fun x h hx => by omega), Lib.hid (fun x h hx => by omega), by (repeat' (first | (with_reducible first | exact Below.refl _ _ | assumption | refine Below.alloc ?_ ?_ _ | refine Below.setCell ?_ ?_ _ | refine below_row ?_ ?_ _ | refine Below.drew ?_ | refine below_drewN ?_ _ | refine Below.trans ?_ (Below.mono (by assumption) ?_)) | exact Nat.le_refl _ | omega | (simp; done) | (simp; omega) | exact Below.size (by assumption)))⟩
  case round =>
    obtain ⟨k, m, hkm, hm, rfl, rfl, hlo, hhi, hb⟩ := hrel
    by_cases hlt : k < m
    · obtain rfl := HA.out (by omega)
      have hh : (k + m) / 2 < xs.length := by omega
      obtain ⟨q0, q1, q2, q3, q4, -, -, -⟩ := (HC.out.after hb) _ hh
      generalize vi ((k + m) / 2) = va at *
      generalize vd ((k + m) / 2) = ve at *
      obtain ⟨x, hx⟩ : ∃ x, xs[(k + m) / 2] = x := ⟨_, rfl⟩
      have HE := Lib.hid hx
      rw [hx] at q0 q1 q2
      clear hx
      obtain ⟨d, l, kk, it, di⟩ := x
      simp only at q0 q1 q2
      have HX := Lib.hid (fun W => iCmp_any d l kk t va ve W)
      by_cases hxt : d < t
      · have hcm : cmpI d t < 0 := by unfold cmpI; rw [if_pos hxt]; decide
        generalize cmpI d t = r at *
        go_wp2_with fail
        refine (HX.out _).mono ?_
        rintro e w1 ⟨rfl, hb1⟩
        have hb2 : Below w.heap.size w w1 := by (repeat' (first | (with_reducible first | exact Below.refl _ _ | assumption | refine Below.alloc ?_ ?_ _ | refine Below.setCell ?_ ?_ _ | refine below_row ?_ ?_ _ | refine Below.drew ?_ | refine below_drewN ?_ _ | refine Below.trans ?_ (Below.mono (by assumption) ?_)) | exact Nat.le_refl _ | omega | (simp; done) | (simp; omega) | exact Below.size (by assumption)))
        clear hb1
        go_wp2_with fail
        go_roundw
        case rel =>
          refine ⟨(k + m) / 2 + 1, m, by omega, hm, by go_num, rfl, Lib.hid (fun y h hy => ?_), hhi, hb2⟩
          by_cases e : y = (k + m) / 2
          · subst e; rw [HE.out]; exact hxt
          · have := List.pairwise_iff_getElem.1 HS.out y ((k + m) / 2) h hh (by omega)
            rw [HE.out] at this; simp only at this; omega
        case measure => simp [intOf]; omega
      · have hcm : ¬ cmpI d t < 0 := by unfold cmpI; rw [if_neg hxt]; split <;> decide
        generalize cmpI d t = r at *
        go_wp2_with fail
        refine (HX.out _).mono ?_
        rintro e w1 ⟨rfl, hb1⟩
        have hb2 : Below w.heap.size w w1 := by (repeat' (first | (with_reducible first | exact Below.refl _ _ | assumption | refine Below.alloc ?_ ?_ _ | refine Below.setCell ?_ ?_ _ | refine below_row ?_ ?_ _ | refine Below.drew ?_ | refine below_drewN ?_ _ | refine Below.trans ?_ (Below.mono (by assumption) ?_)) | exact Nat.le_refl _ | omega | (simp; done) | (simp; omega) | exact Below.size (by assumption)))
        clear hb1
        go_wp2_with fail
        go_roundw
        case rel =>
          refine ⟨k, (k + m) / 2, by omega, by omega, rfl, by go_num, hlo, Lib.hid (fun y h hy => ?_), hb2⟩
          by_cases e : y = (k + m) / 2
          · subst e; rw [HE.out]; simp only; omega
          · have := List.pairwise_iff_getElem.1 HS.out ((k + m) / 2) y hh h (by omega)
            rw [HE.out] at this; simp only at this; omega
        case measure => simp [intOf]; omega
    · obtain rfl : k = m := by omega
      by_cases hkl : k < xs.length
      · obtain rfl := HA.out (by omega)
        obtain ⟨q0, q1, q2, q3, q4, -, -, -⟩ := (HC.out.after hb) _ hkl
        generalize vi k = va at *
        generalize vd k = ve at *
        obtain ⟨x, hx⟩ : ∃ x, xs[k] = x := ⟨_, rfl⟩
        have HE := Lib.hid hx
        rw [hx] at q0 q1 q2
        clear hx
        obtain ⟨d, l, kk, it, di⟩ := x
        simp only at q0 q1 q2
        have HX := Lib.hid (fun W => iCmp_any d l kk t va ve W)
        generalize cmpI d t = r at *
        go_wp2_with fail
        refine (HX.out _).mono ?_
        rintro e w1 ⟨rfl, hb1⟩
        have hb2 : Below w.heap.size w w1 := by (repeat' (first | (with_reducible first | exact Below.refl _ _ | assumption | refine Below.alloc ?_ ?_ _ | refine Below.setCell ?_ ?_ _ | refine below_row ?_ ?_ _ | refine Below.drew ?_ | refine below_drewN ?_ _ | refine Below.trans ?_ (Below.mono (by assumption) ?_)) | exact Nat.le_refl _ | omega | (simp; done) | (simp; omega) | exact Below.size (by assumption)))
        clear hb1
        go_wp2_with fail
        go_ret2
        exact ⟨k, _, by omega, hlo.out, fun i h hi => hhi.out i h hi, rfl, hb2⟩
      · go_wp2
        go_ret2
        exact ⟨k, _, by omega, hlo.out, fun i h hi => hhi.out i h hi, rfl, hb⟩

set_option maxHeartbeats 400000 in
theorem issuesOf_any (vI vN vD : Value) (d : Int) (w : World) (hI : ∃ A n c, vI = .slice A n c) :
    Calls Try.prog 66 #[.agg #[vI, vN, vD], .int .i64 d] w fun e w' => e = .returned (.func (.func 111) #[] #[.pointer (some ⟨w.heap.size, 0, none⟩), .pointer (some ⟨w.heap.size + 1, 0, none⟩)]) ∧ (w.alloc (.cells #[vI, vN, vD] 118)).alloc (.cells #[.int .i64 d] 3) = w' := by
  have hmf : ∀ (fn : Fn) (first cap : Array Value) (w : World), (Instr.makeFunc fn first cap).run Try.prog w = .ok (.func fn first cap) w := fun _ _ _ _ => rfl
  go_enter Try.func66, Try.ntmps66
  go_wp2
  go_ret
  exact ⟨rfl, rfl⟩
end
section
open Go.RowKit

theorem own_form {w : World} {base : Nat} {e : TypeId} {size n : Nat} {v : Value} {xs : List Value} (h : w.ownsRow base e size v n xs) :
    ∃ A c g, v = .slice A n c ∧ (0 < n → base ≤ g ∧ A = some ⟨g, 0, none⟩ ∧ ∃ cur, Lies w g e cur ∧ ∀ j, j < n * size → cur[j]? = xs[j]?) := by
  rcases h.2 with ⟨rfl, rfl⟩ | ⟨g, cap, cur, rfl, hg, hh, hc, _, hs, ht⟩
  · exact ⟨none, 0, 0, rfl, fun h => by omega⟩
  · refine ⟨_, cap, g, rfl, fun _ => ⟨hg, rfl, cur, hh, fun j hj => ?_⟩⟩
    rw [← ht, List.getElem?_take_of_lt hj]
    simp
theorem own_after {w w' : World} {base : Nat} {e : TypeId} {size n : Nat} {v : Value} {xs : List Value} (h : w.ownsRow base e size v n xs) (hb : Below w.heap.size w w') : w'.ownsRow base e size v n xs := by
  refine ⟨h.1, ?_⟩
  rcases h.2 with h0 | ⟨g, cap, cur, hv, hg, hh, hr⟩
  · exact .inl h0
  · have hlt : g < w.heap.size := (Array.getElem?_eq_some_iff.1 hh).1
    exact .inr ⟨g, cap, cur, hv, hg, (hb.block g hlt).trans hh, hr⟩
theorem own_at {w w' : World} {base : Nat} {e : TypeId} {size n : Nat} {v : Value} {xs : List Value} (h : w.ownsRow base e size v n xs) (hk : ∀ g, v.ownBlock = some g → w'.heap[g]? = w.heap[g]?) : w'.ownsRow base e size v n xs := by
  refine ⟨h.1, ?_⟩
  rcases h.2 with h0 | ⟨g, cap, cur, hv, hg, hh, hr⟩
  · exact .inl h0
  · exact .inr ⟨g, cap, cur, hv, hg, (hk g (by rw [hv]; rfl)).trans hh, hr⟩
theorem own_less {w : World} {base base' : Nat} {e : TypeId} {size n : Nat} {v : Value} {xs : List Value} (h : w.ownsRow base e size v n xs) (hb : base' ≤ base) : w.ownsRow base' e size v n xs := by
  refine ⟨h.1, ?_⟩
  rcases h.2 with h0 | ⟨g, cap, cur, hv, hg, hr⟩
  · exact .inl h0
  · exact .inr ⟨g, cap, cur, hv, by omega, hr⟩
theorem own_put {w : World} {base : Nat} {e : TypeId} {size n : Nat} {v : Value} {xs : List Value} (h : w.ownsRow base e size v n xs) {p : Addr} (hp : p.block < base) (u : Value) : (w.setCell p u).ownsRow base e size v n xs :=
  own_at h fun k hk => Below.heap_setCell w p u k (by have := (h.lt k hk).1; omega)
/-- What an append to a row of one's own leaves below. -/
theorem below_own {w0 w w' : World} {B base : Nat} {e : TypeId} {size n : Nat} {v : Value} {xs : List Value} (hb : Below B w0 w) (h : w.ownsRow base e size v n xs) (hg : w.grownBy w' v.ownBlock) (hB : B ≤ base) (hs : B ≤ w.heap.size) : Below B w0 w' :=
  hb.grown hg hs (fun k e => by have := (h.lt k e).1; omega)
theorem lies_own {w w' : World} {base : Nat} {e t : TypeId} {size n g : Nat} {v : Value} {xs : List Value} {cs : Array Value} (hl : Lies w g t cs) (h : w.ownsRow base e size v n xs) (hg : w.grownBy w' v.ownBlock) (hne : e ≠ t) : Lies w' g t cs := by
  refine (hg.block g hl.lt ?_).trans hl
  rcases h.2 with ⟨rfl, _⟩ | ⟨g', cap, cur, rfl, _, hh, _⟩
  · simp [Value.ownBlock]
  · intro he
    obtain rfl : g = g' := by simpa [Value.ownBlock] using he
    have h2 := hl
    unfold Lies at h2
    rw [hh] at h2
    injection h2 with h2
    injection h2 with _ ht
    exact hne ht
theorem lies_below {w w' : World} {base : Nat} {e t : TypeId} {size n g : Nat} {v : Value} {xs : List Value} {cs : Array Value} (hl : Lies w g t cs) (h : w.ownsRow base e size v n xs) (hg : w.grownBy w' v.ownBlock) (hlt : g < base) : Lies w' g t cs :=
  (hg.block g hl.lt (fun e => by have := (h.lt g e.symm).1; omega)).trans hl

abbrev cellsN (l : List Int) : List Value := l.map fun x => .int .i64 x
def cellsI (l : List (Int × Int)) : List Value := l.flatMap fun x => [.int .i64 x.1, .int .i64 x.2]
def cellsS (l : List D3) : List Value := l.flatMap fun x => [.int .i64 x.1, .int .i64 x.2.1, .int .i64 x.2.2]
theorem cellsI_len (l : List (Int × Int)) : (cellsI l).length = l.length * 2 := by
  induction l with
  | nil => rfl
  | cons x r ih => unfold cellsI at *; simp only [List.flatMap_cons, List.length_append, ih, List.length_cons, List.length_nil]; omega
theorem cellsS_len (l : List D3) : (cellsS l).length = l.length * 3 := by
  induction l with
  | nil => rfl
  | cons x r ih => unfold cellsS at *; simp only [List.flatMap_cons, List.length_append, ih, List.length_cons, List.length_nil]; omega
theorem cellsI_at {l : List (Int × Int)} {i : Nat} (h : i < l.length) : (cellsI l)[i * 2]? = some (.int .i64 (l[i].1)) ∧ (cellsI l)[i * 2 + 1]? = some (.int .i64 (l[i].2)) := by
  induction l generalizing i with
  | nil => simp at h
  | cons x r ih =>
    cases i with
    | zero => exact ⟨rfl, rfl⟩
    | succ i =>
      have := ih (i := i) (by simpa using h)
      refine ⟨?_, ?_⟩
      · show (.int .i64 x.1 :: .int .i64 x.2 :: cellsI r)[(i + 1) * 2]? = _
        rw [show (i + 1) * 2 = i * 2 + 1 + 1 from by omega]
        exact this.1
      · show (.int .i64 x.1 :: .int .i64 x.2 :: cellsI r)[(i + 1) * 2 + 1]? = _
        rw [show (i + 1) * 2 + 1 = i * 2 + 1 + 1 + 1 from by omega]
        exact this.2
theorem cellsS_at {l : List D3} {i : Nat} (h : i < l.length) : (cellsS l)[i * 3]? = some (.int .i64 (l[i].1)) ∧ (cellsS l)[i * 3 + 1]? = some (.int .i64 (l[i].2.1)) ∧ (cellsS l)[i * 3 + 2]? = some (.int .i64 (l[i].2.2)) := by
  induction l generalizing i with
  | nil => simp at h
  | cons x r ih =>
    cases i with
    | zero => exact ⟨rfl, rfl, rfl⟩
    | succ i =>
      have := ih (i := i) (by simpa using h)
      refine ⟨?_, ?_, ?_⟩
      · show (.int .i64 x.1 :: .int .i64 x.2.1 :: .int .i64 x.2.2 :: cellsS r)[(i + 1) * 3]? = _
        rw [show (i + 1) * 3 = i * 3 + 1 + 1 + 1 from by omega]
        exact this.1
      · show (.int .i64 x.1 :: .int .i64 x.2.1 :: .int .i64 x.2.2 :: cellsS r)[(i + 1) * 3 + 1]? = _
        rw [show (i + 1) * 3 + 1 = i * 3 + 1 + 1 + 1 + 1 from by omega]
        exact this.2.1
      · show (.int .i64 x.1 :: .int .i64 x.2.1 :: .int .i64 x.2.2 :: cellsS r)[(i + 1) * 3 + 2]? = _
        rw [show (i + 1) * 3 + 2 = i * 3 + 2 + 1 + 1 + 1 from by omega]
        exact this.2.2
theorem cellsI_one (l : List (Int × Int)) : ∀ u ∈ cellsI l, u.oneCell' = true := by
  intro u hu
  obtain ⟨x, -, hx⟩ := List.mem_flatMap.1 hu
  simp at hx
  rcases hx with rfl | rfl <;> rfl
theorem cellsS_one (l : List D3) : ∀ u ∈ cellsS l, u.oneCell' = true := by
  intro u hu
  obtain ⟨x, -, hx⟩ := List.mem_flatMap.1 hu
  simp at hx
  rcases hx with rfl | rfl | rfl <;> rfl
theorem ints_of_own {w : World} {base : Nat} {v : Value} {l : List Int} (h : w.ownsRow base 3 1 v l.length (cellsN l)) : IntsAt w v l := by
  obtain ⟨A, c, g, hv, hc⟩ := own_form h
  refine ⟨A, c, g, 0, hv, fun h0 => (hc h0).2.1, fun i hi => ?_⟩
  obtain ⟨-, -, cur, hl, hcur⟩ := hc (by omega)
  rw [Nat.zero_add, hl.cell, hcur i (by omega)]
  simp [hi]
theorem items_of_own {w : World} {base : Nat} {v : Value} {l : List (Int × Int)} (h : w.ownsRow base 52 2 v l.length (cellsI l)) : ItemsAt w v l := by
  obtain ⟨A, c, g, hv, hc⟩ := own_form h
  refine ⟨A, c, g, 0, hv, fun h0 => (hc h0).2.1, fun i hi => ?_⟩
  obtain ⟨-, -, cur, hl, hcur⟩ := hc (by omega)
  rw [Nat.zero_add, hl.cell, hl.cell, hcur _ (by omega), hcur _ (by omega)]
  exact cellsI_at hi
theorem dims_of_own {w : World} {base : Nat} {v : Value} {l : List D3} (h : w.ownsRow base 54 3 v l.length (cellsS l)) : DimsAt w v l := by
  obtain ⟨A, c, g, hv, hc⟩ := own_form h
  refine ⟨A, c, g, 0, hv, fun h0 => (hc h0).2.1, fun i hi => ?_⟩
  obtain ⟨-, -, cur, hl, hcur⟩ := hc (by omega)
  rw [Nat.zero_add, hl.cell, hl.cell, hl.cell, hcur _ (by omega), hcur _ (by omega), hcur _ (by omega)]
  exact cellsS_at hi
theorem infoN : (Try.prog.info? 3).map (fun i => (i.zero, i.size, i.bytes)) = some (some (.int .i64 0), 1, 8) := by kernel_rfl
theorem infoI : (Try.prog.info? 52).map (fun i => (i.zero, i.size, i.bytes)) = some (some (.agg #[.int .i64 0, .int .i64 0]), 2, 16) := by kernel_rfl
theorem infoS : (Try.prog.info? 54).map (fun i => (i.zero, i.size, i.bytes)) = some (some (.agg #[.int .i64 0, .int .i64 0, .int .i64 0]), 3, 24) := by kernel_rfl
theorem news_at {w : World} {b off : Nat} {l : List Value} (h : ∀ j (hj : j < l.length), w.cell? ⟨b, off + j, none⟩ = some l[j]) : ∀ j u, l[j]? = some u → w.cell? ((⟨b, off, none⟩ : Addr).add j) = some u := by
  intro j u hj
  obtain ⟨hl, rfl⟩ := List.getElem?_eq_some_iff.1 hj
  have hx : (⟨b, off, none⟩ : Addr).add j = ⟨b, off + j, none⟩ := by unfold Addr.add; split <;> simp_all
  rw [hx]; exact h j hl
theorem newsI {w : World} {b off : Nat} {l : List (Int × Int)} (h : ∀ i (h : i < l.length), w.cell? ⟨b, off + i * 2, none⟩ = some (.int .i64 l[i].1) ∧ w.cell? ⟨b, off + i * 2 + 1, none⟩ = some (.int .i64 l[i].2)) : ∀ j u, (cellsI l)[j]? = some u → w.cell? ((⟨b, off, none⟩ : Addr).add j) = some u := by
  refine news_at fun j hj => ?_
  rw [cellsI_len] at hj
  have hi : j / 2 < l.length := by omega
  have h1 := h (j / 2) hi
  have h2 := cellsI_at hi
  rcases (by omega : j = j / 2 * 2 ∨ j = j / 2 * 2 + 1) with e | e
  · have h3 : (cellsI l)[j]? = some (.int .i64 (l[j / 2].1)) := by rw [← h2.1]; congr 1
    obtain ⟨hl, h4⟩ := List.getElem?_eq_some_iff.1 h3
    rw [h4]
    rw [show off + j = off + j / 2 * 2 from by omega]; exact h1.1
  · have h3 : (cellsI l)[j]? = some (.int .i64 (l[j / 2].2)) := by
      rw [← h2.2]; congr 1
    obtain ⟨hl, h4⟩ := List.getElem?_eq_some_iff.1 h3
    rw [h4]
    rw [show off + j = off + j / 2 * 2 + 1 from by omega]; exact h1.2
theorem newsS {w : World} {b off : Nat} {l : List D3} (h : cellsD w b off l) : ∀ j u, (cellsS l)[j]? = some u → w.cell? ((⟨b, off, none⟩ : Addr).add j) = some u := by
  refine news_at fun j hj => ?_
  rw [cellsS_len] at hj
  have hi : j / 3 < l.length := by omega
  have h1 := h (j / 3) hi
  have h2 := cellsS_at hi
  rcases (by omega : j = j / 3 * 3 ∨ j = j / 3 * 3 + 1 ∨ j = j / 3 * 3 + 2) with e | e | e
  · have h3 : (cellsS l)[j]? = some (.int .i64 (l[j / 3].1)) := by rw [← h2.1]; congr 1
    obtain ⟨hl, h4⟩ := List.getElem?_eq_some_iff.1 h3
    rw [h4]
    rw [show off + j = off + j / 3 * 3 from by omega]; exact h1.1
  · have h3 : (cellsS l)[j]? = some (.int .i64 (l[j / 3].2.1)) := by rw [← h2.2.1]; congr 1
    obtain ⟨hl, h4⟩ := List.getElem?_eq_some_iff.1 h3
    rw [h4]
    rw [show off + j = off + j / 3 * 3 + 1 from by omega]; exact h1.2.1
  · have h3 : (cellsS l)[j]? = some (.int .i64 (l[j / 3].2.2)) := by rw [← h2.2.2]; congr 1
    obtain ⟨hl, h4⟩ := List.getElem?_eq_some_iff.1 h3
    rw [h4]
    rw [show off + j = off + j / 3 * 3 + 2 from by omega]; exact h1.2.2
end
end Go.Proofs.Ytkjfceajakhlfaa
