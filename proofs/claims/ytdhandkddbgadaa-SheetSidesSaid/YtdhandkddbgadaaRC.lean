/- The examples' calls, each over the register of the examples. -/
import Derived.Test.YtdhandkddbgadaaRB
import Derived.Test.YtdhandkddbgadaaLH
namespace Go.Proofs.Ytdhandkddbgadaa
set_option linter.unusedVariables false
set_option linter.unusedSimpArgs false
open Go.RowKit

theorem capOfx {A : Option Addr} {n c : Nat} (h : n ≤ c) : CapOk (.slice A n c) := by
  intro A' n' c' e
  injection e with e1 e2 e3
  omega
theorem ints_lies {W : World} {a c : Nat} {cs : Array Value} {l : List Int} (h : Lies W a 3 cs) (hc : cs.toList = cellsN l) : IntsAt W (.slice (some ⟨a, 0, none⟩) l.length c) l := by
  refine ⟨_, _, a, 0, rfl, fun _ => rfl, fun i hi => ?_⟩
  have h1 : (cellsN l)[i]? = some (.int .i64 (l[i])) := by simp [cellsN, hi]
  rw [← hc] at h1
  rw [h.cell, Nat.zero_add]; simpa using h1
set_option maxHeartbeats 1000000 in
theorem first_any (w : World) : Calls Try.prog 53 #[] w fun e w' => ∃ A c, e = .returned (.slice A 5 c) ∧ IntsAt w' (.slice A 5 c) [1, 1, 1, 1, 1] ∧ Below w.heap.size w w' := by
  go_enter Try.func53, Try.ntmps53
  go_wp2
  go_ret
  exact ⟨_, _, rfl, ints_lies (c := 5) (l := [1, 1, 1, 1, 1]) (Lies.made w 3 #[.int .i64 1, .int .i64 1, .int .i64 1, .int .i64 1, .int .i64 1]) rfl, by (repeat' (first | (with_reducible exact Below.refl _ _) | (with_reducible assumption) | (with_reducible refine Below.alloc ?_ ?_ _) | (with_reducible refine Below.setCell ?_ ?_ _) | (with_reducible refine below_row ?_ ?_ _) | (with_reducible refine Below.drew ?_) | (with_reducible refine below_drewN ?_ _) | (with_reducible refine Below.trans ?_ (Below.mono (by assumption) ?_)) | (first | exact Nat.le_refl _ | omega | (simp; done) | (simp; omega) | (exact Below.size (by assumption)))))⟩
set_option maxHeartbeats 1000000 in
theorem second_any (w : World) : Calls Try.prog 52 #[] w fun e w' => ∃ A c, e = .returned (.slice A 5 c) ∧ IntsAt w' (.slice A 5 c) [2, 1, 1, 1, 1] ∧ Below w.heap.size w w' := by
  go_enter Try.func52, Try.ntmps52
  go_wp2
  go_ret
  exact ⟨_, _, rfl, ints_lies (c := 5) (l := [2, 1, 1, 1, 1]) (Lies.made w 3 #[.int .i64 2, .int .i64 1, .int .i64 1, .int .i64 1, .int .i64 1]) rfl, by (repeat' (first | (with_reducible exact Below.refl _ _) | (with_reducible assumption) | (with_reducible refine Below.alloc ?_ ?_ _) | (with_reducible refine Below.setCell ?_ ?_ _) | (with_reducible refine below_row ?_ ?_ _) | (with_reducible refine Below.drew ?_) | (with_reducible refine below_drewN ?_ _) | (with_reducible refine Below.trans ?_ (Below.mono (by assumption) ?_)) | (first | exact Nat.le_refl _ | omega | (simp; done) | (simp; omega) | (exact Below.size (by assumption)))))⟩
theorem exDraw {v : Value} {w : World} (h : RegAt w v exR) : Calls Try.prog 19 #[.agg #[v]] w fun e w' => ∃ A c, e = .returned (.tuple #[.slice A 5 c, .int .i64 0]) ∧ IntsAt w' (.slice A 5 c) [10, 20, 30, 40, 50] ∧ Below w.heap.size w w' := by
  have h2 : Calls Try.prog 19 #[.agg #[v]] w (DrawQ (layE exR) (if layE exR = 0 then numbersL exR else []) w) := sDrawings_any h
  rw [ex_lay, if_pos rfl, ex_numbers] at h2
  refine h2.mono ?_
  rintro e w' ⟨v, rfl, hi, hb⟩
  obtain ⟨A, c, rfl⟩ := hi.slice
  exact ⟨A, c, rfl, hi, hb⟩
theorem exExplode {v u : Value} {w : World} (h : RegAt w v exR) (hu : IntsAt w u [1, 1, 1, 1, 1]) : Calls Try.prog 32 #[.agg #[v], u, .int .i64 10] w fun e w' => ∃ A c, e = .returned (.tuple #[.slice A 2 c, .int .i64 0]) ∧ ItemsAt w' (.slice A 2 c) [(30, 7), (50, 2)] ∧ Below w.heap.size w w' := by
  have h2 := sExplode_any 10 h hu (by decide)
  rw [ex_ask1, ex_expl1] at h2
  refine h2.mono ?_
  rintro e w' ⟨v, rfl, hi, hb⟩
  have hi2 := hi
  obtain ⟨A, c, b, off, rfl, -⟩ := hi2
  exact ⟨A, c, rfl, hi, hb⟩
theorem exTree {v u : Value} {w : World} (h : RegAt w v exR) (hu : IntsAt w u [1, 1, 2, 1, 1]) : Calls Try.prog 34 #[.agg #[v], u, .int .i64 10] w fun e w' => ∃ A c, e = .returned (.tuple #[.slice A 5 c, .int .i64 0]) ∧ BranchesAt w' (.slice A 5 c) [(0, 10, 1, 1), (1, 20, 1, 2), (2, 30, 2, 3), (2, 50, 1, 1), (1, 30, 2, 1)] ∧ Below w.heap.size w w' := by
  have h2 := sTree_any 10 h hu (by decide)
  rw [ex_tree] at h2
  refine h2.mono ?_
  rintro e w' ⟨v, rfl, hi, hb⟩
  obtain ⟨A, c, rfl⟩ := hi.slice
  exact ⟨A, c, rfl, hi, hb⟩
theorem exUses {v : Value} {w : World} (h : RegAt w v exR) : Calls Try.prog 38 #[.agg #[v], .int .i64 30] w fun e w' => ∃ A c, e = .returned (.tuple #[.slice A 3 c, .int .i64 0]) ∧ RefsAt w' (.slice A 3 c) [(10, 1), (10, 2), (20, 1)] ∧ Below w.heap.size w w' := by
  have h2 := sUses_any 30 h
  rw [ex_uses] at h2
  refine h2.mono ?_
  rintro e w' ⟨v, rfl, hi, hb⟩
  obtain ⟨A, c, rfl⟩ := hi.slice
  exact ⟨A, c, rfl, hi, hb⟩
theorem exAbove {v u : Value} {w : World} (h : RegAt w v exR) (hu : IntsAt w u [2, 1, 1, 1, 1]) : Calls Try.prog 40 #[.agg #[v], u, .int .i64 40] w fun e w' => ∃ A c, e = .returned (.tuple #[.slice A 1 c, .int .i64 0]) ∧ IntsAt w' (.slice A 1 c) [10] ∧ Below w.heap.size w w' := by
  have h2 := sAbove_any 40 h hu (by decide)
  rw [ex_above] at h2
  refine h2.mono ?_
  rintro e w' ⟨v, rfl, hi, hb⟩
  obtain ⟨A, c, rfl⟩ := hi.slice
  exact ⟨A, c, rfl, hi, hb⟩
theorem exDiffer {v : Value} {w : World} (h : RegAt w v exR) : Calls Try.prog 43 #[.agg #[v], .int .i64 10, .int .i64 1, .int .i64 2] w fun e w' => ∃ A c B d, e = .returned (.tuple #[.slice A 3 c, .slice B 0 d, .int .i64 0]) ∧ ChangesAt w' (.slice A 3 c) [(20, 2, 1), (30, 1, 2), (40, 0, 2)] ∧ Below w.heap.size w w' := by
  have h2 := sDiffer_any 10 1 2 h
  rw [ex_differ] at h2
  refine h2.mono ?_
  rintro e w' ⟨v, u, rfl, hi, hj, hb⟩
  obtain ⟨A, c, rfl⟩ := hi.slice
  obtain ⟨B, d, rfl⟩ := hj.slice
  exact ⟨A, c, B, d, rfl, hi, hb⟩
theorem exDepth {v : Value} {w : World} (h : RegAt w v exR) : Calls Try.prog 28 #[.agg #[v], .int .i64 10] w fun e w' => e = .returned (.tuple #[.int .i64 3, .int .i64 0]) ∧ Below w.heap.size w w' := by
  have h2 := sDepth_any 10 h
  rw [ex_depth] at h2
  exact h2
theorem exLast {v : Value} {w : World} (h : RegAt w v exR) : Calls Try.prog 21 #[.agg #[v], .int .i64 30] w fun e w' => e = .returned (.tuple #[.int .i64 2, .int .i64 0]) ∧ Below w.heap.size w w' := by
  have h2 := sLast_any 30 h
  rw [ex_last] at h2
  exact h2
theorem exAt {v : Value} {w : World} (h : RegAt w v exR) : Calls Try.prog 26 #[.agg #[v], .agg #[.int .i64 30, .int .i64 2]] w fun e w' => ∃ A3 c3 A4 c4, e = .returned (.tuple #[.agg #[.int .i64 30, .int .i64 2, .int .u8 2, .slice A3 0 c3, .slice A4 1 c4], .int .i64 0]) ∧ ItemsAt w' (.slice A3 0 c3) [] ∧ DimsAt w' (.slice A4 1 c4) [(150, 120, 200)] ∧ Below w.heap.size w w' := by
  refine (sAt_any 30 2 h).mono ?_
  intro e w' h3
  obtain ⟨y, x, ee, rfl, hy, haq, hb⟩ := at_yat h3 0 (Nat.zero_le _)
  have hx : x = ⟨30, 2, 2, [], [(150, 120, 200)]⟩ ∧ ee = 0 := by
    refine AtQ.one (xs := exR) (d := 30) (l := 2) (x := ⟨30, 2, 2, [], [(150, 120, 200)]⟩) (ee := 0) (.inr (.inr ⟨ex_lay, ⟨4, by decide⟩, ⟨rfl, rfl⟩, ?_, rfl, rfl⟩)) haq
    intro j hj
    have hj2 : j.1 = 0 ∨ j.1 = 1 ∨ j.1 = 2 ∨ j.1 = 3 := by simp only at hj; omega
    obtain ⟨j, hj3⟩ := j
    simp only at hj2
    rcases hj2 with rfl | rfl | rfl | rfl
    · exact fun (h : (10 : Int) = 30 ∧ (1 : Int) = 2) => absurd h.2 (by decide)
    · exact fun (h : (10 : Int) = 30 ∧ (2 : Int) = 2) => absurd h.1 (by decide)
    · exact fun (h : (20 : Int) = 30 ∧ (1 : Int) = 2) => absurd h.2 (by decide)
    · exact fun (h : (30 : Int) = 30 ∧ (1 : Int) = 2) => absurd h.2 (by decide)
  obtain ⟨rfl, rfl⟩ := hx
  obtain ⟨A3, c3, g3, A4, c4, g4, rfl, h1, h2, -, -⟩ := hy
  exact ⟨A3, c3, A4, c4, rfl, h1, h2, hb⟩
theorem exMerge {A B : Option Addr} {c d : Nat} {w : World} (h : RegAt w (.slice A exR.length c) exR) (h2 : RegAt w (.slice B exR.length d) exR) (hc : exR.length ≤ c) (hd : exR.length ≤ d) : Calls Try.prog 48 #[.agg #[.slice A exR.length c], .agg #[.slice B exR.length d]] w fun e w' => ∃ A c, e = .returned (.tuple #[.agg #[.slice A exR.length c], .int .i64 0]) ∧ RegAt w' (.slice A exR.length c) exR ∧ Below w.heap.size w w' := by
  have h3 := sMerge_any h h2 (capOfx hc) (capOfx hd)
  rw [ex_merge] at h3
  refine h3.mono ?_
  rintro e w' ⟨v, rs, rfl, ho, hm, hb⟩
  simp only at hm
  have hl : rs.length = exR.length := by rw [← hm, List.length_map]
  have hr := ho.reg (by rw [hl]; decide) (by rw [hm]; decide)
  rw [hm] at hr
  obtain ⟨A, c, g, rfl, -, -⟩ := ho.form
  rw [hl] at hr ⊢
  exact ⟨A, c, rfl, hr, hb⟩
theorem rSameInts_t {l : List Int} {u v : Value} {w : World} (h1 : IntsAt w u l) (h2 : IntsAt w v l) (hl : l.length ≤ 1000) : Calls Try.prog 25 #[u, v] w fun e w' => e = .returned (.bool true) ∧ Below w.heap.size w w' := by
  have := rSameInts_v h1 h2 hl hl
  rw [decide_eq_true rfl] at this
  exact this
theorem rSameItems_t {l : List (Int × Int)} {u v : Value} {w : World} (h1 : ItemsAt w u l) (h2 : ItemsAt w v l) (hl : l.length ≤ 1000) : Calls Try.prog 36 #[u, v] w fun e w' => e = .returned (.bool true) ∧ Below w.heap.size w w' := by
  have := rSameItems_v h1 h2 hl hl
  rw [decide_eq_true rfl] at this
  exact this
theorem rSameBranches_t {l : List (Int × Int × Int × Int)} {u v : Value} {w : World} (h1 : BranchesAt w u l) (h2 : BranchesAt w v l) (hl : l.length ≤ 1000) : Calls Try.prog 37 #[u, v] w fun e w' => e = .returned (.bool true) ∧ Below w.heap.size w w' := by
  have := rSameBranches_v h1 h2 hl hl
  rw [decide_eq_true rfl] at this
  exact this
theorem rSameChanges_t {l : List (Int × Int × Int)} {u v : Value} {w : World} (h1 : ChangesAt w u l) (h2 : ChangesAt w v l) (hl : l.length ≤ 1000) : Calls Try.prog 45 #[u, v] w fun e w' => e = .returned (.bool true) ∧ Below w.heap.size w w' := by
  have := rSameChanges_v h1 h2 hl hl
  rw [decide_eq_true rfl] at this
  exact this
end Go.Proofs.Ytdhandkddbgadaa
