/- find. -/
import Derived.Test.YtngaepgepcnhkaaJ7
import Derived.Test.YtngaepgepcnhkaaJC
namespace Go.Proofs.Ytngaepgepcnhkaa
set_option linter.unusedVariables false
set_option linter.unusedSimpArgs false
open Go.RowKit Go.Shelf
attribute [local go_sem] Oper.semAt_some

def isN (xs : List Iss) (d l : Int) (k : Fin xs.length) : Prop := xs[k].d = d ∧ xs[k].l = l
abbrev zIss : Value := .agg #[.int .i64 0, .int .i64 0, .int .u8 0, .slice none 0 0, .slice none 0 0]
/-- What find tells. -/
def FindP (xs : List Iss) (vi vd : Nat → Value) (d l : Int) (w : World) (e : Ending) (w' : World) : Prop :=
  ((∃ k : Fin xs.length, isN xs d l k ∧ (∀ j : Fin xs.length, j.1 < k.1 → ¬ isN xs d l j) ∧ e = .returned (.tuple #[.agg #[.int .i64 (xs[k].d), .int .i64 (xs[k].l), .int .u8 (xs[k].k), vi k, vd k], .bool true])) ∨
    ((∀ k : Fin xs.length, ¬ isN xs d l k) ∧ e = .returned (.tuple #[zIss, .bool false]))) ∧ Below w.heap.size w w'
theorem find_none {xs : List Iss} {d l : Int} (h : ∀ k ∈ idxs xs d, ¬ isN xs d l k) : ∀ k : Fin xs.length, ¬ isN xs d l k := by
  intro k hk
  exact h k (by unfold idxs; simpa using hk.1) hk
theorem find_some {xs : List Iss} {d l : Int} {pre : List (Fin xs.length)} {x : Fin xs.length} (hp : pre ++ [x] <+: idxs xs d) (h : ∀ k ∈ pre, ¬ isN xs d l k) : ∀ j : Fin xs.length, j.1 < x.1 → ¬ isN xs d l j := by
  intro j hj hn
  have hm : j ∈ idxs xs d := by unfold idxs; simpa using hn.1
  obtain ⟨t, ht⟩ := hp
  have hsort : (idxs xs d).Pairwise (fun a b => a.1 < b.1) := by
    unfold idxs
    exact List.Pairwise.filter _ (by have := List.pairwise_lt_finRange xs.length; exact this)
  rw [← ht] at hm hsort
  rcases List.mem_append.1 hm with hm | hm
  · rcases List.mem_append.1 hm with hm | hm
    · exact h j hm hn
    · obtain rfl := List.mem_singleton.1 hm; omega
  · have := (List.pairwise_append.1 hsort).2.2 x (by simp) j hm
    omega

set_option maxRecDepth 100000 in
set_option maxHeartbeats 4000000 in
theorem find_any (A : Option Addr) (c b off : Nat) (vN vD : Value) (xs : List Iss) (vi vd : Nat → Value) (d l : Int) (w : World) (hl : xs.length ≤ 1000) (hs : xs.Pairwise (fun x y => x.d ≤ y.d)) (hA : 0 < xs.length → A = some ⟨b, off, none⟩) (hc : IssRow w b off xs vi vd) :
    Calls Try.prog 69 #[.agg #[.slice A xs.length c, vN, vD], .agg #[.int .i64 d, .int .i64 l]] w (FindP xs vi vd d l w) := by
  have HC := Lib.hid hc
  have HA := Lib.hid hA
  have HS := Lib.hid hs
  clear hc hA hs
  refine (callsIn_wide (n := 5)).1 ?_
  refine callsIn_of_wp_marks Try.func69 rfl trivial ?_ rfl
  simp only [Try.ntmps69, List.size_toArray, List.length_cons, List.length_nil, Nat.reduceAdd, Nat.reduceSub, Array.replicate_succ, Array.replicate_zero, List.push_toArray, List.append_toArray, List.nil_append, List.cons_append]
  gi_wp2_with fail
  refine ⟨trivial, (callsIn_wide.2 (issuesOf_any _ _ _ _ _ ⟨A, xs.length, c, rfl⟩)).mono ?_⟩
  rintro e w3 ⟨rfl, rfl⟩
  gi_wp2_with fail
  obtain ⟨wR, hwR⟩ : ∃ W, ((((((w.alloc (.cells #[.slice A xs.length c, vN, vD] 118)).alloc (.cells #[.int .i64 d, .int .i64 l] 26)).alloc (.cells #[.int .i64 0, .int .i64 0, .int .u8 0, .slice none 0 0, .slice none 0 0] 45)).alloc (.cells #[.bool false] 4)).alloc (.cells #[.slice A xs.length c, vN, vD] 118)).alloc (.cells #[.int .i64 d] 3)) = W := ⟨_, rfl⟩
  have hsR : wR.heap.size = w.heap.size + 6 := by rw [← hwR]; simp
  have Mn : Lies wR (w.heap.size + 1) 26 #[.int .i64 d, .int .i64 l] := by rw [← hwR]; exact ((((Lies.new (by simp)).alloc _).alloc _).alloc _).alloc _
  have Mi : Lies wR (w.heap.size + 1 + 1) 45 #[.int .i64 0, .int .i64 0, .int .u8 0, .slice none 0 0, .slice none 0 0] := by rw [← hwR]; exact (((Lies.new (by simp)).alloc _).alloc _).alloc _
  have Mb : Lies wR (w.heap.size + 1 + 1 + 1) 4 #[.bool false] := by rw [← hwR]; exact ((Lies.new (by simp)).alloc _).alloc _
  have Md : Lies wR (w.heap.size + 1 + 1 + 1 + 1) 118 #[.slice A xs.length c, vN, vD] := by rw [← hwR]; exact (Lies.new (by simp)).alloc _
  have Mt : Lies wR (w.heap.size + 1 + 1 + 1 + 1 + 1) 3 #[.int .i64 d] := by rw [← hwR]; exact Lies.new (by simp)
  have hbR : Below w.heap.size w wR := by rw [← hwR]; (repeat' (first | (with_reducible exact Below.refl _ _) | (with_reducible assumption) | (with_reducible refine Below.alloc ?_ ?_ _) | (with_reducible refine Below.setCell ?_ ?_ _) | (with_reducible refine below_row ?_ ?_ _) | (with_reducible refine Below.drew ?_) | (with_reducible refine below_drewN ?_ _) | (with_reducible refine Below.trans ?_ (Below.mono (by assumption) ?_)) | (first | exact Nat.le_refl _ | omega | (simp; done) | (simp; omega) | (exact Below.size (by assumption)))))
  rw [hwR]
  clear hwR
  have hIter := isit_any 4 (by omega) (w.heap.size + 1 + 1 + 1 + 1) (w.heap.size + 1 + 1 + 1 + 1 + 1) A c b off vN vD xs vi vd d (fun _ => False) wR hl HS.out Md Mt HA.out (HC.out.after hbR) (fun h => h) (fun h => h) (fun _ h => h)
  refine range_own (F := Fence.wide) (X := fun _ => False) rfl (by omega) (gf := 111) rfl trivial (enters_of Try.func111 (by kernel_rfl) rfl) hIter (Below.refl _ _) (fun _ => rfl)
    (fun pre W => (∀ k ∈ pre, ¬ isN xs d l k) ∧ Lies W (w.heap.size + 1) 26 #[.int .i64 d, .int .i64 l] ∧ Lies W (w.heap.size + 1 + 1) 45 #[.int .i64 0, .int .i64 0, .int .u8 0, .slice none 0 0, .slice none 0 0] ∧ Lies W (w.heap.size + 1 + 1 + 1) 4 #[.bool false] ∧ Below w.heap.size w W)
    (fun j pre W => j = Code.ret ∧ (∃ pr x, pre = pr ++ [x] ∧ (∀ k ∈ pr, ¬ isN xs d l k) ∧ isN xs d l x ∧ Lies W (w.heap.size + 1 + 1) 45 #[.int .i64 (xs[x].d), .int .i64 (xs[x].l), .int .u8 (xs[x].k), vi x, vd x]) ∧ Lies W (w.heap.size + 1 + 1 + 1) 4 #[.bool true] ∧ Below w.heap.size w W) ?_ ?_ ⟨(fun k hk => by cases hk), Mn, Mi, Mb, hbR⟩
    (fun pre x a' W => ∃ B, wR.heap.size ≤ B ∧ a' = { tmps := #[.agg #[.slice A xs.length c, vN, vD], .agg #[.int .i64 d, .int .i64 l], .pointer (some ⟨w.heap.size, 0, none⟩), .pointer (some ⟨w.heap.size + 1, 0, none⟩), .pointer (some ⟨w.heap.size + 1 + 1, 0, none⟩), .pointer (some ⟨w.heap.size + 1 + 1 + 1, 0, none⟩), .pointer (some ⟨B, 0, none⟩), .agg #[.slice A xs.length c, vN, vD], .pointer (some ⟨w.heap.size + 1, 0, none⟩), .int .i64 d, .func (.func 111) #[] #[.pointer (some ⟨w.heap.size + 1 + 1 + 1 + 1, 0, none⟩), .pointer (some ⟨w.heap.size + 1 + 1 + 1 + 1 + 1, 0, none⟩)], .agg #[.int .i64 (xs[x].d), .int .i64 (xs[x].l), .int .u8 (xs[x].k), vi x, vd x], undef, undef, undef, undef, undef, undef], defers := [] } ∧ Lies W B 45 #[.int .i64 (xs[x].d), .int .i64 (xs[x].l), .int .u8 (xs[x].k), vi x, vd x] ∧
      (∀ k ∈ pre, ¬ isN xs d l k) ∧ Lies W (w.heap.size + 1) 26 #[.int .i64 d, .int .i64 l] ∧ Lies W (w.heap.size + 1 + 1) 45 #[.int .i64 0, .int .i64 0, .int .u8 0, .slice none 0 0, .slice none 0 0] ∧ Lies W (w.heap.size + 1 + 1 + 1) 4 #[.bool false] ∧ Below w.heap.size w W) ?_ ?assign ?body ?done ?stop
  · rintro pre A' B row ⟨i1, i2, i3, i5, i4⟩ hg hr
    exact ⟨i1, i2.turned hg (by omega) hr, i3.turned hg (by omega) hr, i5.turned hg (by omega) hr, i4.grown hg (by have := i4.size; omega) (fun k e => by have := hr k e; omega)⟩
  · rintro j pre A' B row ⟨i1, ⟨pr, x, e1, e2, e3, i2⟩, i3, i4⟩ hg hr
    exact ⟨i1, ⟨pr, x, e1, e2, e3, i2.turned hg (by omega) hr⟩, i3.turned hg (by omega) hr, i4.grown hg (by have := i4.size; omega) (fun k e => by have := hr k e; omega)⟩
  · rintro pre x a' W l' o o' ⟨B, hB, rfl, j1, j2, j3, j4, j6, j5⟩ hl' ho hcl
    exact ⟨B, hB, rfl, j1.put o' ho hcl, j2, j3.put o' ho hcl, j4.put o' ho hcl, j6.put o' ho hcl, j5.grown (grown_put o') (by have := j5.size; omega) (fun k e => by injection e with e; omega)⟩
  case assign =>
    rintro l' pre x W K ⟨i1, i2, i3, i5, i4⟩ hsW hK
    have HI2 := Lib.hid i2
    have HI3 := Lib.hid i3
    have HI5 := Lib.hid i5
    have HK := Lib.hid hK
    clear i2 i3 i5 hK
    obtain ⟨e1, e2⟩ := HC.out.slices x.2
    unfold encF
    generalize vi x = v1 at *
    generalize vd x = v2 at *
    obtain ⟨A1, n1, c1, rfl⟩ := e1
    obtain ⟨A2, n2, c2, rfl⟩ := e2
    gi_wp2
    refine HK.out _ _ (KeepsOthers.alloc _ _) ⟨by simp, fun g cs t fr _ e => (Below.heap_alloc _ _ g (Array.getElem?_eq_some_iff.1 e).1).trans e⟩ ⟨W.heap.size, hsW, rfl, Lies.made _ _ _, i1, HI2.out.alloc _, HI3.out.alloc _, HI5.out.alloc _, i4.alloc (by have := i4.size; omega) _⟩
  case body =>
    rintro l' pre x a' W ⟨B, hB, rfl, j1, j2, j3, j4, j6, j5⟩ hsW
    have x0 := j1.cell 0
    have x1 := j1.cell 1
    have x2 := j1.cell 2
    have x3 := j1.cell 3
    have x4 := j1.cell 4
    have n0 := j3.cell 0
    have n1 := j3.cell 1
    have z0 := j1.lt
    have z1 := j3.lt
    have z2 := j4.lt
    have z3 := j6.lt
    have J1 := Lib.hid j1
    have J3 := Lib.hid j3
    have J4 := Lib.hid j4
    have J6 := Lib.hid j6
    clear j1 j3 j4 j6
    obtain ⟨e1, e2⟩ := HC.out.slices x.2
    have HN := Lib.hid (fun W => nameOf_any xs[x].d xs[x].l xs[x].k (vi x) (vd x) W)
    have hnx : isN xs d l x = (xs[x].d = d ∧ xs[x].l = l) := rfl
    have HNX := Lib.hid hnx
    clear hnx
    generalize hdx : xs[x].d = dx at *
    generalize hlx : xs[x].l = lx at *
    generalize hkx : xs[x].k = kx at *
    have HDX := Lib.hid hdx
    have HLX := Lib.hid hlx
    have HKX := Lib.hid hkx
    clear hdx hlx hkx
    gi_wp2_with fail
    have hmx : Try.prog.follows .mixedOrders = true := by kernel_rfl
    by_cases h1 : dx = d <;> by_cases h2 : lx = l
    all_goals
      first | (have b1 : (dx == d) = true := by simpa using h1) | (have b1 : (dx == d) = false := by simpa using h1)
      first | (have b2 : (lx == l) = true := by simpa using h2) | (have b2 : (lx == l) = false := by simpa using h2)
      have HH1 := Lib.hid h1
      have HH2 := Lib.hid h2
      clear h1 h2
    · gi_region_with_o (refine ⟨trivial, ?_⟩; gi_at_call 83; refine (CallsIn.inRound l' (callsIn_wide.2 (HN.out _))).mono ?_; rintro e w1 ⟨rfl, hb1⟩; have N3 := (J3.out.drew).after hb1; have m0 := N3.cell 0; have m1 := N3.cell 1)
      all_goals
        have N1 := Lib.hid ((J1.out.drew).after hb1)
        have N4 := Lib.hid ((J4.out.drew).after hb1)
        have N6 := Lib.hid ((J6.out.drew).after hb1)
        have hb2 : Below w.heap.size w w1 := (j5.drew).trans (hb1.mono j5.size)
        have HKO := Lib.hid ((KeepsOthers.drew W).trans (KeepsOthers.of_below hb1))
        have HCK := Lib.hid ((CellsKept.of_below (X := fun _ => False) (Below.drew (Below.refl _ W))).trans (CellsKept.of_below hb1))
        clear hb1 m0 m1 x0 x1 x2 x3 x4 n0 n1 HN b1 b2
        have x0 := N1.out.cell 0
        have x1 := N1.out.cell 1
        have x2 := N1.out.cell 2
        have x3 := N1.out.cell 3
        have x4 := N1.out.cell 4
        have y0 := N4.out.cell 0
        have y1 := N4.out.cell 1
        have y2 := N4.out.cell 2
        have y3 := N4.out.cell 3
        have y4 := N4.out.cell 4
        have f0 := N4.out.free 0
        have f1 := N4.out.free 1
        have f2 := N4.out.free 2
        have f3 := N4.out.free 3
        have f4 := N4.out.free 4
        have y5 := N6.out.cell 0
        have f5 := N6.out.free 0
        have z1 := N4.out.lt
        have z2 := N6.out.lt
        obtain ⟨A1, n1, c1, e1⟩ := e1
        obtain ⟨A2, n2, c2, e2⟩ := e2
        rw [e1] at x3
        rw [e2] at x4
        gi_wp2
        refine ⟨(((((((HKO.out).trans (KeepsOthers.setCell _ _ _)).trans (KeepsOthers.setCell _ _ _)).trans (KeepsOthers.setCell _ _ _)).trans (KeepsOthers.setCell _ _ _)).trans (KeepsOthers.setCell _ _ _)).trans (KeepsOthers.setCell _ _ _)), rfl, ⟨pre, x, rfl, j2, by rw [HNX.out]; exact ⟨HH1.out, HH2.out⟩, ?_⟩, ?_, ?_⟩
        · rw [HDX.out, HLX.out, HKX.out, e1, e2]
          exact (((((N4.out.store 0 _).store 1 _).store 2 _).store 3 _).store 4 _).other (by show _ ≠ w.heap.size + 1 + 1 + 1; omega) _
        · exact ((((((N6.out.other (by show _ ≠ w.heap.size + 1 + 1; omega) _).other (by show _ ≠ w.heap.size + 1 + 1; omega) _).other (by show _ ≠ w.heap.size + 1 + 1; omega) _).other (by show _ ≠ w.heap.size + 1 + 1; omega) _).other (by show _ ≠ w.heap.size + 1 + 1; omega) _).store 0 _)
        · exact (((((hb2.setCell (p := ⟨w.heap.size + 1 + 1, 0, none⟩) (by simp; omega) _).setCell (p := ⟨w.heap.size + 1 + 1, 1, none⟩) (by simp; omega) _).setCell (p := ⟨w.heap.size + 1 + 1, 2, none⟩) (by simp; omega) _).setCell (p := ⟨w.heap.size + 1 + 1, 3, none⟩) (by simp; omega) _).setCell (p := ⟨w.heap.size + 1 + 1, 4, none⟩) (by simp; omega) _).setCell (p := ⟨w.heap.size + 1 + 1 + 1, 0, none⟩) (by simp; omega) _
    · gi_region_with_o (refine ⟨trivial, ?_⟩; gi_at_call 83; refine (CallsIn.inRound l' (callsIn_wide.2 (HN.out _))).mono ?_; rintro e w1 ⟨rfl, hb1⟩; have N3 := (J3.out.drew).after hb1; have m0 := N3.cell 0; have m1 := N3.cell 1)
      all_goals
        have N1 := Lib.hid ((J1.out.drew).after hb1)
        have N4 := Lib.hid ((J4.out.drew).after hb1)
        have N6 := Lib.hid ((J6.out.drew).after hb1)
        have hb2 : Below w.heap.size w w1 := (j5.drew).trans (hb1.mono j5.size)
        have HKO := Lib.hid ((KeepsOthers.drew W).trans (KeepsOthers.of_below hb1))
        have HCK := Lib.hid ((CellsKept.of_below (X := fun _ => False) (Below.drew (Below.refl _ W))).trans (CellsKept.of_below hb1))
        clear hb1 m0 m1 x0 x1 x2 x3 x4 n0 n1 HN b1 b2
        gi_wp2
        refine ⟨HKO.out, HCK.out, ?_, N3, N4.out, N6.out, hb2⟩
        intro k hk
        rcases List.mem_append.1 hk with hk | hk
        · exact j2 k hk
        · obtain rfl := List.mem_singleton.1 hk
          rw [HNX.out]
          rintro ⟨q1, q2⟩
          first | exact HH1.out q1 | exact HH2.out q2
    · gi_region_with_o (refine ⟨trivial, ?_⟩; gi_at_call 83; refine (CallsIn.inRound l' (callsIn_wide.2 (HN.out _))).mono ?_; rintro e w1 ⟨rfl, hb1⟩; have N3 := (J3.out.drew).after hb1; have m0 := N3.cell 0; have m1 := N3.cell 1)
      all_goals
        have N1 := Lib.hid ((J1.out.drew).after hb1)
        have N4 := Lib.hid ((J4.out.drew).after hb1)
        have N6 := Lib.hid ((J6.out.drew).after hb1)
        have hb2 : Below w.heap.size w w1 := (j5.drew).trans (hb1.mono j5.size)
        have HKO := Lib.hid ((KeepsOthers.drew W).trans (KeepsOthers.of_below hb1))
        have HCK := Lib.hid ((CellsKept.of_below (X := fun _ => False) (Below.drew (Below.refl _ W))).trans (CellsKept.of_below hb1))
        clear hb1 m0 m1 x0 x1 x2 x3 x4 n0 n1 HN b1 b2
        gi_wp2
        refine ⟨HKO.out, HCK.out, ?_, N3, N4.out, N6.out, hb2⟩
        intro k hk
        rcases List.mem_append.1 hk with hk | hk
        · exact j2 k hk
        · obtain rfl := List.mem_singleton.1 hk
          rw [HNX.out]
          rintro ⟨q1, q2⟩
          first | exact HH1.out q1 | exact HH2.out q2
    · gi_region_with_o (refine ⟨trivial, ?_⟩; gi_at_call 83; refine (CallsIn.inRound l' (callsIn_wide.2 (HN.out _))).mono ?_; rintro e w1 ⟨rfl, hb1⟩; have N3 := (J3.out.drew).after hb1; have m0 := N3.cell 0; have m1 := N3.cell 1)
      all_goals
        have N1 := Lib.hid ((J1.out.drew).after hb1)
        have N4 := Lib.hid ((J4.out.drew).after hb1)
        have N6 := Lib.hid ((J6.out.drew).after hb1)
        have hb2 : Below w.heap.size w w1 := (j5.drew).trans (hb1.mono j5.size)
        have HKO := Lib.hid ((KeepsOthers.drew W).trans (KeepsOthers.of_below hb1))
        have HCK := Lib.hid ((CellsKept.of_below (X := fun _ => False) (Below.drew (Below.refl _ W))).trans (CellsKept.of_below hb1))
        clear hb1 m0 m1 x0 x1 x2 x3 x4 n0 n1 HN b1 b2
        gi_wp2
        refine ⟨HKO.out, HCK.out, ?_, N3, N4.out, N6.out, hb2⟩
        intro k hk
        rcases List.mem_append.1 hk with hk | hk
        · exact j2 k hk
        · obtain rfl := List.mem_singleton.1 hk
          rw [HNX.out]
          rintro ⟨q1, q2⟩
          first | exact HH1.out q1 | exact HH2.out q2
  case done =>
    rintro D ks W hD rfl ⟨i1, i2, i3, i5, i4⟩ hK
    have HF := Lib.hid (find_none i1)
    have HI3 := Lib.hid i3
    have HI5 := Lib.hid i5
    have HKK := Lib.hid hK
    have y0 := HI3.out.cell 0
    have y1 := HI3.out.cell 1
    have y2 := HI3.out.cell 2
    have y3 := HI3.out.cell 3
    have y4 := HI3.out.cell 4
    have f0 := HI3.out.free 0
    have f1 := HI3.out.free 1
    have f2 := HI3.out.free 2
    have f3 := HI3.out.free 3
    have f4 := HI3.out.free 4
    have y5 := HI5.out.cell 0
    have f5 := HI5.out.free 0
    have z1 := HI3.out.lt
    have z2 := HI5.out.lt
    clear i1 i2 i3 i5 hK
    gi_wp2
    obtain ⟨W9, hW9⟩ : ∃ W9, ((((((W.setCell ⟨w.heap.size + 1 + 1, 0, none⟩ (.int .i64 0)).setCell ⟨w.heap.size + 1 + 1, 1, none⟩ (.int .i64 0)).setCell ⟨w.heap.size + 1 + 1, 2, none⟩ (.int .u8 0)).setCell ⟨w.heap.size + 1 + 1, 3, none⟩ (.slice none 0 0)).setCell ⟨w.heap.size + 1 + 1, 4, none⟩ (.slice none 0 0)).setCell ⟨w.heap.size + 1 + 1 + 1, 0, none⟩ (.bool false)) = W9 := ⟨_, rfl⟩
    have M4 : Lies W9 (w.heap.size + 1 + 1) 45 #[.int .i64 0, .int .i64 0, .int .u8 0, .slice none 0 0, .slice none 0 0] := by
      rw [← hW9]
      exact (((((HI3.out.store 0 _).store 1 _).store 2 _).store 3 _).store 4 _).other (by show _ ≠ w.heap.size + 1 + 1 + 1; omega) _
    have M5 : Lies W9 (w.heap.size + 1 + 1 + 1) 4 #[.bool false] := by
      rw [← hW9]
      exact ((((((HI5.out.other (by show _ ≠ w.heap.size + 1 + 1; omega) _).other (by show _ ≠ w.heap.size + 1 + 1; omega) _).other (by show _ ≠ w.heap.size + 1 + 1; omega) _).other (by show _ ≠ w.heap.size + 1 + 1; omega) _).other (by show _ ≠ w.heap.size + 1 + 1; omega) _).store 0 _)
    have hK9 : W9.heap[D]? = some (.deferred (some [])) := by
      rw [← hW9]
      exact ((((((KeepsOthers.setCell _ _ _).trans (KeepsOthers.setCell _ _ _)).trans (KeepsOthers.setCell _ _ _)).trans (KeepsOthers.setCell _ _ _)).trans (KeepsOthers.setCell _ _ _)).trans (KeepsOthers.setCell _ _ _)).same _ _ HKK.out rfl
    have hB9 : Below w.heap.size w W9 := by
      rw [← hW9]
      exact (((((i4.setCell (p := ⟨w.heap.size + 1 + 1, 0, none⟩) (by simp; omega) _).setCell (p := ⟨w.heap.size + 1 + 1, 1, none⟩) (by simp; omega) _).setCell (p := ⟨w.heap.size + 1 + 1, 2, none⟩) (by simp; omega) _).setCell (p := ⟨w.heap.size + 1 + 1, 3, none⟩) (by simp; omega) _).setCell (p := ⟨w.heap.size + 1 + 1, 4, none⟩) (by simp; omega) _).setCell (p := ⟨w.heap.size + 1 + 1 + 1, 0, none⟩) (by simp; omega) _
    rw [hW9]
    clear hW9
    refine ⟨by simp, .inl ⟨_, _, rfl, run_takeDeferred hK9, ?_⟩⟩
    refine ⟨_, results_two_cells rfl _ _ (w.heap.size + 1 + 1) (w.heap.size + 1 + 1 + 1) _ _ _ _ _ _ rfl rfl (M4.put _ hK9 rfl) (M5.put _ hK9 rfl) Try.underlying45 rfl (by kernel_rfl) Try.underlying4 rfl, .inr ⟨HF.out, rfl⟩, ?_⟩
    exact hB9.grown (grown_put _) (by have := hB9.size; omega) (fun k e => by injection e with e; omega)
  case stop =>
    rintro D cd pre W hD hpre ⟨rfl, ⟨pr, x, rfl, e2, e3, i2⟩, i3, i4⟩ hK
    have HF := Lib.hid (find_some hpre e2)
    have HE3 := Lib.hid e3
    have HI2 := Lib.hid i2
    have HI3 := Lib.hid i3
    have HKK := Lib.hid hK
    clear i2 i3 hK e2 e3
    gi_wp2
    refine ⟨by simp, .inl ⟨_, _, rfl, run_takeDeferred HKK.out, ?_⟩⟩
    refine ⟨_, results_two_cells rfl _ _ (w.heap.size + 1 + 1) (w.heap.size + 1 + 1 + 1) _ _ _ _ _ _ rfl rfl (HI2.out.put _ HKK.out rfl) (HI3.out.put _ HKK.out rfl) Try.underlying45 rfl (by kernel_rfl) Try.underlying4 rfl, .inl ⟨x, HE3.out, HF.out, rfl⟩, ?_⟩
    exact i4.grown (grown_put _) (by have := i4.size; omega) (fun k e => by injection e with e; omega)
end Go.Proofs.Ytngaepgepcnhkaa
