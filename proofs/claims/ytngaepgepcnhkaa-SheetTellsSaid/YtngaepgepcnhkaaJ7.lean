/- needs. -/
import Derived.Test.YtngaepgepcnhkaaJ6
namespace Go.Proofs.Ytngaepgepcnhkaa
set_option linter.unusedVariables false
set_option linter.unusedSimpArgs false
open Go.RowKit Go.Shelf
attribute [local go_sem] Oper.semAt_some

def hitI (xs : List Iss) (S : Int → Bool) (k : Fin xs.length) : Bool := xs[k].items.any fun it => S it.1
def needB (xs : List Iss) (d : Int) (S : Int → Bool) : Bool := xs.any fun x => decide (x.d = d) && x.items.any fun it => S it.1
theorem needB_no {xs : List Iss} {d : Int} {S : Int → Bool} (h : ∀ k ∈ idxs xs d, hitI xs S k = false) : needB xs d S = false := by
  unfold needB
  rw [List.any_eq_false]
  intro x hx
  obtain ⟨k, hk, rfl⟩ := List.getElem_of_mem hx
  by_cases e : xs[k].d = d
  · have := h ⟨k, hk⟩ (by unfold idxs; simp [e])
    simp only [hitI] at this
    simp only [e, decide_true, Bool.true_and]
    simpa using this
  · simp [e]
theorem needB_yes {xs : List Iss} {d : Int} {S : Int → Bool} {pre : List (Fin xs.length)} (hp : pre <+: idxs xs d) (h : ∃ k ∈ pre, hitI xs S k = true) : needB xs d S = true := by
  obtain ⟨k, hk, hh⟩ := h
  have hm := hp.subset hk
  unfold idxs at hm
  simp only [List.mem_filter, decide_eq_true_eq] at hm
  unfold needB
  rw [List.any_eq_true]
  exact ⟨xs[k], List.getElem_mem k.2, by simp only [hitI] at hh; simp only [hm.2, decide_true, Bool.true_and]; exact hh⟩

set_option maxRecDepth 100000 in
set_option maxHeartbeats 4000000 in
theorem needs_any (A : Option Addr) (c b off : Nat) (vN vD : Value) (xs : List Iss) (vi vd : Nat → Value) (d : Int) (m n : Nat) (S : Int → Bool) (w : World) (hl : xs.length ≤ 1000) (hs : xs.Pairwise (fun x y => x.d ≤ y.d)) (hA : 0 < xs.length → A = some ⟨b, off, none⟩) (hc : IssRow w b off xs vi vd)
    (hit : ∀ x ∈ xs, x.items.length ≤ 1000 ∧ ∀ it ∈ x.items, NIn it.1) (hm : BMap w m n S) :
    Calls Try.prog 127 #[.agg #[.slice A xs.length c, vN, vD], .int .i64 d, .map (some m)] w fun e w' => e = .returned (.bool (needB xs d S)) ∧ Below w.heap.size w w' := by
  have HC := Lib.hid hc
  have HA := Lib.hid hA
  have HS := Lib.hid hs
  have HIT := Lib.hid hit
  have HM := Lib.hid hm
  have hmlt := hm.lt
  clear hc hA hs hit hm
  refine (callsIn_wide (n := 5)).1 ?_
  refine callsIn_of_wp_marks Try.func127 rfl trivial ?_ rfl
  simp only [Try.ntmps127, List.size_toArray, List.length_cons, List.length_nil, Nat.reduceAdd, Nat.reduceSub, Array.replicate_succ, Array.replicate_zero, List.push_toArray, List.append_toArray, List.nil_append, List.cons_append]
  gi_wp2_with fail
  refine ⟨trivial, (callsIn_wide.2 (issuesOf_any _ _ _ _ _ ⟨A, xs.length, c, rfl⟩)).mono ?_⟩
  rintro e w3 ⟨rfl, rfl⟩
  gi_wp2_with fail
  obtain ⟨wR, hwR⟩ : ∃ W, (((((w.alloc (.cells #[.slice A xs.length c, vN, vD] 118)).alloc (.cells #[.map (some m)] 112)).alloc (.cells #[.bool false] 4)).alloc (.cells #[.slice A xs.length c, vN, vD] 118)).alloc (.cells #[.int .i64 d] 3)) = W := ⟨_, rfl⟩
  have hsR : wR.heap.size = w.heap.size + 5 := by rw [← hwR]; simp
  have Mm : Lies wR (w.heap.size + 1) 112 #[.map (some m)] := by rw [← hwR]; exact (((Lies.new (by simp)).alloc _).alloc _).alloc _
  have Mr : Lies wR (w.heap.size + 1 + 1) 4 #[.bool false] := by rw [← hwR]; exact ((Lies.new (by simp)).alloc _).alloc _
  have Md : Lies wR (w.heap.size + 1 + 1 + 1) 118 #[.slice A xs.length c, vN, vD] := by rw [← hwR]; exact (Lies.new (by simp)).alloc _
  have Mt : Lies wR (w.heap.size + 1 + 1 + 1 + 1) 3 #[.int .i64 d] := by rw [← hwR]; exact Lies.new (by simp)
  have hbR : Below w.heap.size w wR := by rw [← hwR]; (repeat' (first | (with_reducible exact Below.refl _ _) | (with_reducible assumption) | (with_reducible refine Below.alloc ?_ ?_ _) | (with_reducible refine Below.setCell ?_ ?_ _) | (with_reducible refine below_row ?_ ?_ _) | (with_reducible refine Below.drew ?_) | (with_reducible refine below_drewN ?_ _) | (with_reducible refine Below.trans ?_ (Below.mono (by assumption) ?_)) | (first | exact Nat.le_refl _ | omega | (simp; done) | (simp; omega) | (exact Below.size (by assumption)))))
  rw [hwR]
  clear hwR
  have hIter := isit_any 4 (by omega) (w.heap.size + 1 + 1 + 1) (w.heap.size + 1 + 1 + 1 + 1) A c b off vN vD xs vi vd d (fun _ => False) wR hl HS.out Md Mt HA.out (HC.out.after hbR) (fun h => h) (fun h => h) (fun _ h => h)
  refine range_own (F := Fence.wide) (X := fun _ => False) rfl (by omega) (gf := 111) rfl trivial (enters_of Try.func111 (by kernel_rfl) rfl) hIter (Below.refl _ _) (fun _ => rfl)
    (fun pre W => (∀ k ∈ pre, hitI xs S k = false) ∧ Lies W (w.heap.size + 1) 112 #[.map (some m)] ∧ Lies W (w.heap.size + 1 + 1) 4 #[.bool false] ∧ Below w.heap.size w W)
    (fun j pre W => j = Code.ret ∧ (∃ k ∈ pre, hitI xs S k = true) ∧ Lies W (w.heap.size + 1 + 1) 4 #[.bool true] ∧ Below w.heap.size w W) ?_ ?_ ⟨(fun k hk => by cases hk), Mm, Mr, hbR⟩
    (fun pre x a' W => ∃ B, wR.heap.size ≤ B ∧ a' = { tmps := #[.agg #[.slice A xs.length c, vN, vD], .int .i64 d, .map (some m), .pointer (some ⟨w.heap.size, 0, none⟩), undef, .pointer (some ⟨w.heap.size + 1, 0, none⟩), .pointer (some ⟨w.heap.size + 1 + 1, 0, none⟩), .pointer (some ⟨B, 0, none⟩), .agg #[.slice A xs.length c, vN, vD], .int .i64 d, .func (.func 111) #[] #[.pointer (some ⟨w.heap.size + 1 + 1 + 1, 0, none⟩), .pointer (some ⟨w.heap.size + 1 + 1 + 1 + 1, 0, none⟩)], .agg #[.int .i64 (xs[x].d), .int .i64 (xs[x].l), .int .u8 (xs[x].k), vi x, vd x], undef, undef, undef, undef], defers := [] } ∧ Lies W B 45 #[.int .i64 (xs[x].d), .int .i64 (xs[x].l), .int .u8 (xs[x].k), vi x, vd x] ∧
      (∀ k ∈ pre, hitI xs S k = false) ∧ Lies W (w.heap.size + 1) 112 #[.map (some m)] ∧ Lies W (w.heap.size + 1 + 1) 4 #[.bool false] ∧ Below w.heap.size w W) ?_ ?assign ?body ?done ?stop
  · rintro pre A' B row ⟨i1, i2, i3, i4⟩ hg hr
    exact ⟨i1, i2.turned hg (by omega) hr, i3.turned hg (by omega) hr, i4.grown hg (by have := i4.size; omega) (fun k e => by have := hr k e; omega)⟩
  · rintro j pre A' B row ⟨i1, i2, i3, i4⟩ hg hr
    exact ⟨i1, i2, i3.turned hg (by omega) hr, i4.grown hg (by have := i4.size; omega) (fun k e => by have := hr k e; omega)⟩
  · rintro pre x a' W l' o o' ⟨B, hB, rfl, j1, j2, j3, j4, j5⟩ hl' ho hcl
    exact ⟨B, hB, rfl, j1.put o' ho hcl, j2, j3.put o' ho hcl, j4.put o' ho hcl, j5.grown (grown_put o') (by have := j5.size; omega) (fun k e => by injection e with e; omega)⟩
  case assign =>
    rintro l' pre x W K ⟨i1, i2, i3, i4⟩ hsW hK
    have HI2 := Lib.hid i2
    have HI3 := Lib.hid i3
    have HK := Lib.hid hK
    clear i2 i3 hK
    obtain ⟨e1, e2⟩ := HC.out.slices x.2
    unfold encF
    generalize vi x = v1 at *
    generalize vd x = v2 at *
    obtain ⟨A1, n1, c1, rfl⟩ := e1
    obtain ⟨A2, n2, c2, rfl⟩ := e2
    gi_wp2
    refine HK.out _ _ (KeepsOthers.alloc _ _) ⟨by simp, fun g cs t fr _ e => (Below.heap_alloc _ _ g (Array.getElem?_eq_some_iff.1 e).1).trans e⟩ ⟨W.heap.size, hsW, rfl, Lies.made _ _ _, i1, HI2.out.alloc _, HI3.out.alloc _, i4.alloc (by have := i4.size; omega) _⟩
  case body =>
    rintro l' pre x a' W ⟨B, hB, rfl, j1, j2, j3, j4, j5⟩ hsW
    have x0 := j1.cell 3
    have q0 := j4.cell 0
    have g0 := j4.free 0
    have z0 := j1.lt
    have z1 := j3.lt
    have z2 := j4.lt
    have J3 := Lib.hid j3
    have J4 := Lib.hid j4
    clear j1 j3 j4
    have hx := HIT.out xs[x] (List.getElem_mem x.2)
    obtain ⟨Ai, ci, bi, oi, hvi, hAi, hci⟩ : ItemsAt W (vi x) xs[x].items := ((HC.out x x.2).2.2.2.2.2.2.1).after j5
    rw [hvi] at x0 ⊢
    have HCF : Hid (∀ W', Below W.heap.size W W' → Calls Try.prog 81 #[.slice Ai xs[x].items.length ci, .func (.func 137) #[] #[.pointer (some ⟨w.heap.size + 1, 0, none⟩)]] W' fun e w' => e = .returned (.bool (hitI xs S x)) ∧ Below W'.heap.size W' w') :=
      Lib.hid (fun W' hW' => hasI_any 137 #[.pointer (some ⟨w.heap.size + 1, 0, none⟩)] (fun it => S it.1) Ai ci bi oi xs[x].items W' hAi hx.1 (fun i hi => ⟨cell_keep hW' (hci i hi).1, cell_keep hW' (hci i hi).2⟩) enter_n1
        (fun it hit W2 hW2 => needs1_any S m n (w.heap.size + 1) it.1 it.2 W2 (hx.2 it hit) (((HM.out.after j5).after hW').after hW2) ((J3.out.after hW').after hW2)))
    have hmf : ∀ (fn : Fn) (first cap : Array Value) (w : World), (Instr.makeFunc fn first cap).run Try.prog w = .ok (.func fn first cap) w := fun _ _ _ _ => rfl
    have HH : Hid (∃ r, hitI xs S x = r) := Lib.hid ⟨_, rfl⟩
    obtain ⟨r, hr⟩ := HH.out
    have HR := Lib.hid hr
    rw [hr] at HCF
    clear hr HH hvi hci hAi hx
    gi_wp2_with fail
    refine ⟨trivial, (CallsIn.inRound l' (callsIn_wide.2 (HCF.out _ (Below.refl _ _)))).mono ?_⟩
    rintro e w1 ⟨rfl, hb1⟩
    have N3 := Lib.hid (J3.out.after hb1)
    have N4 := Lib.hid (J4.out.after hb1)
    have q0 := N4.out.cell 0
    have g0 := N4.out.free 0
    have z3 := N4.out.lt
    have hb2 : Below w.heap.size w w1 := j5.trans (hb1.mono j5.size)
    have HB1 := Lib.hid hb1
    clear hb1
    cases r
    · gi_wp2
      refine ⟨KeepsOthers.of_below HB1.out, CellsKept.of_below HB1.out, ?_, N3.out, N4.out, hb2⟩
      intro k hk
      rcases List.mem_append.1 hk with hk | hk
      · exact j2 k hk
      · obtain rfl := List.mem_singleton.1 hk
        exact HR.out
    · gi_wp2
      refine ⟨(KeepsOthers.of_below HB1.out).trans (KeepsOthers.setCell _ _ _), rfl, ⟨x, List.mem_append_right _ (List.mem_singleton.2 rfl), HR.out⟩, N4.out.store 0 _, hb2.setCell (p := ⟨w.heap.size + 1 + 1, 0, none⟩) (by simp; omega) _⟩
  case done =>
    rintro D ks W hD rfl ⟨i1, i2, i3, i4⟩ hK
    have HF := Lib.hid (needB_no i1)
    have HI3 := Lib.hid i3
    have HKK := Lib.hid hK
    have q0 := i3.cell 0
    have g0 := i3.free 0
    have z1 := i3.lt
    clear i1 i2 i3 hK
    gi_wp2
    have hK' : (W.setCell ⟨w.heap.size + 1 + 1, 0, none⟩ (.bool false)).heap[D]? = some (.deferred (some [])) := (Below.heap_setCell _ _ _ D (by show D ≠ w.heap.size + 1 + 1; omega)).trans HKK.out
    refine ⟨by simp, .inl ⟨_, _, rfl, run_takeDeferred hK', ?_⟩⟩
    have M := (HI3.out.store 0 (.bool false)).put (.deferred none) hK' rfl
    refine ⟨.bool false, by simp [results, Try.results127, go_sem, M.cell 0], by rw [HF.out], ?_⟩
    exact (i4.setCell (p := ⟨w.heap.size + 1 + 1, 0, none⟩) (by simp; omega) _).grown (grown_put _) (by have := i4.size; simp; omega) (fun k e => by injection e with e; omega)
  case stop =>
    rintro D cd pre W hD hpre ⟨rfl, i2, i3, i4⟩ hK
    have HF := Lib.hid (needB_yes hpre i2)
    have HI3 := Lib.hid i3
    have HKK := Lib.hid hK
    clear i2 i3 hK
    gi_wp2
    refine ⟨by simp, .inl ⟨_, _, rfl, run_takeDeferred HKK.out, ?_⟩⟩
    have M := HI3.out.put (.deferred none) HKK.out rfl
    refine ⟨.bool true, by simp [results, Try.results127, go_sem, M.cell 0], by rw [HF.out], ?_⟩
    exact i4.grown (grown_put _) (by have := i4.size; omega) (fun k e => by injection e with e; omega)
end Go.Proofs.Ytngaepgepcnhkaa
