/- slices.AppendSeq and slices.Collect over the issues of a drawing. -/
import Derived.Test.YtkjfceajakhlfaaVA
import Derived.Test.YtkjfceajakhlfaaLE
import Derived.RangeFuncBox
namespace Go.Proofs.Ytkjfceajakhlfaa
set_option linter.unusedVariables false
set_option linter.unusedSimpArgs false
open Go.RowKit Go.Shelf
attribute [local go_sem] Oper.semAt_some

/-- Issues as they lie, one behind the other. -/
def rowsF (xs : List Iss) (vi vd : Nat → Value) (ks : List (Fin xs.length)) : List Value := ks.flatMap fun (x : Fin xs.length) => [.int .i64 (xs[x].d), .int .i64 (xs[x].l), .int .u8 (xs[x].k), vi x, vd x]
theorem rowsF_len (xs : List Iss) (vi vd : Nat → Value) (ks : List (Fin xs.length)) : (rowsF xs vi vd ks).length = ks.length * 5 := by
  induction ks with
  | nil => rfl
  | cons x r ih => unfold rowsF at *; simp only [List.flatMap_cons, List.length_append, ih, List.length_cons, List.length_nil]; omega
theorem rowsF_snoc (xs : List Iss) (vi vd : Nat → Value) (ks : List (Fin xs.length)) (x : Fin xs.length) : rowsF xs vi vd (ks ++ [x]) = rowsF xs vi vd ks ++ [.int .i64 (xs[x].d), .int .i64 (xs[x].l), .int .u8 (xs[x].k), vi x, vd x] := by
  unfold rowsF; rw [List.flatMap_append]; rfl
theorem infoF : (Try.prog.info? 45).map (fun i => (i.zero, i.size, i.bytes)) = some (some zIss, 5, 72) := by kernel_rfl
theorem idxs_le (xs : List Iss) (t : Int) : (idxs xs t).length ≤ xs.length := by
  unfold idxs
  exact Nat.le_trans (List.length_filter_le _ _) (by simp)

set_option maxRecDepth 100000 in
set_option maxHeartbeats 8000000 in
theorem appendSeq_any (dB nB : Nat) (A : Option Addr) (c b off : Nat) (vN vD : Value) (xs : List Iss) (vi vd : Nat → Value) (t : Int) (w : World) (hl : xs.length ≤ 1000) (hs : xs.Pairwise (fun x y => x.d ≤ y.d))
    (hd : Lies w dB 118 #[.slice A xs.length c, vN, vD]) (ht : Lies w nB 3 #[.int .i64 t]) (hA : 0 < xs.length → A = some ⟨b, off, none⟩) (hc : IssRow w b off xs vi vd) :
    Calls Try.prog 123 #[.slice none 0 0, .func (.func 111) #[] #[.pointer (some ⟨dB, 0, none⟩), .pointer (some ⟨nB, 0, none⟩)]] w fun e w' => ∃ v, e = .returned v ∧ w'.ownsRow w.heap.size 45 5 v (idxs xs t).length (rowsF xs vi vd (idxs xs t)) ∧ Below w.heap.size w w' := by
  have HC := Lib.hid hc
  have HLE := Lib.hid (fun pre (h : pre <+: idxs xs t) => Nat.le_trans h.length_le (idxs_le xs t))
  obtain ⟨j0, hj0, hx0, hx1, hx2⟩ := info_parts infoF
  have hdl := hd.lt
  have htl := ht.lt
  refine (callsIn_wide (n := 5)).1 ?_
  refine callsIn_of_wp_marks Try.func123 rfl trivial ?_ rfl
  simp only [Try.ntmps123, List.size_toArray, List.length_cons, List.length_nil, Nat.reduceAdd, Nat.reduceSub, Array.replicate_succ, Array.replicate_zero, List.push_toArray, List.append_toArray, List.nil_append, List.cons_append]
  gi_wp2_with fail
  obtain ⟨wR, hwR⟩ : ∃ W, w.alloc (.cells #[.slice none 0 0] 22) = W := ⟨_, rfl⟩
  have hsR : wR.heap.size = w.heap.size + 1 := by rw [← hwR]; simp
  have Mb : Boxed wR w.heap.size 22 (.slice none 0 0) := by rw [← hwR]; exact Boxed.new _ _ _
  have hbR : Below w.heap.size w wR := by rw [← hwR]; (repeat' (first | (with_reducible first | exact Below.refl _ _ | assumption | refine Below.alloc ?_ ?_ _ | refine Below.setCell ?_ ?_ _ | refine below_row ?_ ?_ _ | refine Below.drew ?_ | refine below_drewN ?_ _ | refine Below.trans ?_ (Below.mono (by assumption) ?_)) | exact Nat.le_refl _ | omega | (simp; done) | (simp; omega) | exact Below.size (by assumption)))
  rw [hwR]
  clear hwR
  have hXb : 0 < xs.length → ¬ (w.heap.size ≤ b) := fun h => by
    have := World.block_lt_of_cell? w _ (hc 0 h).1
    simp only at this
    omega
  have hIter := isup_any 4 (by omega) dB nB A c b off vN vD xs vi vd t (fun g => w.heap.size ≤ g) wR hl hs (hd.after hbR) (ht.after hbR) hA (hc.after hbR) (by show ¬ (_ ≤ _); omega) (by show ¬ (_ ≤ _); omega) hXb
  clear hd ht hA hc
  refine range_up (F := Fence.wide) (X := fun g => w.heap.size ≤ g) rfl (by omega) (gf := 111) rfl trivial (enters_of Try.func111 (by kernel_rfl) rfl) hIter (Below.refl _ _) (fun _ => rfl)
    (fun pre W => ∃ v, Boxed W w.heap.size 22 v ∧ W.ownsRow w.heap.size 45 5 v pre.length (rowsF xs vi vd pre) ∧ Below w.heap.size w W)
    (fun _ _ _ => False) ?_ ?_ ?_ ?_ ⟨_, Mb, World.ownsRow_nil _ _ _ _, hbR⟩
    (fun pre x a' W => ∃ B v, wR.heap.size ≤ B ∧ a' = { tmps := #[.slice none 0 0, .func (.func 111) #[] #[.pointer (some ⟨dB, 0, none⟩), .pointer (some ⟨nB, 0, none⟩)], .pointer (some ⟨w.heap.size, 0, none⟩), undef, .slice none 0 0, .pointer (some ⟨B, 0, none⟩), .func (.func 111) #[] #[.pointer (some ⟨dB, 0, none⟩), .pointer (some ⟨nB, 0, none⟩)], .agg #[.int .i64 (xs[x].d), .int .i64 (xs[x].l), .int .u8 (xs[x].k), vi x, vd x], undef, undef, undef, undef, undef], defers := [] } ∧ Lies W B 45 #[.int .i64 (xs[x].d), .int .i64 (xs[x].l), .int .u8 (xs[x].k), vi x, vd x] ∧
      Boxed W w.heap.size 22 v ∧ W.ownsRow w.heap.size 45 5 v pre.length (rowsF xs vi vd pre) ∧ Below w.heap.size w W) ?_ ?assign ?body ?done ?stop
  · rintro pre A' B ⟨v, hv, hr, hb⟩ hup
    exact ⟨v, (hup.block _ hv.lt).trans hv, own_after hr hup, hb.trans (hup.mono hb.size)⟩
  · rintro _ _ _ _ h _
    exact h
  · rintro pre W l o o' ⟨v, hv, hr, hb⟩ hl' ho hcl
    exact ⟨v, (World.putObj_heap_other (by omega)).trans hv, ownsRow_putObj hr o' ho hcl, hb.grown (grown_put o') (by have := hb.size; omega) (fun k e => by injection e with e; omega)⟩
  · rintro _ _ _ _ _ _ h _ _ _
    exact h
  · rintro pre x a' W l o o' ⟨B, v, hB, rfl, j1, hv, hr, hb⟩ hl' ho hcl
    exact ⟨B, v, hB, rfl, j1.put o' ho hcl, (World.putObj_heap_other (by omega)).trans hv, ownsRow_putObj hr o' ho hcl, hb.grown (grown_put o') (by have := hb.size; omega) (fun k e => by injection e with e; omega)⟩
  case assign =>
    rintro l' pre x W K hsp ⟨v, hv, hr, hb⟩ hsW hK
    have HV := Lib.hid hv
    have HR := Lib.hid hr
    have HK := Lib.hid hK
    clear hv hr hK
    obtain ⟨e1, e2⟩ := HC.out.slices x.2
    unfold encF
    generalize vi x = v1 at *
    generalize vd x = v2 at *
    obtain ⟨A1, n1, c1, rfl⟩ := e1
    obtain ⟨A2, n2, c2, rfl⟩ := e2
    gi_wp2
    refine HK.out _ _ (KeepsOthers.alloc _ _) ⟨by simp, fun g cs t fr _ e => (Below.heap_alloc _ _ g (Array.getElem?_eq_some_iff.1 e).1).trans e⟩ ⟨W.heap.size, v, hsW, rfl, Lies.made _ _ _, HV.out.alloc _, HR.out.alloc _, hb.alloc (by have := hb.size; omega) _⟩
  case body =>
    rintro l' pre x a' W hsp ⟨B, v, hB, rfl, j1, hv, hr, hb⟩ hsW
    have x0 := j1.cell 0
    have x1 := j1.cell 1
    have x2 := j1.cell 2
    have x3 := j1.cell 3
    have x4 := j1.cell 4
    have z0 := j1.lt
    have hcv := hv.cell
    have zc := rowsF_len xs vi vd pre
    have HSN := Lib.hid (rowsF_snoc xs vi vd pre x)
    obtain ⟨e1, e2⟩ := HC.out.slices x.2
    generalize vi x = v1 at *
    generalize vd x = v2 at *
    obtain ⟨A1, n1, c1, rfl⟩ := e1
    obtain ⟨A2, n2, c2, rfl⟩ := e2
    generalize xs[x].d = dx at *
    generalize xs[x].l = lx at *
    generalize xs[x].k = kx at *
    clear j1
    obtain ⟨A5, c5, g5, rfl, -⟩ := own_form hr
    have hpl : pre.length + 1 ≤ 1000 := by have := HLE.out _ hsp; simp at this; omega
    gi_wp2_with (gi_at_builtin; refine wpListIn_append_own _ rfl _ _ 22 rfl w.heap.size 45 j0 zIss 5 72 Try.underlying22 hj0 hx0 hx1 hx2 rfl (by decide) _ _ _ rfl (hr.alloc _) ⟨W.heap.size, 0, none⟩ 1 1 [.int .i64 dx, .int .i64 lx, .int .u8 kx, .slice A1 n1 c1, .slice A2 n2 c2] rfl rfl (World.news_of_block (Lies.made _ _ _)) (by simp [Value.oneCell']) (by unfold maxLen; omega) (by omega) (by have := hb.size; simp; omega) ?_; intro v' w1 hown' hgrow _; obtain ⟨g', cap', rfl⟩ := ownsRow_succ hown'; obtain ⟨hv1, hv2, hr2, hk2, hb2⟩ := hv.appended (by decide) hr hb.size (Nat.le_refl _) hown' hgrow; have hc1 := hv1.cell; have hf1 := hv1.frozen)
    refine ⟨hk2, ⟨hk2.size, fun g cs t fr hx e => (hb2.block g (by simp only at hx; omega)).trans e⟩, ⟨_, hv2, ?_, hb.trans hb2⟩⟩
    rw [HSN.out]
    simpa using hr2
  case done =>
    rintro D ks W hD rfl ⟨v, hv, hr, hb⟩ hK
    have hcv := hv.cell
    have HR := Lib.hid hr
    have HKK := Lib.hid hK
    have zz := hv.lt
    obtain ⟨A5, c5, g5, rfl, -⟩ := own_form hr
    clear hr hK hv
    gi_wp2
    refine ⟨by simp, .inl ⟨_, _, rfl, run_takeDeferred HKK.out, ?_⟩⟩
    refine ⟨_, results_tmp rfl _ _ _, _, rfl, ownsRow_putObj HR.out _ HKK.out rfl, ?_⟩
    exact hb.grown (grown_put _) (by have := hb.size; omega) (fun k e => by injection e with e; omega)
  case stop =>
    rintro D cd pre W hD hpre h
    exact h.elim
end Go.Proofs.Ytkjfceajakhlfaa
