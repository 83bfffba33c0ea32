/- copied: an issue in memory of its own. -/
import Derived.Test.YtngaepgepcnhkaaJA
namespace Go.Proofs.Ytngaepgepcnhkaa
set_option linter.unusedVariables false
set_option linter.unusedSimpArgs false
open Go.RowKit

/-- An issue whose items and sizes lie in rows of one's own. -/
def OwnIss (w : World) (base : Nat) (v : Value) (x : Iss) : Prop :=
  ∃ vi vd, v = .agg #[.int .i64 x.d, .int .i64 x.l, .int .u8 x.k, vi, vd] ∧ (0 ≤ x.k ∧ x.k ≤ 255) ∧ w.ownsRow base 52 2 vi x.items.length (cellsI x.items) ∧ w.ownsRow base 54 3 vd x.dims.length (cellsS x.dims)
theorem OwnIss.val {w : World} {base : Nat} {v : Value} {x : Iss} (h : OwnIss w base v x) : IssV w v x := by
  obtain ⟨vi, vd, hv, hk, h1, h2⟩ := h
  exact ⟨vi, vd, hv, hk, items_of_own h1, dims_of_own h2⟩
theorem OwnIss.after {w w' : World} {base : Nat} {v : Value} {x : Iss} (h : OwnIss w base v x) (hb : Below w.heap.size w w') : OwnIss w' base v x := by
  obtain ⟨vi, vd, hv, hk, h1, h2⟩ := h
  exact ⟨vi, vd, hv, hk, own_after h1 hb, own_after h2 hb⟩

theorem newsI_any {w W : World} {ai : Addr} {bi oi : Nat} {il : List (Int × Int)} (hA : 0 < il.length → some ai = some ⟨bi, oi, none⟩) (hc : ∀ i (h : i < il.length), w.cell? ⟨bi, oi + i * 2, none⟩ = some (.int .i64 il[i].1) ∧ w.cell? ⟨bi, oi + i * 2 + 1, none⟩ = some (.int .i64 il[i].2)) (hb : Below w.heap.size w W) : ∀ j u, (cellsI il)[j]? = some u → W.cell? (ai.add j) = some u := by
  intro j u hj
  by_cases h0 : 0 < il.length
  · have := hA h0
    injection this with e
    subst e
    exact newsI (fun i hi => ⟨cell_keep hb (hc i hi).1, cell_keep hb (hc i hi).2⟩) j u hj
  · obtain rfl : il = [] := List.length_eq_zero_iff.1 (by omega)
    simp [cellsI] at hj
theorem newsS_any {w W : World} {ai : Addr} {bi oi : Nat} {dl : List D3} (hA : 0 < dl.length → some ai = some ⟨bi, oi, none⟩) (hc : cellsD w bi oi dl) (hb : Below w.heap.size w W) : ∀ j u, (cellsS dl)[j]? = some u → W.cell? (ai.add j) = some u := by
  intro j u hj
  by_cases h0 : 0 < dl.length
  · have := hA h0
    injection this with e
    subst e
    exact newsS (fun i hi => ⟨cell_keep hb (hc i hi).1, cell_keep hb (hc i hi).2.1, cell_keep hb (hc i hi).2.2⟩) j u hj
  · obtain rfl : dl = [] := List.length_eq_zero_iff.1 (by omega)
    simp [cellsS] at hj
theorem own_set {w : World} {base : Nat} {e t : TypeId} {size n g : Nat} {v : Value} {xs : List Value} {cs : Array Value} (h : w.ownsRow base e size v n xs) (hl : Lies w g t cs) (hne : e ≠ t) (i : Nat) (u : Value) : (w.setCell ⟨g, i, none⟩ u).ownsRow base e size v n xs := by
  refine own_at h fun k hk => ?_
  refine Below.heap_setCell w ⟨g, i, none⟩ u k ?_
  show k ≠ g
  rintro rfl
  rcases h.2 with ⟨rfl, _⟩ | ⟨g', cap, cur, rfl, _, hh, _⟩
  · simp [Value.ownBlock] at hk
  · obtain rfl : g' = k := by simpa [Value.ownBlock] using hk
    have h2 := hl
    unfold Lies at h2
    rw [hh] at h2
    injection h2 with h2
    injection h2 with _ ht
    exact hne ht
theorem grown_none {W W' : World} (h : W.grownBy W' (Value.slice none 0 0).ownBlock) : Below W.heap.size W W' := ⟨h.os, h.tape, h.output, h.size, fun k hk => h.block k hk (by simp [Value.ownBlock])⟩
theorem Lies.five {w : World} {g : Nat} {t : TypeId} {a b c d e : Value} (h : Lies w g t #[a, b, c, d, e]) (v0 v1 v2 v3 v4 : Value) : Lies (((((w.setCell ⟨g, 0, none⟩ v0).setCell ⟨g, 1, none⟩ v1).setCell ⟨g, 2, none⟩ v2).setCell ⟨g, 3, none⟩ v3).setCell ⟨g, 4, none⟩ v4) g t #[v0, v1, v2, v3, v4] :=
  ((((h.store 0 v0).store 1 v1).store 2 v2).store 3 v3).store 4 v4
theorem below_five {B g : Nat} {w0 w : World} (h : Below B w0 w) (hg : B ≤ g) (v0 v1 v2 v3 v4 : Value) : Below B w0 (((((w.setCell ⟨g, 0, none⟩ v0).setCell ⟨g, 1, none⟩ v1).setCell ⟨g, 2, none⟩ v2).setCell ⟨g, 3, none⟩ v3).setCell ⟨g, 4, none⟩ v4) :=
  ((((h.setCell (p := ⟨g, 0, none⟩) hg v0).setCell (p := ⟨g, 1, none⟩) hg v1).setCell (p := ⟨g, 2, none⟩) hg v2).setCell (p := ⟨g, 3, none⟩) hg v3).setCell (p := ⟨g, 4, none⟩) hg v4
theorem own_five {w : World} {base : Nat} {e t : TypeId} {size n g : Nat} {v : Value} {xs : List Value} {cs : Array Value} (h : w.ownsRow base e size v n xs) (hl : Lies w g t cs) (hne : e ≠ t) (v0 v1 v2 v3 v4 : Value) : (((((w.setCell ⟨g, 0, none⟩ v0).setCell ⟨g, 1, none⟩ v1).setCell ⟨g, 2, none⟩ v2).setCell ⟨g, 3, none⟩ v3).setCell ⟨g, 4, none⟩ v4).ownsRow base e size v n xs :=
  own_set (own_set (own_set (own_set (own_set h hl hne 0 v0) (hl.store 0 v0) hne 1 v1) ((hl.store 0 v0).store 1 v1) hne 2 v2) (((hl.store 0 v0).store 1 v1).store 2 v2) hne 3 v3) ((((hl.store 0 v0).store 1 v1).store 2 v2).store 3 v3) hne 4 v4
set_option maxHeartbeats 4000000 in
theorem copied_any (x : Iss) (vi vd : Value) (w : World) (hk : 0 ≤ x.k ∧ x.k ≤ 255) (hl1 : x.items.length ≤ 1000) (hl2 : x.dims.length ≤ 1000) (hi : ItemsAt w vi x.items) (hd : DimsAt w vd x.dims) (n1 : NilOk vi) (n2 : NilOk vd) :
    Calls Try.prog 70 #[.agg #[.int .i64 x.d, .int .i64 x.l, .int .u8 x.k, vi, vd]] w fun e w' => ∃ v, e = .returned v ∧ OwnIss w' w.heap.size v x ∧ Below w.heap.size w w' := by
  obtain ⟨d, l, k, il, dl⟩ := x
  simp only at hk hl1 hl2 hi hd
  obtain ⟨Ai, ci, bi, oi, rfl, hAi, hci⟩ := hi
  obtain ⟨Ad, cd, bd, od, rfl, hAd, hcd⟩ := hd
  have LX := Lib.hid (Lies.made w 45 #[.int .i64 d, .int .i64 l, .int .u8 k, .slice Ai il.length ci, .slice Ad dl.length cd])
  obtain ⟨i0, hi0, hz0, hz1, hz2⟩ := info_parts infoI
  obtain ⟨j0, hj0, hy0, hy1, hy2⟩ := info_parts infoS
  have HCI := Lib.hid hci
  have HCD := Lib.hid hcd
  have HAI := Lib.hid hAi
  have HAD := Lib.hid hAd
  have HN1 := Lib.hid n1
  have HN2 := Lib.hid n2
  have zI := Lib.hid (cellsI_len il)
  have zS := Lib.hid (cellsS_len dl)
  clear hci hcd hAi hAd n1 n2
  cases Ai with
  | none =>
    obtain rfl : il = [] := by
      cases il with
      | nil => rfl
      | cons a r => exact absurd (HAI.out (by simp)) (by simp)
    obtain rfl : ci = 0 := HN1.out _ _ rfl
    cases Ad with
    | none =>
      obtain rfl : dl = [] := by
        cases dl with
        | nil => rfl
        | cons a r => exact absurd (HAD.out (by simp)) (by simp)
      obtain rfl : cd = 0 := HN2.out _ _ rfl
      go_enter Try.func70, Try.ntmps70
      go_wp2_with (at_builtin; first | (refine wpList_append_own_none rfl _ _ 42 rfl w.heap.size 52 i0 2 Try.underlying42 hi0 (.slice none 0 0) 0 [] rfl (World.ownsRow_nil _ _ _ _) rfl ?_) | (refine wpList_append_own_none rfl _ _ 43 rfl w.heap.size 54 j0 3 Try.underlying43 hj0 (.slice none 0 0) 0 [] rfl (World.ownsRow_nil _ _ _ _) rfl ?_))
      exact bodyPost_ret (results_cell_row rfl _ _ (w.heap.size + 1) _ _ (0, 0) _ rfl (Lies.new (by simp)) Try.underlying45 rfl (by kernel_rfl)) rfl ⟨_, rfl, ⟨_, _, rfl, hk, World.ownsRow_nil _ _ _ _, World.ownsRow_nil _ _ _ _⟩, by (repeat' (first | (with_reducible exact Below.refl _ _) | (with_reducible assumption) | (with_reducible refine Below.alloc ?_ ?_ _) | (with_reducible refine Below.setCell ?_ ?_ _) | (with_reducible refine below_row ?_ ?_ _) | (with_reducible refine Below.drew ?_) | (with_reducible refine below_drewN ?_ _) | (with_reducible refine Below.trans ?_ (Below.mono (by assumption) ?_)) | (first | exact Nat.le_refl _ | omega | (simp; done) | (simp; omega) | (exact Below.size (by assumption)))))⟩
    | some ad =>
      go_enter Try.func70, Try.ntmps70
      go_wp2_with (at_builtin; first | (refine wpList_append_own_none rfl _ _ 42 rfl w.heap.size 52 i0 2 Try.underlying42 hi0 (.slice none 0 0) 0 [] rfl (World.ownsRow_nil _ _ _ _) rfl ?_) | (refine wpList_append_own _ rfl _ _ 43 rfl w.heap.size 54 j0 (.agg #[.int .i64 0, .int .i64 0, .int .i64 0]) 3 24 Try.underlying43 hj0 hy0 hy1 hy2 rfl (by decide) (.slice none 0 0) 0 [] rfl (World.ownsRow_nil _ _ _ _) ad dl.length cd (cellsS dl) rfl zS.out (newsS_any HAD.out HCD.out (by (repeat' (first | (with_reducible exact Below.refl _ _) | (with_reducible assumption) | (with_reducible refine Below.alloc ?_ ?_ _) | (with_reducible refine Below.setCell ?_ ?_ _) | (with_reducible refine below_row ?_ ?_ _) | (with_reducible refine Below.drew ?_) | (with_reducible refine below_drewN ?_ _) | (with_reducible refine Below.trans ?_ (Below.mono (by assumption) ?_)) | (first | exact Nat.le_refl _ | omega | (simp; done) | (simp; omega) | (exact Below.size (by assumption))))))) (cellsS_one dl) (by unfold maxLen; omega) (by omega) (by simp; omega) ?_; intro v2 w2 ho2 hg2 _; have hv2 := grown_none hg2; have hb2 : Below w.heap.size w w2 := Below.trans (by (repeat' (first | (with_reducible exact Below.refl _ _) | (with_reducible assumption) | (with_reducible refine Below.alloc ?_ ?_ _) | (with_reducible refine Below.setCell ?_ ?_ _) | (with_reducible refine below_row ?_ ?_ _) | (with_reducible refine Below.drew ?_) | (with_reducible refine below_drewN ?_ _) | (with_reducible refine Below.trans ?_ (Below.mono (by assumption) ?_)) | (first | exact Nat.le_refl _ | omega | (simp; done) | (simp; omega) | (exact Below.size (by assumption)))))) (hv2.mono (by simp; omega)); have L2 : Lies w2 w.heap.size 45 #[.int .i64 d, .int .i64 l, .int .u8 k, .slice none 0 0, .slice (some ad) dl.length cd] := ((Lies.made w _ _).alloc _).after hv2; have R2 : Lies w2 (w.heap.size + 1) 45 #[.int .i64 0, .int .i64 0, .int .u8 0, .slice none 0 0, .slice none 0 0] := (Lies.new (by simp)).after hv2; simp only [Nat.zero_add, List.nil_append] at ho2; have HO2 := Lib.hid ho2; have hsz2 := R2.lt; have HL2 := Lib.hid L2; have HR2 := Lib.hid R2; obtain ⟨A2, c2, g2, rfl, -⟩ := own_form ho2; clear ho2 hg2 hv2; have x0 := L2.cell 0; have x1 := L2.cell 1; have x2 := L2.cell 2; have x3 := L2.cell 3; have x4 := L2.cell 4; have f3 := L2.free 3; have f4 := L2.free 4; have r0 := R2.cell 0; have r1 := R2.cell 1; have r2 := R2.cell 2; have r3 := R2.cell 3; have r4 := R2.cell 4; have e0 := R2.free 0; have e1 := R2.free 1; have e2 := R2.free 2; have e3 := R2.free 3; have e4 := R2.free 4; clear L2 R2))
      have hR := HR2.out.other (p := ⟨w.heap.size, 4, none⟩) (by show w.heap.size + 1 ≠ w.heap.size; omega) (.slice A2 dl.length c2)
      have hO2 := own_set HO2.out HL2.out (by decide) 4 (.slice A2 dl.length c2)
      have hB := hb2.setCell (p := ⟨w.heap.size, 4, none⟩) (Nat.le_refl _) (.slice A2 dl.length c2)
      exact bodyPost_ret (results_cell_row rfl _ _ (w.heap.size + 1) _ _ (0, 0) _ rfl (hR.five (.int .i64 d) (.int .i64 l) (.int .u8 k) (.slice none 0 0) (.slice A2 dl.length c2)) Try.underlying45 rfl (by kernel_rfl)) rfl ⟨_, rfl, ⟨_, _, rfl, hk, World.ownsRow_nil _ _ _ _, own_five hO2 hR (by decide) _ _ _ _ _⟩, below_five hB (by omega) _ _ _ _ _⟩
  | some ai =>
    cases Ad with
    | none =>
      obtain rfl : dl = [] := by
        cases dl with
        | nil => rfl
        | cons a r => exact absurd (HAD.out (by simp)) (by simp)
      obtain rfl : cd = 0 := HN2.out _ _ rfl
      go_enter Try.func70, Try.ntmps70
      go_wp2_with (at_builtin; first | (refine wpList_append_own _ rfl _ _ 42 rfl w.heap.size 52 i0 (.agg #[.int .i64 0, .int .i64 0]) 2 16 Try.underlying42 hi0 hz0 hz1 hz2 rfl (by decide) (.slice none 0 0) 0 [] rfl (World.ownsRow_nil _ _ _ _) ai il.length ci (cellsI il) rfl zI.out (newsI_any HAI.out HCI.out (by (repeat' (first | (with_reducible exact Below.refl _ _) | (with_reducible assumption) | (with_reducible refine Below.alloc ?_ ?_ _) | (with_reducible refine Below.setCell ?_ ?_ _) | (with_reducible refine below_row ?_ ?_ _) | (with_reducible refine Below.drew ?_) | (with_reducible refine below_drewN ?_ _) | (with_reducible refine Below.trans ?_ (Below.mono (by assumption) ?_)) | (first | exact Nat.le_refl _ | omega | (simp; done) | (simp; omega) | (exact Below.size (by assumption))))))) (cellsI_one il) (by unfold maxLen; omega) (by omega) (by simp; omega) ?_; intro v1 w1 ho1 hg1 _; have hv1 := grown_none hg1; have hb1 : Below w.heap.size w w1 := Below.trans (by (repeat' (first | (with_reducible exact Below.refl _ _) | (with_reducible assumption) | (with_reducible refine Below.alloc ?_ ?_ _) | (with_reducible refine Below.setCell ?_ ?_ _) | (with_reducible refine below_row ?_ ?_ _) | (with_reducible refine Below.drew ?_) | (with_reducible refine below_drewN ?_ _) | (with_reducible refine Below.trans ?_ (Below.mono (by assumption) ?_)) | (first | exact Nat.le_refl _ | omega | (simp; done) | (simp; omega) | (exact Below.size (by assumption)))))) (hv1.mono (by simp; omega)); have L1 : Lies w1 w.heap.size 45 #[.int .i64 d, .int .i64 l, .int .u8 k, .slice (some ai) il.length ci, .slice none 0 0] := ((Lies.made w _ _).alloc _).after hv1; have R1 : Lies w1 (w.heap.size + 1) 45 #[.int .i64 0, .int .i64 0, .int .u8 0, .slice none 0 0, .slice none 0 0] := (Lies.new (by simp)).after hv1; simp only [Nat.zero_add, List.nil_append] at ho1; have HO1 := Lib.hid ho1; have hsz1 := R1.lt; have HL1 := Lib.hid L1; have HR1 := Lib.hid R1; obtain ⟨A1, c1, g1, rfl, -⟩ := own_form ho1; clear ho1 hg1 hv1; have x0 := L1.cell 0; have x1 := L1.cell 1; have x2 := L1.cell 2; have x3 := L1.cell 3; have x4 := L1.cell 4; have f3 := L1.free 3; have f4 := L1.free 4; have r0 := R1.cell 0; have r1 := R1.cell 1; have r2 := R1.cell 2; have r3 := R1.cell 3; have r4 := R1.cell 4; have e0 := R1.free 0; have e1 := R1.free 1; have e2 := R1.free 2; have e3 := R1.free 3; have e4 := R1.free 4; clear L1 R1) | (refine wpList_append_own_none rfl _ _ 43 rfl w.heap.size 54 j0 3 Try.underlying43 hj0 (.slice none 0 0) 0 [] rfl (World.ownsRow_nil _ _ _ _) rfl ?_))
      have hL := ((HL1.out.store 3 (.slice A1 il.length c1)).store 4 (.slice none 0 0))
      have hR := (HR1.out.other (p := ⟨w.heap.size, 3, none⟩) (by show w.heap.size + 1 ≠ w.heap.size; omega) (.slice A1 il.length c1)).other (p := ⟨w.heap.size, 4, none⟩) (by show w.heap.size + 1 ≠ w.heap.size; omega) (.slice none 0 0)
      have hO := own_set (own_set HO1.out HL1.out (by decide) 3 (.slice A1 il.length c1)) (HL1.out.store 3 _) (by decide) 4 (.slice none 0 0)
      have hB := (hb1.setCell (p := ⟨w.heap.size, 3, none⟩) (Nat.le_refl _) (.slice A1 il.length c1)).setCell (p := ⟨w.heap.size, 4, none⟩) (Nat.le_refl _) (.slice none 0 0)
      exact bodyPost_ret (results_cell_row rfl _ _ (w.heap.size + 1) _ _ (0, 0) _ rfl (hR.five (.int .i64 d) (.int .i64 l) (.int .u8 k) (.slice A1 il.length c1) (.slice none 0 0)) Try.underlying45 rfl (by kernel_rfl)) rfl ⟨_, rfl, ⟨_, _, rfl, hk, own_five hO hR (by decide) _ _ _ _ _, World.ownsRow_nil _ _ _ _⟩, below_five hB (by omega) _ _ _ _ _⟩
    | some ad =>
      go_enter Try.func70, Try.ntmps70
      go_wp2_with (at_builtin; first | (refine wpList_append_own _ rfl _ _ 42 rfl w.heap.size 52 i0 (.agg #[.int .i64 0, .int .i64 0]) 2 16 Try.underlying42 hi0 hz0 hz1 hz2 rfl (by decide) (.slice none 0 0) 0 [] rfl (World.ownsRow_nil _ _ _ _) ai il.length ci (cellsI il) rfl zI.out (newsI_any HAI.out HCI.out (by (repeat' (first | (with_reducible exact Below.refl _ _) | (with_reducible assumption) | (with_reducible refine Below.alloc ?_ ?_ _) | (with_reducible refine Below.setCell ?_ ?_ _) | (with_reducible refine below_row ?_ ?_ _) | (with_reducible refine Below.drew ?_) | (with_reducible refine below_drewN ?_ _) | (with_reducible refine Below.trans ?_ (Below.mono (by assumption) ?_)) | (first | exact Nat.le_refl _ | omega | (simp; done) | (simp; omega) | (exact Below.size (by assumption))))))) (cellsI_one il) (by unfold maxLen; omega) (by omega) (by simp; omega) ?_; intro v1 w1 ho1 hg1 _; have hv1 := grown_none hg1; have hb1 : Below w.heap.size w w1 := Below.trans (by (repeat' (first | (with_reducible exact Below.refl _ _) | (with_reducible assumption) | (with_reducible refine Below.alloc ?_ ?_ _) | (with_reducible refine Below.setCell ?_ ?_ _) | (with_reducible refine below_row ?_ ?_ _) | (with_reducible refine Below.drew ?_) | (with_reducible refine below_drewN ?_ _) | (with_reducible refine Below.trans ?_ (Below.mono (by assumption) ?_)) | (first | exact Nat.le_refl _ | omega | (simp; done) | (simp; omega) | (exact Below.size (by assumption)))))) (hv1.mono (by simp; omega)); have L1 : Lies w1 w.heap.size 45 #[.int .i64 d, .int .i64 l, .int .u8 k, .slice (some ai) il.length ci, .slice (some ad) dl.length cd] := ((Lies.made w _ _).alloc _).after hv1; have R1 : Lies w1 (w.heap.size + 1) 45 #[.int .i64 0, .int .i64 0, .int .u8 0, .slice none 0 0, .slice none 0 0] := (Lies.new (by simp)).after hv1; simp only [Nat.zero_add, List.nil_append] at ho1; have HO1 := Lib.hid ho1; have hsz1 := R1.lt; have HL1 := Lib.hid L1; have HR1 := Lib.hid R1; obtain ⟨A1, c1, g1, rfl, -⟩ := own_form ho1; clear ho1 hg1 hv1; have x0 := L1.cell 0; have x1 := L1.cell 1; have x2 := L1.cell 2; have x3 := L1.cell 3; have x4 := L1.cell 4; have f3 := L1.free 3; have f4 := L1.free 4; have r0 := R1.cell 0; have r1 := R1.cell 1; have r2 := R1.cell 2; have r3 := R1.cell 3; have r4 := R1.cell 4; have e0 := R1.free 0; have e1 := R1.free 1; have e2 := R1.free 2; have e3 := R1.free 3; have e4 := R1.free 4; clear L1 R1) | (refine wpList_append_own _ rfl _ _ 43 rfl w.heap.size 54 j0 (.agg #[.int .i64 0, .int .i64 0, .int .i64 0]) 3 24 Try.underlying43 hj0 hy0 hy1 hy2 rfl (by decide) (.slice none 0 0) 0 [] rfl (World.ownsRow_nil _ _ _ _) ad dl.length cd (cellsS dl) rfl zS.out (newsS_any HAD.out HCD.out (by (repeat' (first | (with_reducible exact Below.refl _ _) | (with_reducible assumption) | (with_reducible refine Below.alloc ?_ ?_ _) | (with_reducible refine Below.setCell ?_ ?_ _) | (with_reducible refine below_row ?_ ?_ _) | (with_reducible refine Below.drew ?_) | (with_reducible refine below_drewN ?_ _) | (with_reducible refine Below.trans ?_ (Below.mono (by assumption) ?_)) | (first | exact Nat.le_refl _ | omega | (simp; done) | (simp; omega) | (exact Below.size (by assumption))))))) (cellsS_one dl) (by unfold maxLen; omega) (by omega) (by simp; omega) ?_; intro v2 w2 ho2 hg2 _; have hv2 := grown_none hg2; have hb2 : Below w.heap.size w w2 := Below.trans (by (repeat' (first | (with_reducible exact Below.refl _ _) | (with_reducible assumption) | (with_reducible refine Below.alloc ?_ ?_ _) | (with_reducible refine Below.setCell ?_ ?_ _) | (with_reducible refine below_row ?_ ?_ _) | (with_reducible refine Below.drew ?_) | (with_reducible refine below_drewN ?_ _) | (with_reducible refine Below.trans ?_ (Below.mono (by assumption) ?_)) | (first | exact Nat.le_refl _ | omega | (simp; done) | (simp; omega) | (exact Below.size (by assumption)))))) (hv2.mono (by simp; omega)); have L2 : Lies w2 w.heap.size 45 #[.int .i64 d, .int .i64 l, .int .u8 k, .slice A1 il.length c1, .slice (some ad) dl.length cd] := (HL1.out.store 3 _).after hv2; have R2 : Lies w2 (w.heap.size + 1) 45 #[.int .i64 0, .int .i64 0, .int .u8 0, .slice none 0 0, .slice none 0 0] := (HR1.out.other (by show w.heap.size + 1 ≠ w.heap.size; omega) _).after hv2; have HP1 := Lib.hid (own_after (own_set HO1.out HL1.out (by decide) 3 (.slice A1 il.length c1)) hv2); simp only [Nat.zero_add, List.nil_append] at ho2; have HO2 := Lib.hid ho2; have hsz2 := R2.lt; have HL2 := Lib.hid L2; have HR2 := Lib.hid R2; obtain ⟨A2, c2, g2, rfl, -⟩ := own_form ho2; clear ho2 hg2 hv2 x0 x1 x2 x3 x4 f3 f4 r0 r1 r2 r3 r4 e0 e1 e2 e3 e4; have x0 := L2.cell 0; have x1 := L2.cell 1; have x2 := L2.cell 2; have x3 := L2.cell 3; have x4 := L2.cell 4; have f3 := L2.free 3; have f4 := L2.free 4; have r0 := R2.cell 0; have r1 := R2.cell 1; have r2 := R2.cell 2; have r3 := R2.cell 3; have r4 := R2.cell 4; have e0 := R2.free 0; have e1 := R2.free 1; have e2 := R2.free 2; have e3 := R2.free 3; have e4 := R2.free 4; clear L2 R2))
      have hR := HR2.out.other (p := ⟨w.heap.size, 4, none⟩) (by show w.heap.size + 1 ≠ w.heap.size; omega) (.slice A2 dl.length c2)
      have hO2 := own_set HO2.out HL2.out (by decide) 4 (.slice A2 dl.length c2)
      have hO1 := own_set HP1.out HL2.out (by decide) 4 (.slice A2 dl.length c2)
      have hB := hb2.setCell (p := ⟨w.heap.size, 4, none⟩) (Nat.le_refl _) (.slice A2 dl.length c2)
      exact bodyPost_ret (results_cell_row rfl _ _ (w.heap.size + 1) _ _ (0, 0) _ rfl (hR.five (.int .i64 d) (.int .i64 l) (.int .u8 k) (.slice A1 il.length c1) (.slice A2 dl.length c2)) Try.underlying45 rfl (by kernel_rfl)) rfl ⟨_, rfl, ⟨_, _, rfl, hk, own_five hO1 hR (by decide) _ _ _ _ _, own_five hO2 hR (by decide) _ _ _ _ _⟩, below_five hB (by omega) _ _ _ _ _⟩
end Go.Proofs.Ytngaepgepcnhkaa
