/- J9: numbersOf. JC: Results that lie in memory, two of them. JD: copied: an issue in memory of its own. JF: lay. J8: find. -/
import Derived.Test.YtkjfceajakhlfaaLA
import Derived.Test.YtkjfceajakhlfaaBase
import Derived.Test.YtkjfceajakhlfaaLB
import Derived.Test.YtkjfceajakhlfaaLD
import Derived.Deep.RegionHeld3
import Derived.Deep.DeepCutAuto
namespace Go.Proofs.Ytkjfceajakhlfaa
set_option linter.unusedVariables false
set_option linter.unusedSimpArgs false
section
open Go.RowKit

theorem numbersL_step {xs : List Iss} {k : Nat} (h : k < xs.length) : numbersL (xs.take (k + 1)) = numbersL (xs.take k) ++ if xs[k].l = 1 then [xs[k].d] else [] := by
  unfold numbersL
  rw [List.take_succ_eq_append_getElem h, List.filter_append, List.map_append]
  congr 1
  by_cases e : xs[k].l = 1 <;> simp [e]
theorem numbersL_le (xs : List Iss) (k : Nat) : (numbersL (xs.take k)).length ≤ k := by
  unfold numbersL
  rw [List.length_map]
  exact Nat.le_trans (List.length_filter_le _ _) (List.length_take_le _ _)
set_option maxHeartbeats 2000000 in
theorem numbersOf_any (A : Option Addr) (c b off : Nat) (xs : List Iss) (vi vd : Nat → Value) (w : World) (hl : xs.length ≤ 1000) (hA : 0 < xs.length → A = some ⟨b, off, none⟩) (hc : IssRow w b off xs vi vd) :
    Calls Try.prog 106 #[.slice A xs.length c] w fun e w' => ∃ v, e = .returned v ∧ w'.ownsRow w.heap.size 3 1 v (numbersL xs).length (cellsN (numbersL xs)) ∧ Below w.heap.size w w' := by
  have HC := Lib.hid hc
  have HA := Lib.hid hA
  clear hc hA
  obtain ⟨i0, hi, hz0, hz1, hz2⟩ := info_parts infoN
  go_enter Try.func106, Try.ntmps106
  go_wp2_with fail
  go_loopw [3, 8] (fun v i wr => ∃ (k : Nat), k ≤ xs.length ∧ i = .int .i64 k ∧ Hid (wr.ownsRow w.heap.size 3 1 v (numbersL (xs.take k)).length (cellsN (numbersL (xs.take k)))) ∧ Below w.heap.size w wr) (fun _ i _ => xs.length - (intOf i).toNat)
  case atStart => exact ⟨0, by omega, rfl, Lib.hid (World.ownsRow_nil _ _ _ _), by (repeat' (first | (with_reducible first | exact Below.refl _ _ | assumption | refine Below.alloc ?_ ?_ _ | refine Below.setCell ?_ ?_ _ | refine below_row ?_ ?_ _ | refine Below.drew ?_ | refine below_drewN ?_ _ | refine Below.trans ?_ (Below.mono (by assumption) ?_)) | exact Nat.le_refl _ | omega | (simp; done) | (simp; omega) | exact Below.size (by assumption)))⟩
  case round =>
    obtain ⟨k, hk, rfl, HO, hb⟩ := hrel
    have hz := hb.size
    have hll := numbersL_le xs k
    by_cases hlt : k < xs.length
    · obtain rfl := HA.out (by omega)
      obtain ⟨q0, q1, q2, q3, q4, -, -, -⟩ := (HC.out.after hb) k hlt
      obtain ⟨e3, e4⟩ := HC.out.slices hlt
      generalize vi k = va at *
      generalize vd k = ve at *
      obtain ⟨A1, n1, c1, rfl⟩ := e3
      obtain ⟨A2, n2, c2, rfl⟩ := e4
      have HS := Lib.hid (numbersL_step hlt)
      generalize hx : xs[k] = x at *
      clear hx
      obtain ⟨d, l, kk, it, di⟩ := x
      simp only at q0 q1 q2 HS
      generalize hnl : numbersL (xs.take k) = nl at *
      have HNL := Lib.hid hnl
      clear hnl
      by_cases h1 : l = 1
      · subst h1
        go_wp2_with (at_builtin; refine wpList_append_own _ rfl _ _ 29 rfl w.heap.size 3 i0 (.int .i64 0) 1 8 Try.underlying29 hi hz0 hz1 hz2 rfl (by decide) _ _ _ rfl ((HO.out.alloc _).alloc _) ⟨wr.heap.size + 1, 0, none⟩ 1 1 [.int .i64 d] rfl rfl (World.news_of_block (cs := #[.int .i64 d]) (t := 3) (fr := (0, 0)) (Lies.new (by simp))) (by simp [Value.oneCell']) (by unfold maxLen; omega) (by omega) (by simp; omega) ?_; intro v' w1 hown' hgrow _; have HB2 := Lib.hid (below_own (w0 := w) (B := w.heap.size) (by (repeat' (first | (with_reducible first | exact Below.refl _ _ | assumption | refine Below.alloc ?_ ?_ _ | refine Below.setCell ?_ ?_ _ | refine below_row ?_ ?_ _ | refine Below.drew ?_ | refine below_drewN ?_ _ | refine Below.trans ?_ (Below.mono (by assumption) ?_)) | exact Nat.le_refl _ | omega | (simp; done) | (simp; omega) | exact Below.size (by assumption)))) ((HO.out.alloc (.cells #[.int .i64 d, .int .i64 1, .int .u8 kk, .slice A1 n1 c1, .slice A2 n2 c2] 45)).alloc (.cells #[.int .i64 d] 3)) hgrow (Nat.le_refl _) (by simp; omega)); have HO2 := Lib.hid hown'; clear hown' hgrow)
        go_roundw
        case rel => exact ⟨k + 1, by omega, by go_num, Lib.hid (by rw [HS.out, if_pos rfl, List.length_append]; unfold cellsN; rw [List.map_append]; exact HO2.out), HB2.out⟩
        case measure => simp [intOf]; omega
      · have h1' : (l == 1) = false := by rw [beq_eq_false_iff_ne]; exact h1
        have HL := Lib.hid h1
        clear h1
        go_wp2_with fail
        go_roundw
        case rel => exact ⟨k + 1, by omega, by go_num, Lib.hid (by rw [HS.out, if_neg HL.out, List.append_nil]; exact HO.out.alloc _), by (repeat' (first | (with_reducible first | exact Below.refl _ _ | assumption | refine Below.alloc ?_ ?_ _ | refine Below.setCell ?_ ?_ _ | refine below_row ?_ ?_ _ | refine Below.drew ?_ | refine below_drewN ?_ _ | refine Below.trans ?_ (Below.mono (by assumption) ?_)) | exact Nat.le_refl _ | omega | (simp; done) | (simp; omega) | exact Below.size (by assumption)))⟩
        case measure => simp [intOf]; omega
    · have hke : k = xs.length := by omega
      have HR := Lib.hid HO.out
      rw [hke, List.take_length] at HR
      clear HO
      subst hke
      go_wp2
      go_ret
      exact ⟨_, rfl, HR.out, hb⟩
end
section
open Go.RowKit
/-- Two results that both lie in memory. -/
theorem results_two_cells {P : Program} {fn : Func} {p q : Tmp} {ty tq : TypeId} (h : fn.results = #[.cell p ty, .cell q tq]) (tmps : Array Value) (w : World) (g g2 : Nat) (t t2 : TypeId) (cs : Array Value) (v : Value) (d d2 : TypeDesc)
    (hp : tmps.getD p undef = .pointer (some ⟨g, 0, none⟩)) (hq : tmps.getD q undef = .pointer (some ⟨g2, 0, none⟩)) (hg : Lies w g t cs) (hg2 : Lies w g2 t2 #[v])
    (hu : P.underlying ty = some d) (hd : (match d with | .struct _ | .array _ _ => true | _ => false) = true) (hi : (P.info? ty).map (·.size) = some cs.size)
    (hu2 : P.underlying tq = some d2) (hd2 : (match d2 with | .struct _ | .array _ _ => true | _ => false) = false) :
    (results fn tmps).run P w = .ok (.tuple #[.agg cs, v]) w := by
  have hp' : tmps[p]?.getD undef = .pointer (some ⟨g, 0, none⟩) := by simpa using hp
  have hq' : tmps[q]?.getD undef = .pointer (some ⟨g2, 0, none⟩) := by simpa using hq
  have hc : w.cell? ⟨g2, 0, none⟩ = some v := hg2.cell 0
  have e1 := run_loadVar_row (P := P) w g t ty cs (0, 0) d hg hu hd hi
  have e2 : (loadVar tq ⟨g2, 0, none⟩).run P w = .ok v w := by
    have ha : (isAgg tq).run P w = .ok false w := by
      cases d2 <;> first | (cases hd2; done) | simp [isAgg, run_underlying hu2]
    simp [loadVar, ha, go_sem, hc]
  simp [results, h, hp', hq', asAddr, e1, e2]
/-- A struct that lies in memory, and one result in a slot. -/
theorem results_cell_tmp {P : Program} {fn : Func} {p q : Tmp} {ty : TypeId} (h : fn.results = #[.cell p ty, .tmp q]) (tmps : Array Value) (w : World) (g : Nat) (t : TypeId) (cs : Array Value) (v : Value) (d : TypeDesc)
    (hp : tmps.getD p undef = .pointer (some ⟨g, 0, none⟩)) (hq : tmps.getD q undef = v) (hg : Lies w g t cs)
    (hu : P.underlying ty = some d) (hd : (match d with | .struct _ | .array _ _ => true | _ => false) = true) (hi : (P.info? ty).map (·.size) = some cs.size) :
    (results fn tmps).run P w = .ok (.tuple #[.agg cs, v]) w := by
  have hp' : tmps[p]?.getD undef = .pointer (some ⟨g, 0, none⟩) := by simpa using hp
  have hq' : tmps[q]?.getD undef = v := by simpa using hq
  have e1 := run_loadVar_row (P := P) w g t ty cs (0, 0) d hg hu hd hi
  simp [results, h, hp', hq', asAddr, e1]
end
section
open Go.RowKit

/-- An issue whose items and sizes lie in rows of one's own. -/
def OwnIss (w : World) (base : Nat) (v : Value) (x : Iss) : Prop :=
  ∃ vi vd, v = .agg #[.int .i64 x.d, .int .i64 x.l, .int .u8 x.k, vi, vd] ∧ (0 ≤ x.k ∧ x.k ≤ 255) ∧ w.ownsRow base 52 2 vi x.items.length (cellsI x.items) ∧ w.ownsRow base 54 3 vd x.dims.length (cellsS x.dims)
theorem OwnIss.val {w : World} {base : Nat} {v : Value} {x : Iss} (h : OwnIss w base v x) : IssV w v x := by
  obtain ⟨vi, vd, hv, hk, h1, h2⟩ := h
  exact ⟨vi, vd, hv, hk, items_of_own h1, dims_of_own h2⟩
theorem OwnIss.after {w w' : World} {base : Nat} {v : Value} {x : Iss} (h : OwnIss w base v x) (hb : Below w.heap.size w w') : OwnIss w' base v x := by
  obtain ⟨vi, vd, hv, hk, h1, h2⟩ := h
  exact ⟨vi, vd, hv, hk, own_after h1 hb, own_after h2 hb⟩

theorem newsI_any {w W : World} {ai : Addr} {bi oi : Nat} {il : List (Int × Int)} (hA : 0 < il.length → some ai = some ⟨bi, oi, none⟩) (hc : ∀ i (h : i < il.length), w.cell? ⟨bi, oi + i * 2, none⟩ = some (.int .i64 il[i].1) ∧ w.cell? ⟨bi, oi + i * 2 + 1, none⟩ = some (.int .i64 il[i].2)) (hb : Below w.heap.size w W) : ∀ j u, (cellsI il)[j]? = some u → W.cell? (ai.add j) = some u := by
  intro j u hj
  by_cases h0 : 0 < il.length
  · have := hA h0
    injection this with e
    subst e
    exact newsI (fun i hi => ⟨cell_keep hb (hc i hi).1, cell_keep hb (hc i hi).2⟩) j u hj
  · obtain rfl : il = [] := List.length_eq_zero_iff.1 (by omega)
    simp [cellsI] at hj
theorem newsS_any {w W : World} {ai : Addr} {bi oi : Nat} {dl : List D3} (hA : 0 < dl.length → some ai = some ⟨bi, oi, none⟩) (hc : cellsD w bi oi dl) (hb : Below w.heap.size w W) : ∀ j u, (cellsS dl)[j]? = some u → W.cell? (ai.add j) = some u := by
  intro j u hj
  by_cases h0 : 0 < dl.length
  · have := hA h0
    injection this with e
    subst e
    exact newsS (fun i hi => ⟨cell_keep hb (hc i hi).1, cell_keep hb (hc i hi).2.1, cell_keep hb (hc i hi).2.2⟩) j u hj
  · obtain rfl : dl = [] := List.length_eq_zero_iff.1 (by omega)
    simp [cellsS] at hj
theorem own_set {w : World} {base : Nat} {e t : TypeId} {size n g : Nat} {v : Value} {xs : List Value} {cs : Array Value} (h : w.ownsRow base e size v n xs) (hl : Lies w g t cs) (hne : e ≠ t) (i : Nat) (u : Value) : (w.setCell ⟨g, i, none⟩ u).ownsRow base e size v n xs := by
  refine own_at h fun k hk => ?_
  refine Below.heap_setCell w ⟨g, i, none⟩ u k ?_
  show k ≠ g
  rintro rfl
  rcases h.2 with ⟨rfl, _⟩ | ⟨g', cap, cur, rfl, _, hh, _⟩
  · simp [Value.ownBlock] at hk
  · obtain rfl : g' = k := by simpa [Value.ownBlock] using hk
    have h2 := hl
    unfold Lies at h2
    rw [hh] at h2
    injection h2 with h2
    injection h2 with _ ht
    exact hne ht
theorem grown_none {W W' : World} (h : W.grownBy W' (Value.slice none 0 0).ownBlock) : Below W.heap.size W W' := ⟨h.os, h.tape, h.output, h.size, fun k hk => h.block k hk (by simp [Value.ownBlock])⟩
theorem Lies.five {w : World} {g : Nat} {t : TypeId} {a b c d e : Value} (h : Lies w g t #[a, b, c, d, e]) (v0 v1 v2 v3 v4 : Value) : Lies (((((w.setCell ⟨g, 0, none⟩ v0).setCell ⟨g, 1, none⟩ v1).setCell ⟨g, 2, none⟩ v2).setCell ⟨g, 3, none⟩ v3).setCell ⟨g, 4, none⟩ v4) g t #[v0, v1, v2, v3, v4] :=
  ((((h.store 0 v0).store 1 v1).store 2 v2).store 3 v3).store 4 v4
theorem below_five {B g : Nat} {w0 w : World} (h : Below B w0 w) (hg : B ≤ g) (v0 v1 v2 v3 v4 : Value) : Below B w0 (((((w.setCell ⟨g, 0, none⟩ v0).setCell ⟨g, 1, none⟩ v1).setCell ⟨g, 2, none⟩ v2).setCell ⟨g, 3, none⟩ v3).setCell ⟨g, 4, none⟩ v4) :=
  ((((h.setCell (p := ⟨g, 0, none⟩) hg v0).setCell (p := ⟨g, 1, none⟩) hg v1).setCell (p := ⟨g, 2, none⟩) hg v2).setCell (p := ⟨g, 3, none⟩) hg v3).setCell (p := ⟨g, 4, none⟩) hg v4
theorem own_five {w : World} {base : Nat} {e t : TypeId} {size n g : Nat} {v : Value} {xs : List Value} {cs : Array Value} (h : w.ownsRow base e size v n xs) (hl : Lies w g t cs) (hne : e ≠ t) (v0 v1 v2 v3 v4 : Value) : (((((w.setCell ⟨g, 0, none⟩ v0).setCell ⟨g, 1, none⟩ v1).setCell ⟨g, 2, none⟩ v2).setCell ⟨g, 3, none⟩ v3).setCell ⟨g, 4, none⟩ v4).ownsRow base e size v n xs :=
  own_set (own_set (own_set (own_set (own_set h hl hne 0 v0) (hl.store 0 v0) hne 1 v1) ((hl.store 0 v0).store 1 v1) hne 2 v2) (((hl.store 0 v0).store 1 v1).store 2 v2) hne 3 v3) ((((hl.store 0 v0).store 1 v1).store 2 v2).store 3 v3) hne 4 v4
set_option maxHeartbeats 4000000 in
theorem copied_any (x : Iss) (vi vd : Value) (w : World) (hk : 0 ≤ x.k ∧ x.k ≤ 255) (hl1 : x.items.length ≤ 1000) (hl2 : x.dims.length ≤ 1000) (hi : ItemsAt w vi x.items) (hd : DimsAt w vd x.dims) (n1 : NilOk vi) (n2 : NilOk vd) :
    Calls Try.prog 70 #[.agg #[.int .i64 x.d, .int .i64 x.l, .int .u8 x.k, vi, vd]] w fun e w' => ∃ v, e = .returned v ∧ OwnIss w' w.heap.size v x ∧ Below w.heap.size w w' := by
  obtain ⟨d, l, k, il, dl⟩ := x
  simp only at hk hl1 hl2 hi hd
  obtain ⟨Ai, ci, bi, oi, rfl, hAi, hci⟩ := hi
  obtain ⟨Ad, cd, bd, od, rfl, hAd, hcd⟩ := hd
  have LX := Lib.hid (Lies.made w 45 #[.int .i64 d, .int .i64 l, .int .u8 k, .slice Ai il.length ci, .slice Ad dl.length cd])
  obtain ⟨i0, hi0, hz0, hz1, hz2⟩ := info_parts infoI
  obtain ⟨j0, hj0, hy0, hy1, hy2⟩ := info_parts infoS
  have HCI := Lib.hid hci
  have HCD := Lib.hid hcd
  have HAI := Lib.hid hAi
  have HAD := Lib.hid hAd
  have HN1 := Lib.hid n1
  have HN2 := Lib.hid n2
  have zI := Lib.hid (cellsI_len il)
  have zS := Lib.hid (cellsS_len dl)
  clear hci hcd hAi hAd n1 n2
  cases Ai with
  | none =>
    obtain rfl : il = [] := by
      cases il with
      | nil => rfl
      | cons a r => exact absurd (HAI.out (by simp)) (by simp)
    obtain rfl : ci = 0 := HN1.out _ _ rfl
    cases Ad with
    | none =>
      obtain rfl : dl = [] := by
        cases dl with
        | nil => rfl
        | cons a r => exact absurd (HAD.out (by simp)) (by simp)
      obtain rfl : cd = 0 := HN2.out _ _ rfl
      go_enter Try.func70, Try.ntmps70
      go_wp2_with (at_builtin; first | (refine wpList_append_own_none rfl _ _ 42 rfl w.heap.size 52 i0 2 Try.underlying42 hi0 (.slice none 0 0) 0 [] rfl (World.ownsRow_nil _ _ _ _) rfl ?_) | (refine wpList_append_own_none rfl _ _ 43 rfl w.heap.size 54 j0 3 Try.underlying43 hj0 (.slice none 0 0) 0 [] rfl (World.ownsRow_nil _ _ _ _) rfl ?_))
      exact bodyPost_ret (results_cell_row rfl _ _ (w.heap.size + 1) _ _ (0, 0) _ rfl (Lies.new (by simp)) Try.underlying45 rfl (by kernel_rfl)) rfl ⟨_, rfl, ⟨_, _, rfl, hk, World.ownsRow_nil _ _ _ _, World.ownsRow_nil _ _ _ _⟩, by (repeat' (first | (with_reducible first | exact Below.refl _ _ | assumption | refine Below.alloc ?_ ?_ _ | refine Below.setCell ?_ ?_ _ | refine below_row ?_ ?_ _ | refine Below.drew ?_ | refine below_drewN ?_ _ | refine Below.trans ?_ (Below.mono (by assumption) ?_)) | exact Nat.le_refl _ | omega | (simp; done) | (simp; omega) | exact Below.size (by assumption)))⟩
    | some ad =>
      go_enter Try.func70, Try.ntmps70
      go_wp2_with (at_builtin; first | (refine wpList_append_own_none rfl _ _ 42 rfl w.heap.size 52 i0 2 Try.underlying42 hi0 (.slice none 0 0) 0 [] rfl (World.ownsRow_nil _ _ _ _) rfl ?_) | (refine wpList_append_own _ rfl _ _ 43 rfl w.heap.size 54 j0 (.agg #[.int .i64 0, .int .i64 0, .int .i64 0]) 3 24 Try.underlying43 hj0 hy0 hy1 hy2 rfl (by decide) (.slice none 0 0) 0 [] rfl (World.ownsRow_nil _ _ _ _) ad dl.length cd (cellsS dl) rfl zS.out (newsS_any HAD.out HCD.out (by (repeat' (first | (with_reducible first | exact Below.refl _ _ | assumption | refine Below.alloc ?_ ?_ _ | refine Below.setCell ?_ ?_ _ | refine below_row ?_ ?_ _ | refine Below.drew ?_ | refine below_drewN ?_ _ | refine Below.trans ?_ (Below.mono (by assumption) ?_)) | exact Nat.le_refl _ | omega | (simp; done) | (simp; omega) | exact Below.size (by assumption))))) (cellsS_one dl) (by unfold maxLen; omega) (by omega) (by simp; omega) ?_; intro v2 w2 ho2 hg2 _; have hv2 := grown_none hg2; have hb2 : Below w.heap.size w w2 := Below.trans (by (repeat' (first | (with_reducible first | exact Below.refl _ _ | assumption | refine Below.alloc ?_ ?_ _ | refine Below.setCell ?_ ?_ _ | refine below_row ?_ ?_ _ | refine Below.drew ?_ | refine below_drewN ?_ _ | refine Below.trans ?_ (Below.mono (by assumption) ?_)) | exact Nat.le_refl _ | omega | (simp; done) | (simp; omega) | exact Below.size (by assumption)))) (hv2.mono (by simp; omega)); have L2 : Lies w2 w.heap.size 45 #[.int .i64 d, .int .i64 l, .int .u8 k, .slice none 0 0, .slice (some ad) dl.length cd] := ((Lies.made w _ _).alloc _).after hv2; have R2 : Lies w2 (w.heap.size + 1) 45 #[.int .i64 0, .int .i64 0, .int .u8 0, .slice none 0 0, .slice none 0 0] := (Lies.new (by simp)).after hv2; simp only [Nat.zero_add, List.nil_append] at ho2; have HO2 := Lib.hid ho2; have hsz2 := R2.lt; have HL2 := Lib.hid L2; have HR2 := Lib.hid R2; obtain ⟨A2, c2, g2, rfl, -⟩ := own_form ho2; clear ho2 hg2 hv2; have x0 := L2.cell 0; have x1 := L2.cell 1; have x2 := L2.cell 2; have x3 := L2.cell 3; have x4 := L2.cell 4; have f3 := L2.free 3; have f4 := L2.free 4; have r0 := R2.cell 0; have r1 := R2.cell 1; have r2 := R2.cell 2; have r3 := R2.cell 3; have r4 := R2.cell 4; have e0 := R2.free 0; have e1 := R2.free 1; have e2 := R2.free 2; have e3 := R2.free 3; have e4 := R2.free 4; clear L2 R2))
      have hR := HR2.out.other (p := ⟨w.heap.size, 4, none⟩) (by show w.heap.size + 1 ≠ w.heap.size; omega) (.slice A2 dl.length c2)
      have hO2 := own_set HO2.out HL2.out (by decide) 4 (.slice A2 dl.length c2)
      have hB := hb2.setCell (p := ⟨w.heap.size, 4, none⟩) (Nat.le_refl _) (.slice A2 dl.length c2)
      exact bodyPost_ret (results_cell_row rfl _ _ (w.heap.size + 1) _ _ (0, 0) _ rfl (hR.five (.int .i64 d) (.int .i64 l) (.int .u8 k) (.slice none 0 0) (.slice A2 dl.length c2)) Try.underlying45 rfl (by kernel_rfl)) rfl ⟨_, rfl, ⟨_, _, rfl, hk, World.ownsRow_nil _ _ _ _, own_five hO2 hR (by decide) _ _ _ _ _⟩, below_five hB (by omega) _ _ _ _ _⟩
  | some ai =>
    cases Ad with
    | none =>
      obtain rfl : dl = [] := by
        cases dl with
        | nil => rfl
        | cons a r => exact absurd (HAD.out (by simp)) (by simp)
      obtain rfl : cd = 0 := HN2.out _ _ rfl
      go_enter Try.func70, Try.ntmps70
      go_wp2_with (at_builtin; first | (refine wpList_append_own _ rfl _ _ 42 rfl w.heap.size 52 i0 (.agg #[.int .i64 0, .int .i64 0]) 2 16 Try.underlying42 hi0 hz0 hz1 hz2 rfl (by decide) (.slice none 0 0) 0 [] rfl (World.ownsRow_nil _ _ _ _) ai il.length ci (cellsI il) rfl zI.out (newsI_any HAI.out HCI.out (by (repeat' (first | (with_reducible first | exact Below.refl _ _ | assumption | refine Below.alloc ?_ ?_ _ | refine Below.setCell ?_ ?_ _ | refine below_row ?_ ?_ _ | refine Below.drew ?_ | refine below_drewN ?_ _ | refine Below.trans ?_ (Below.mono (by assumption) ?_)) | exact Nat.le_refl _ | omega | (simp; done) | (simp; omega) | exact Below.size (by assumption))))) (cellsI_one il) (by unfold maxLen; omega) (by omega) (by simp; omega) ?_; intro v1 w1 ho1 hg1 _; have hv1 := grown_none hg1; have hb1 : Below w.heap.size w w1 := Below.trans (by (repeat' (first | (with_reducible first | exact Below.refl _ _ | assumption | refine Below.alloc ?_ ?_ _ | refine Below.setCell ?_ ?_ _ | refine below_row ?_ ?_ _ | refine Below.drew ?_ | refine below_drewN ?_ _ | refine Below.trans ?_ (Below.mono (by assumption) ?_)) | exact Nat.le_refl _ | omega | (simp; done) | (simp; omega) | exact Below.size (by assumption)))) (hv1.mono (by simp; omega)); have L1 : Lies w1 w.heap.size 45 #[.int .i64 d, .int .i64 l, .int .u8 k, .slice (some ai) il.length ci, .slice none 0 0] := ((Lies.made w _ _).alloc _).after hv1; have R1 : Lies w1 (w.heap.size + 1) 45 #[.int .i64 0, .int .i64 0, .int .u8 0, .slice none 0 0, .slice none 0 0] := (Lies.new (by simp)).after hv1; simp only [Nat.zero_add, List.nil_append] at ho1; have HO1 := Lib.hid ho1; have hsz1 := R1.lt; have HL1 := Lib.hid L1; have HR1 := Lib.hid R1; obtain ⟨A1, c1, g1, rfl, -⟩ := own_form ho1; clear ho1 hg1 hv1; have x0 := L1.cell 0; have x1 := L1.cell 1; have x2 := L1.cell 2; have x3 := L1.cell 3; have x4 := L1.cell 4; have f3 := L1.free 3; have f4 := L1.free 4; have r0 := R1.cell 0; have r1 := R1.cell 1; have r2 := R1.cell 2; have r3 := R1.cell 3; have r4 := R1.cell 4; have e0 := R1.free 0; have e1 := R1.free 1; have e2 := R1.free 2; have e3 := R1.free 3; have e4 := R1.free 4; clear L1 R1) | (refine wpList_append_own_none rfl _ _ 43 rfl w.heap.size 54 j0 3 Try.underlying43 hj0 (.slice none 0 0) 0 [] rfl (World.ownsRow_nil _ _ _ _) rfl ?_))
      have hL := ((HL1.out.store 3 (.slice A1 il.length c1)).store 4 (.slice none 0 0))
      have hR := (HR1.out.other (p := ⟨w.heap.size, 3, none⟩) (by show w.heap.size + 1 ≠ w.heap.size; omega) (.slice A1 il.length c1)).other (p := ⟨w.heap.size, 4, none⟩) (by show w.heap.size + 1 ≠ w.heap.size; omega) (.slice none 0 0)
      have hO := own_set (own_set HO1.out HL1.out (by decide) 3 (.slice A1 il.length c1)) (HL1.out.store 3 _) (by decide) 4 (.slice none 0 0)
      have hB := (hb1.setCell (p := ⟨w.heap.size, 3, none⟩) (Nat.le_refl _) (.slice A1 il.length c1)).setCell (p := ⟨w.heap.size, 4, none⟩) (Nat.le_refl _) (.slice none 0 0)
      exact bodyPost_ret (results_cell_row rfl _ _ (w.heap.size + 1) _ _ (0, 0) _ rfl (hR.five (.int .i64 d) (.int .i64 l) (.int .u8 k) (.slice A1 il.length c1) (.slice none 0 0)) Try.underlying45 rfl (by kernel_rfl)) rfl ⟨_, rfl, ⟨_, _, rfl, hk, own_five hO hR (by decide) _ _ _ _ _, World.ownsRow_nil _ _ _ _⟩, below_five hB (by omega) _ _ _ _ _⟩
    | some ad =>
      go_enter Try.func70, Try.ntmps70
      go_wp2_with (at_builtin; first | (refine wpList_append_own _ rfl _ _ 42 rfl w.heap.size 52 i0 (.agg #[.int .i64 0, .int .i64 0]) 2 16 Try.underlying42 hi0 hz0 hz1 hz2 rfl (by decide) (.slice none 0 0) 0 [] rfl (World.ownsRow_nil _ _ _ _) ai il.length ci (cellsI il) rfl zI.out (newsI_any HAI.out HCI.out (by (repeat' (first | (with_reducible first | exact Below.refl _ _ | assumption | refine Below.alloc ?_ ?_ _ | refine Below.setCell ?_ ?_ _ | refine below_row ?_ ?_ _ | refine Below.drew ?_ | refine below_drewN ?_ _ | refine Below.trans ?_ (Below.mono (by assumption) ?_)) | exact Nat.le_refl _ | omega | (simp; done) | (simp; omega) | exact Below.size (by assumption))))) (cellsI_one il) (by unfold maxLen; omega) (by omega) (by simp; omega) ?_; intro v1 w1 ho1 hg1 _; have hv1 := grown_none hg1; have hb1 : Below w.heap.size w w1 := Below.trans (by (repeat' (first | (with_reducible first | exact Below.refl _ _ | assumption | refine Below.alloc ?_ ?_ _ | refine Below.setCell ?_ ?_ _ | refine below_row ?_ ?_ _ | refine Below.drew ?_ | refine below_drewN ?_ _ | refine Below.trans ?_ (Below.mono (by assumption) ?_)) | exact Nat.le_refl _ | omega | (simp; done) | (simp; omega) | exact Below.size (by assumption)))) (hv1.mono (by simp; omega)); have L1 : Lies w1 w.heap.size 45 #[.int .i64 d, .int .i64 l, .int .u8 k, .slice (some ai) il.length ci, .slice (some ad) dl.length cd] := ((Lies.made w _ _).alloc _).after hv1; have R1 : Lies w1 (w.heap.size + 1) 45 #[.int .i64 0, .int .i64 0, .int .u8 0, .slice none 0 0, .slice none 0 0] := (Lies.new (by simp)).after hv1; simp only [Nat.zero_add, List.nil_append] at ho1; have HO1 := Lib.hid ho1; have hsz1 := R1.lt; have HL1 := Lib.hid L1; have HR1 := Lib.hid R1; obtain ⟨A1, c1, g1, rfl, -⟩ := own_form ho1; clear ho1 hg1 hv1; have x0 := L1.cell 0; have x1 := L1.cell 1; have x2 := L1.cell 2; have x3 := L1.cell 3; have x4 := L1.cell 4; have f3 := L1.free 3; have f4 := L1.free 4; have r0 := R1.cell 0; have r1 := R1.cell 1; have r2 := R1.cell 2; have r3 := R1.cell 3; have r4 := R1.cell 4; have e0 := R1.free 0; have e1 := R1.free 1; have e2 := R1.free 2; have e3 := R1.free 3; have e4 := R1.free 4; clear L1 R1) | (refine wpList_append_own _ rfl _ _ 43 rfl w.heap.size 54 j0 (.agg #[.int .i64 0, .int .i64 0, .int .i64 0]) 3 24 Try.underlying43 hj0 hy0 hy1 hy2 rfl (by decide) (.slice none 0 0) 0 [] rfl (World.ownsRow_nil _ _ _ _) ad dl.length cd (cellsS dl) rfl zS.out (newsS_any HAD.out HCD.out (by (repeat' (first | (with_reducible first | exact Below.refl _ _ | assumption | refine Below.alloc ?_ ?_ _ | refine Below.setCell ?_ ?_ _ | refine below_row ?_ ?_ _ | refine Below.drew ?_ | refine below_drewN ?_ _ | refine Below.trans ?_ (Below.mono (by assumption) ?_)) | exact Nat.le_refl _ | omega | (simp; done) | (simp; omega) | exact Below.size (by assumption))))) (cellsS_one dl) (by unfold maxLen; omega) (by omega) (by simp; omega) ?_; intro v2 w2 ho2 hg2 _; have hv2 := grown_none hg2; have hb2 : Below w.heap.size w w2 := Below.trans (by (repeat' (first | (with_reducible first | exact Below.refl _ _ | assumption | refine Below.alloc ?_ ?_ _ | refine Below.setCell ?_ ?_ _ | refine below_row ?_ ?_ _ | refine Below.drew ?_ | refine below_drewN ?_ _ | refine Below.trans ?_ (Below.mono (by assumption) ?_)) | exact Nat.le_refl _ | omega | (simp; done) | (simp; omega) | exact Below.size (by assumption)))) (hv2.mono (by simp; omega)); have L2 : Lies w2 w.heap.size 45 #[.int .i64 d, .int .i64 l, .int .u8 k, .slice A1 il.length c1, .slice (some ad) dl.length cd] := (HL1.out.store 3 _).after hv2; have R2 : Lies w2 (w.heap.size + 1) 45 #[.int .i64 0, .int .i64 0, .int .u8 0, .slice none 0 0, .slice none 0 0] := (HR1.out.other (by show w.heap.size + 1 ≠ w.heap.size; omega) _).after hv2; have HP1 := Lib.hid (own_after (own_set HO1.out HL1.out (by decide) 3 (.slice A1 il.length c1)) hv2); simp only [Nat.zero_add, List.nil_append] at ho2; have HO2 := Lib.hid ho2; have hsz2 := R2.lt; have HL2 := Lib.hid L2; have HR2 := Lib.hid R2; obtain ⟨A2, c2, g2, rfl, -⟩ := own_form ho2; clear ho2 hg2 hv2 x0 x1 x2 x3 x4 f3 f4 r0 r1 r2 r3 r4 e0 e1 e2 e3 e4; have x0 := L2.cell 0; have x1 := L2.cell 1; have x2 := L2.cell 2; have x3 := L2.cell 3; have x4 := L2.cell 4; have f3 := L2.free 3; have f4 := L2.free 4; have r0 := R2.cell 0; have r1 := R2.cell 1; have r2 := R2.cell 2; have r3 := R2.cell 3; have r4 := R2.cell 4; have e0 := R2.free 0; have e1 := R2.free 1; have e2 := R2.free 2; have e3 := R2.free 3; have e4 := R2.free 4; clear L2 R2))
      have hR := HR2.out.other (p := ⟨w.heap.size, 4, none⟩) (by show w.heap.size + 1 ≠ w.heap.size; omega) (.slice A2 dl.length c2)
      have hO2 := own_set HO2.out HL2.out (by decide) 4 (.slice A2 dl.length c2)
      have hO1 := own_set HP1.out HL2.out (by decide) 4 (.slice A2 dl.length c2)
      have hB := hb2.setCell (p := ⟨w.heap.size, 4, none⟩) (Nat.le_refl _) (.slice A2 dl.length c2)
      exact bodyPost_ret (results_cell_row rfl _ _ (w.heap.size + 1) _ _ (0, 0) _ rfl (hR.five (.int .i64 d) (.int .i64 l) (.int .u8 k) (.slice A1 il.length c1) (.slice A2 dl.length c2)) Try.underlying45 rfl (by kernel_rfl)) rfl ⟨_, rfl, ⟨_, _, rfl, hk, own_five hO1 hR (by decide) _ _ _ _ _, own_five hO2 hR (by decide) _ _ _ _ _⟩, below_five hB (by omega) _ _ _ _ _⟩
end
section
open Go.RowKit

abbrev zDesk : Value := .agg #[.slice none 0 0, .slice none 0 0, .slice none 0 0]
/-- A register at work: its numbers, and how long the chains are. -/
def DeskAt (w : World) (xs : List Iss) (vN vD : Value) : Prop := IntsAt w vN (numbersL xs) ∧ IntsAt w vD (chainsL xs (numbersL xs))
/-- What lay tells. -/
def LayP (xs : List Iss) (vI : Value) (w : World) (e : Ending) (w' : World) : Prop :=
  ((layE xs = 0 ∧ ∃ vN vD, e = .returned (.tuple #[.agg #[vI, vN, vD], .int .i64 0]) ∧ DeskAt w' xs vN vD) ∨ (layE xs ≠ 0 ∧ e = .returned (.tuple #[zDesk, .int .i64 (layE xs)]))) ∧ Below w.heap.size w w'
theorem IssRow.cells {w : World} {b off : Nat} {xs : List Iss} {vi vd : Nat → Value} (h : IssRow w b off xs vi vd) : ∀ i (h : i < xs.length), IssC w b (off + i * 5) xs[i] := fun i hi => ⟨vi i, vd i, h i hi⟩

set_option maxRecDepth 100000 in
set_option maxHeartbeats 4000000 in
theorem lay_no1 (A : Option Addr) (c b off : Nat) (xs : List Iss) (vi vd : Nat → Value) (w : World) (hl : xs.length ≤ 1000) (hA : 0 < xs.length → A = some ⟨b, off, none⟩) (hc : IssRow w b off xs vi vd)
    (h1 : (inB 1 60 xs.length && rightB zeroI xs) = false) :
    Calls Try.prog 65 #[.agg #[.slice A xs.length c]] w fun e w' => e = .returned (.tuple #[zDesk, .int .i64 20]) ∧ Below w.heap.size w w' := by
  have HR := Lib.hid (fun W (hW : Below w.heap.size w W) => right_any A c b off xs W hA hl ((hc.after hW).cells))
  have HW := Lib.hid (sone 1 60 (xs.length : Int) _ rfl)
  clear hA hc
  generalize inB 1 60 (xs.length : Int) = p at *
  generalize rightB zeroI xs = q at *
  cases p
  · go_enter Try.func65, Try.ntmps65
    have LR := Lib.hid ((Lies.made w 24 #[.slice A xs.length c]))
    go_wp2_with fail
    refine (HW.out _ _ _ ((Lies.new (by simp)).cell 0)).mono ?_
    rintro e w1 ⟨rfl, hb1⟩
    have s1 := hb1.size; try simp only [World.size_alloc, World.size_setCell, World.size_drew, setRow_size] at s1
    have R2 := Lib.hid (((Lies.new (u := w.alloc (.cells #[.slice A xs.length c] 24)) (k := w.heap.size + 1) (t := 118) (cs := #[.slice none 0 0, .slice none 0 0, .slice none 0 0]) (by simp)).alloc (.cells #[.int .i64 xs.length] 3)).after hb1)
    have hbw : Below w.heap.size w w1 := by (repeat' (first | (with_reducible first | exact Below.refl _ _ | assumption | refine Below.alloc ?_ ?_ _ | refine Below.setCell ?_ ?_ _ | refine below_row ?_ ?_ _ | refine Below.drew ?_ | refine below_drewN ?_ _ | refine Below.trans ?_ (Below.mono (by assumption) ?_)) | exact Nat.le_refl _ | omega | (simp; done) | (simp; omega) | exact Below.size (by assumption)))
    have r0 := R2.out.cell 0
    have r1 := R2.out.cell 1
    have r2 := R2.out.cell 2
    have f0 := R2.out.free 0
    have f1 := R2.out.free 1
    have f2 := R2.out.free 2
    have zr := R2.out.lt
    clear hb1
    go_wp2_with fail
    exact bodyPost_ret (v := .tuple #[zDesk, .int .i64 20]) (by simp [results, Try.results65, go_sem, r0, r1, r2]) rfl ⟨rfl, by (repeat' (first | (with_reducible first | exact Below.refl _ _ | assumption | refine Below.alloc ?_ ?_ _ | refine Below.setCell ?_ ?_ _ | refine below_row ?_ ?_ _ | refine Below.drew ?_ | refine below_drewN ?_ _ | refine Below.trans ?_ (Below.mono (by assumption) ?_)) | exact Nat.le_refl _ | omega | (simp; done) | (simp; omega) | exact Below.size (by assumption)))⟩
  · obtain rfl : q = false := by simpa using h1
    clear h1
    go_enter Try.func65, Try.ntmps65
    have LR := Lib.hid ((Lies.made w 24 #[.slice A xs.length c]))
    go_wp2_with fail
    refine (HW.out _ _ _ ((Lies.new (by simp)).cell 0)).mono ?_
    rintro e w1 ⟨rfl, hb1⟩
    have s1 := hb1.size; try simp only [World.size_alloc, World.size_setCell, World.size_drew, setRow_size] at s1
    have R2 := Lib.hid (((Lies.new (u := w.alloc (.cells #[.slice A xs.length c] 24)) (k := w.heap.size + 1) (t := 118) (cs := #[.slice none 0 0, .slice none 0 0, .slice none 0 0]) (by simp)).alloc (.cells #[.int .i64 xs.length] 3)).after hb1)
    have hbw : Below w.heap.size w w1 := by (repeat' (first | (with_reducible first | exact Below.refl _ _ | assumption | refine Below.alloc ?_ ?_ _ | refine Below.setCell ?_ ?_ _ | refine below_row ?_ ?_ _ | refine Below.drew ?_ | refine below_drewN ?_ _ | refine Below.trans ?_ (Below.mono (by assumption) ?_)) | exact Nat.le_refl _ | omega | (simp; done) | (simp; omega) | exact Below.size (by assumption)))
    have L1 := Lib.hid (((LR.out.alloc (.cells #[.slice none 0 0, .slice none 0 0, .slice none 0 0] 118)).alloc (.cells #[.int .i64 xs.length] 3)).after hb1)
    have l0 := L1.out.cell 0
    have zl := L1.out.lt
    clear hb1
    go_wp2_with fail
    refine (HR.out _ (by (repeat' (first | (with_reducible first | exact Below.refl _ _ | assumption | refine Below.alloc ?_ ?_ _ | refine Below.setCell ?_ ?_ _ | refine below_row ?_ ?_ _ | refine Below.drew ?_ | refine below_drewN ?_ _ | refine Below.trans ?_ (Below.mono (by assumption) ?_)) | exact Nat.le_refl _ | omega | (simp; done) | (simp; omega) | exact Below.size (by assumption))))).mono ?_
    rintro e w2 ⟨rfl, hb2⟩
    have s2 := hb2.size; try simp only [World.size_alloc, World.size_setCell, World.size_drew, setRow_size] at s2
    have R3 := Lib.hid (R2.out.after hb2)
    have hbw2 : Below w.heap.size w w2 := by (repeat' (first | (with_reducible first | exact Below.refl _ _ | assumption | refine Below.alloc ?_ ?_ _ | refine Below.setCell ?_ ?_ _ | refine below_row ?_ ?_ _ | refine Below.drew ?_ | refine below_drewN ?_ _ | refine Below.trans ?_ (Below.mono (by assumption) ?_)) | exact Nat.le_refl _ | omega | (simp; done) | (simp; omega) | exact Below.size (by assumption)))
    have r0 := R3.out.cell 0
    have r1 := R3.out.cell 1
    have r2 := R3.out.cell 2
    have f0 := R3.out.free 0
    have f1 := R3.out.free 1
    have f2 := R3.out.free 2
    have zr := R3.out.lt
    clear hb2
    go_wp2_with fail
    exact bodyPost_ret (v := .tuple #[zDesk, .int .i64 20]) (by simp [results, Try.results65, go_sem, r0, r1, r2]) rfl ⟨rfl, by (repeat' (first | (with_reducible first | exact Below.refl _ _ | assumption | refine Below.alloc ?_ ?_ _ | refine Below.setCell ?_ ?_ _ | refine below_row ?_ ?_ _ | refine Below.drew ?_ | refine below_drewN ?_ _ | refine Below.trans ?_ (Below.mono (by assumption) ?_)) | exact Nat.le_refl _ | omega | (simp; done) | (simp; omega) | exact Below.size (by assumption)))⟩

set_option maxRecDepth 100000 in
set_option maxHeartbeats 8000000 in
theorem lay_rest (A : Option Addr) (c b off : Nat) (xs : List Iss) (vi vd : Nat → Value) (w : World) (hl : xs.length ≤ 1000) (hli : ∀ x ∈ xs, x.items.length ≤ 1000) (hA : 0 < xs.length → A = some ⟨b, off, none⟩) (hc : IssRow w b off xs vi vd)
    (h1 : inB 1 60 xs.length = true) (h2 : rightB zeroI xs = true) :
    Calls Try.prog 65 #[.agg #[.slice A xs.length c]] w (LayP xs (.slice A xs.length c) w) := by
  have HR := Lib.hid (fun W (hW : Below w.heap.size w W) => right_any A c b off xs W hA hl ((hc.after hW).cells))
  have HW := Lib.hid (sone 1 60 (xs.length : Int) _ rfl)
  have HNO := Lib.hid (fun W (hW : Below w.heap.size w W) => numbersOf_any A c b off xs vi vd W hl hA (hc.after hW))
  rw [h1] at HW
  rw [h2] at HR
  have HH1 := Lib.hid h1
  have HH2 := Lib.hid h2
  have HA := Lib.hid hA
  have HC := Lib.hid hc
  have HLI := Lib.hid hli
  clear h1 h2 hA hc hli
  go_enter Try.func65, Try.ntmps65
  have LR := Lib.hid ((Lies.made w 24 #[.slice A xs.length c]))
  go_wp2_with fail
  refine (HW.out _ _ _ ((Lies.new (by simp)).cell 0)).mono ?_
  rintro e w1 ⟨rfl, hb1⟩
  have s1 := hb1.size; try simp only [World.size_alloc, World.size_setCell, World.size_drew, setRow_size] at s1
  have R2 := Lib.hid (((Lies.new (u := w.alloc (.cells #[.slice A xs.length c] 24)) (k := w.heap.size + 1) (t := 118) (cs := #[.slice none 0 0, .slice none 0 0, .slice none 0 0]) (by simp)).alloc (.cells #[.int .i64 xs.length] 3)).after hb1)
  have hbw : Below w.heap.size w w1 := by (repeat' (first | (with_reducible first | exact Below.refl _ _ | assumption | refine Below.alloc ?_ ?_ _ | refine Below.setCell ?_ ?_ _ | refine below_row ?_ ?_ _ | refine Below.drew ?_ | refine below_drewN ?_ _ | refine Below.trans ?_ (Below.mono (by assumption) ?_)) | exact Nat.le_refl _ | omega | (simp; done) | (simp; omega) | exact Below.size (by assumption)))
  have L1 := Lib.hid (((LR.out.alloc (.cells #[.slice none 0 0, .slice none 0 0, .slice none 0 0] 118)).alloc (.cells #[.int .i64 xs.length] 3)).after hb1)
  have l0 := L1.out.cell 0
  have zl := L1.out.lt
  clear hb1
  go_wp2_with fail
  refine (HR.out _ (by (repeat' (first | (with_reducible first | exact Below.refl _ _ | assumption | refine Below.alloc ?_ ?_ _ | refine Below.setCell ?_ ?_ _ | refine below_row ?_ ?_ _ | refine Below.drew ?_ | refine below_drewN ?_ _ | refine Below.trans ?_ (Below.mono (by assumption) ?_)) | exact Nat.le_refl _ | omega | (simp; done) | (simp; omega) | exact Below.size (by assumption))))).mono ?_
  rintro e w2 ⟨rfl, hb2⟩
  have s2 := hb2.size; try simp only [World.size_alloc, World.size_setCell, World.size_drew, setRow_size] at s2
  have R3 := Lib.hid (R2.out.after hb2)
  have L2 := Lib.hid (L1.out.after hb2)
  have hbw2 : Below w.heap.size w w2 := by (repeat' (first | (with_reducible first | exact Below.refl _ _ | assumption | refine Below.alloc ?_ ?_ _ | refine Below.setCell ?_ ?_ _ | refine below_row ?_ ?_ _ | refine Below.drew ?_ | refine below_drewN ?_ _ | refine Below.trans ?_ (Below.mono (by assumption) ?_)) | exact Nat.le_refl _ | omega | (simp; done) | (simp; omega) | exact Below.size (by assumption)))
  clear hb2 l0 zl
  have l0 := L2.out.cell 0
  have zl := L2.out.lt
  have hbd : Below w.heap.size w w2 := hbw2
  go_upto_region 3 with fail
  go_cut [4] (fun s4 wx => ∃ (g : Nat) (v : Value), s4 = .pointer (some ⟨g, 0, none⟩) ∧ w.heap.size + 1 < g ∧ Hid (Lies wx g 118 #[.slice A xs.length c, v, .slice none 0 0]) ∧ Hid (wx.ownsRow w.heap.size 3 1 v (numbersL xs).length (cellsN (numbersL xs))) ∧ Hid (Lies wx (w.heap.size + 1) 118 #[.slice none 0 0, .slice none 0 0, .slice none 0 0]) ∧ Below w.heap.size w wx)
  case first =>
    have e1 : ¬ w2.heap.size = w.heap.size := by omega
    have e2 : ¬ w.heap.size = w2.heap.size := by omega
    go_region_held3 (fun W => W.cell? ⟨w.heap.size, 0, none⟩ = some (.slice A xs.length c)) (go_keep) ((go_at_call 106; refine (HNO.out _ (by (repeat' (first | (with_reducible first | exact Below.refl _ _ | assumption | refine Below.alloc ?_ ?_ _ | refine Below.setCell ?_ ?_ _ | refine below_row ?_ ?_ _ | refine Below.drew ?_ | refine below_drewN ?_ _ | refine Below.trans ?_ (Below.mono (by assumption) ?_)) | exact Nat.le_refl _ | omega | (simp; done) | (simp; omega) | exact Below.size (by assumption))))).mono ?_; rintro e w3 ⟨v, rfl, hown, hb3⟩; have L3 : Lies w3 w.heap.size 24 #[.slice A xs.length c] := (by first | exact (L2.out.drew).after hb3 | exact ((L2.out.drew).alloc _).after hb3); have R4 : Hid (Lies w3 (w.heap.size + 1) 118 #[.slice none 0 0, .slice none 0 0, .slice none 0 0]) := (by first | exact Lib.hid ((R3.out.drew).after hb3) | exact Lib.hid (((R3.out.drew).alloc _).after hb3)); have m0 := L3.cell 0; have zm := L3.lt; have zm4 := R4.out.lt; have HO3 := Lib.hid hown; have hbw3 : Below w.heap.size w w3 := (by (repeat' (first | (with_reducible first | exact Below.refl _ _ | assumption | refine Below.alloc ?_ ?_ _ | refine Below.setCell ?_ ?_ _ | refine below_row ?_ ?_ _ | refine Below.drew ?_ | refine below_drewN ?_ _ | refine Below.trans ?_ (Below.mono (by assumption) ?_)) | exact Nat.le_refl _ | omega | (simp; done) | (simp; omega) | exact Below.size (by assumption)))); obtain ⟨A6, c6, g6, rfl, -⟩ := own_form hown; clear hown; (first | (have N3 : Lies w3 w2.heap.size 118 #[.slice none 0 0, .slice none 0 0, .slice none 0 0] := (Lies.made w2.drew 118 #[.slice none 0 0, .slice none 0 0, .slice none 0 0]).after hb3; have HN3 := Lib.hid N3; have n0 := N3.cell 0; have n1 := N3.cell 1; have n2 := N3.cell 2; have f0 := N3.free 0; have f1 := N3.free 1; have f2 := N3.free 2; have zn := N3.lt) | skip)))
    all_goals
      go_wp2_with fail
      go_meet
      first
        | exact ⟨w3.heap.size, _, rfl, by omega, Lib.hid (Lies.made _ _ _), Lib.hid ((own_less HO3.out (by first | exact hbw2.size | (simp; omega))).alloc _), Lib.hid (R4.out.alloc _), hbw3.alloc hbw3.size _⟩
        | exact ⟨w2.heap.size, _, rfl, by omega, Lib.hid (((HN3.out.store 0 _).store 1 _).store 2 _), Lib.hid (own_set (own_set (own_set (own_less HO3.out (by first | exact hbw2.size | (simp; omega))) HN3.out (by decide) 0 _) (HN3.out.store 0 _) (by decide) 1 _) ((HN3.out.store 0 _).store 1 _) (by decide) 2 _), Lib.hid (((R4.out.other (by show w.heap.size + 1 ≠ w2.heap.size; omega) _).other (by show w.heap.size + 1 ≠ w2.heap.size; omega) _).other (by show w.heap.size + 1 ≠ w2.heap.size; omega) _), ((hbw3.setCell (p := ⟨w2.heap.size, 0, none⟩) (by exact hbw2.size) _).setCell (p := ⟨w2.heap.size, 1, none⟩) (by exact hbw2.size) _).setCell (p := ⟨w2.heap.size, 2, none⟩) (by exact hbw2.size) _⟩
  case rest =>
    obtain ⟨g, v, rfl, hg, LG, HO, R5, hbw3⟩ := hcut
    have HSrt := Lib.hid (right_sorted HH2.out)
    have h0x : 0 < xs.length := by have := HH1.out; unfold inB at this; simp at this; omega
    have h0z : 0 < (numbersL xs).length := List.length_pos_of_mem (numbers_has HH2.out xs[0] (List.getElem_mem h0x))
    have HStr := Lib.hid (numbers_strict HH2.out)
    have HNin := Lib.hid (numbers_nin HH2.out)
    have hle : layE xs = if (decide ((numbersL xs).length ≤ 20) && completeB xs (numbersL xs)) = false then 20 else if (0 : Int) ∈ chainsL xs (numbersL xs) then 21 else if 6 < maxL (chainsL xs (numbersL xs)) then 20 else 0 := by
      unfold layE; rw [HH1.out, HH2.out]; rfl
    have HLE := Lib.hid hle
    clear hle HR HNO HW L1 L2 R2 R3 hbw hbw2 hbd l0 zl LR HH1
    have hints := ints_of_own HO.out
    obtain ⟨A6, c6, b6, o6, rfl, hA6, hc6⟩ := hints
    have HA6 := Lib.hid hA6
    have HC6 := Lib.hid hc6
    clear hA6 hc6
    have HNL : Hid (∃ zs, numbersL xs = zs) := Lib.hid ⟨_, rfl⟩
    obtain ⟨zs, hzs⟩ := HNL.out
    have HZS := Lib.hid hzs
    rw [hzs] at h0z LG HO HStr HNin HLE HA6 HC6
    clear hzs HNL
    have g1 := LG.out.cell 1
    have zg := LG.out.lt
    have q0 := R5.out.cell 0
    have q1 := R5.out.cell 1
    have q2 := R5.out.cell 2
    have f0 := R5.out.free 0
    have f1 := R5.out.free 1
    have f2 := R5.out.free 2
    have zq := R5.out.lt
    by_cases h20 : zs.length ≤ 20
    · have h20' : ¬ ((20 : Int) < (zs.length : Int)) := by omega
      have h20d : decide ((20 : Int) < (zs.length : Int)) = false := by simpa using h20'
      have HCO := Lib.hid (complete_any A A6 c b off c6 b6 o6 (.slice none 0 0) xs zs vi vd wc hl HLI.out (by omega) HStr.out HA.out (HC.out.after hbw3) HA6.out HC6.out)
      have HLE2 : Hid (layE xs = if completeB xs zs = false then 20 else if (0 : Int) ∈ chainsL xs zs then 21 else if 6 < maxL (chainsL xs zs) then 20 else 0) := Lib.hid (by rw [HLE.out, decide_eq_true h20, Bool.true_and])
      obtain ⟨cb, hcb⟩ : ∃ cb, completeB xs zs = cb := ⟨_, rfl⟩
      have HCB := Lib.hid hcb
      rw [hcb] at HCO HLE2
      clear HLE hcb
      have g0 := LG.out.cell 0
      have g2 := LG.out.cell 2
      go_wp2_with fail
      refine (HCO.out).mono ?_
      rintro e w4 ⟨rfl, hb4⟩
      have LG4 := Lib.hid (LG.out.after hb4)
      have R6 := Lib.hid (R5.out.after hb4)
      have hbw4 : Below w.heap.size w w4 := by (repeat' (first | (with_reducible first | exact Below.refl _ _ | assumption | refine Below.alloc ?_ ?_ _ | refine Below.setCell ?_ ?_ _ | refine below_row ?_ ?_ _ | refine Below.drew ?_ | refine below_drewN ?_ _ | refine Below.trans ?_ (Below.mono (by assumption) ?_)) | exact Nat.le_refl _ | omega | (simp; done) | (simp; omega) | exact Below.size (by assumption)))
      have HC6' := Lib.hid (fun i (h : i < zs.length) => cell_keep hb4 (HC6.out i h))
      have HO4 := Lib.hid (own_after HO.out hb4)
      clear hb4 g0 g1 g2 zg q0 q1 q2 f0 f1 f2 zq
      have q0 := R6.out.cell 0
      have q1 := R6.out.cell 1
      have q2 := R6.out.cell 2
      have f0 := R6.out.free 0
      have f1 := R6.out.free 1
      have f2 := R6.out.free 2
      have zq := R6.out.lt
      cases cb
      · go_wp2_with fail
        exact bodyPost_ret (v := .tuple #[zDesk, .int .i64 20]) (by simp [results, Try.results65, go_sem, q0, q1, q2]) rfl ⟨.inr ⟨by rw [HLE2.out, if_pos trivial]; decide, by rw [HLE2.out, if_pos trivial]⟩, by (repeat' (first | (with_reducible first | exact Below.refl _ _ | assumption | refine Below.alloc ?_ ?_ _ | refine Below.setCell ?_ ?_ _ | refine below_row ?_ ?_ _ | refine Below.drew ?_ | refine below_drewN ?_ _ | refine Below.trans ?_ (Below.mono (by assumption) ?_)) | exact Nat.le_refl _ | omega | (simp; done) | (simp; omega) | exact Below.size (by assumption)))⟩
      · have HCH := Lib.hid (chains_any A A6 c b off c6 b6 o6 (.slice none 0 0) xs zs vi vd w4 hl (by omega) HSrt.out HA.out (HC.out.after hbw4) (fun x hx => ⟨HLI.out x hx, fun it hit => HNin.out _ (complete_mem HCB.out x hx it hit)⟩) HNin.out HA6.out HC6'.out)
        have hcl : (chainsL xs zs).length = zs.length := by simp [chainsL]
        have HCL := Lib.hid hcl
        clear hcl
        have HLE3 : Hid (layE xs = if (0 : Int) ∈ chainsL xs zs then 21 else if 6 < maxL (chainsL xs zs) then 20 else 0) := Lib.hid (by rw [HLE2.out]; rfl)
        clear HLE2
        have g0 := LG4.out.cell 0
        have g1 := LG4.out.cell 1
        have g2 := LG4.out.cell 2
        have k2 := LG4.out.free 2
        have zg := LG4.out.lt
        go_wp2_with fail
        refine (HCH.out).mono ?_
        rintro e w5 ⟨rfl, LD, hb5⟩
        have LG5 := Lib.hid (LG4.out.after hb5)
        have R7 := Lib.hid (R6.out.after hb5)
        have LD5 := Lib.hid LD
        have hbw5 : Below w.heap.size w w5 := by (repeat' (first | (with_reducible first | exact Below.refl _ _ | assumption | refine Below.alloc ?_ ?_ _ | refine Below.setCell ?_ ?_ _ | refine below_row ?_ ?_ _ | refine Below.drew ?_ | refine below_drewN ?_ _ | refine Below.trans ?_ (Below.mono (by assumption) ?_)) | exact Nat.le_refl _ | omega | (simp; done) | (simp; omega) | exact Below.size (by assumption)))
        have HO5 := Lib.hid (own_after HO4.out hb5)
        have s5 := hb5.size
        clear hb5 LD g0 g1 g2 k2 zg q0 q1 q2 f0 f1 f2 zq
        have hgd : ¬ g = w4.heap.size + 1 := by have := LG4.out.lt; omega
        have hgr : ¬ g = w.heap.size + 1 := by omega
        have hrd : ¬ w.heap.size + 1 = w4.heap.size + 1 := by have := R6.out.lt; omega
        have HCT := Lib.hid (fun W (h : Lies W (w4.heap.size + 1) 3 (rowN (chainsL xs zs))) => sContains_any (some ⟨w4.heap.size + 1, 0, none⟩) zs.length (w4.heap.size + 1) 0 (chainsL xs zs) 0 W (fun _ => rfl) (by rw [HCL.out]; omega) h.ints)
        have HMX := Lib.hid (fun W (h : Lies W (w4.heap.size + 1) 3 (rowN (chainsL xs zs))) => sMax_any zs.length (w4.heap.size + 1) 0 (chainsL xs zs) W (by rw [HCL.out]; exact h0z) (by rw [HCL.out]; omega) h.ints)
        rw [HCL.out] at HCT HMX
        have HLE4 : Hid (layE xs = if decide ((0 : Int) ∈ chainsL xs zs) = true then 21 else if 6 < maxL (chainsL xs zs) then 20 else 0) := Lib.hid (by rw [HLE3.out]; simp only [decide_eq_true_eq])
        clear HLE3
        obtain ⟨cz, hcz⟩ : ∃ cz, decide ((0 : Int) ∈ chainsL xs zs) = cz := ⟨_, rfl⟩
        rw [hcz] at HCT HLE4
        clear hcz
        have HMV : Hid (∃ mv, maxL (chainsL xs zs) = mv) := Lib.hid ⟨_, rfl⟩
        obtain ⟨mv, hmv⟩ := HMV.out
        rw [hmv] at HMX HLE4
        clear hmv HMV
        have LD6 := Lib.hid (LD5.out.other (p := ⟨g, 2, none⟩) (by show w4.heap.size + 1 ≠ g; omega) (.slice (some ⟨w4.heap.size + 1, 0, none⟩) zs.length zs.length))
        have LG6 := Lib.hid (LG5.out.store 2 (.slice (some ⟨w4.heap.size + 1, 0, none⟩) zs.length zs.length))
        have R8 := Lib.hid (R7.out.other (p := ⟨g, 2, none⟩) (by show w.heap.size + 1 ≠ g; omega) (.slice (some ⟨w4.heap.size + 1, 0, none⟩) zs.length zs.length))
        have HO6 := Lib.hid (own_set HO5.out LG5.out (by decide) 2 (.slice (some ⟨w4.heap.size + 1, 0, none⟩) zs.length zs.length))
        have hbw6 : Below w.heap.size w (w5.setCell ⟨g, 2, none⟩ (.slice (some ⟨w4.heap.size + 1, 0, none⟩) zs.length zs.length)) := hbw5.setCell (p := ⟨g, 2, none⟩) (by show w.heap.size ≤ g; omega) _
        have g2 := LG5.out.cell 2
        have k2 := LG5.out.free 2
        have zg := LG5.out.lt
        go_wp2_with fail
        clear g2 k2 zg
        generalize w5.setCell ⟨g, 2, none⟩ (.slice (some ⟨w4.heap.size + 1, 0, none⟩) zs.length zs.length) = w6 at *
        refine (HCT.out _ LD6.out).mono ?_
        rintro e w7 ⟨rfl, rfl⟩
        have q0 := R8.out.cell 0
        have q1 := R8.out.cell 1
        have q2 := R8.out.cell 2
        have f0 := R8.out.free 0
        have f1 := R8.out.free 1
        have f2 := R8.out.free 2
        have zq := R8.out.lt
        have g0 := LG6.out.cell 0
        have g1 := LG6.out.cell 1
        have g2 := LG6.out.cell 2
        have zg := LG6.out.lt
        cases cz
        · go_wp2_with fail
          refine (HMX.out _ LD6.out).mono ?_
          rintro e w8 ⟨rfl, rfl⟩
          by_cases h6 : 6 < mv
          · go_wp2_with fail
            exact bodyPost_ret (v := .tuple #[zDesk, .int .i64 20]) (by simp [results, Try.results65, go_sem, q0, q1, q2]) rfl ⟨.inr ⟨by rw [HLE4.out, if_neg (by decide), if_pos h6]; decide, by rw [HLE4.out, if_neg (by decide), if_pos h6]⟩, by (repeat' (first | (with_reducible first | exact Below.refl _ _ | assumption | refine Below.alloc ?_ ?_ _ | refine Below.setCell ?_ ?_ _ | refine below_row ?_ ?_ _ | refine Below.drew ?_ | refine below_drewN ?_ _ | refine Below.trans ?_ (Below.mono (by assumption) ?_)) | exact Nat.le_refl _ | omega | (simp; done) | (simp; omega) | exact Below.size (by assumption)))⟩
          · have HE0 : Hid (layE xs = 0) := Lib.hid (by rw [HLE4.out, if_neg (by decide), if_neg h6])
            go_wp2_with fail
            refine bodyPost_ret (v := .tuple #[.agg #[.slice A xs.length c, .slice A6 zs.length c6, .slice (some ⟨w4.heap.size + 1, 0, none⟩) zs.length zs.length], .int .i64 0]) (by simp [results, Try.results65, go_sem, q0, q1, q2]) rfl ⟨.inl ⟨HE0.out, _, _, rfl, ?_⟩, by (repeat' (first | (with_reducible first | exact Below.refl _ _ | assumption | refine Below.alloc ?_ ?_ _ | refine Below.setCell ?_ ?_ _ | refine below_row ?_ ?_ _ | refine Below.drew ?_ | refine below_drewN ?_ _ | refine Below.trans ?_ (Below.mono (by assumption) ?_)) | exact Nat.le_refl _ | omega | (simp; done) | (simp; omega) | exact Below.size (by assumption)))⟩
            have HOF := own_set (own_set (own_set HO6.out R8.out (by decide) 0 (.slice A xs.length c)) (R8.out.store 0 _) (by decide) 1 (.slice A6 zs.length c6)) ((R8.out.store 0 _).store 1 _) (by decide) 2 (.slice (some ⟨w4.heap.size + 1, 0, none⟩) zs.length zs.length)
            have LDF := ((LD6.out.other (p := ⟨w.heap.size + 1, 0, none⟩) (by show w4.heap.size + 1 ≠ w.heap.size + 1; omega) (.slice A xs.length c)).other (p := ⟨w.heap.size + 1, 1, none⟩) (by show w4.heap.size + 1 ≠ w.heap.size + 1; omega) (.slice A6 zs.length c6)).other (p := ⟨w.heap.size + 1, 2, none⟩) (by show w4.heap.size + 1 ≠ w.heap.size + 1; omega) (.slice (some ⟨w4.heap.size + 1, 0, none⟩) zs.length zs.length)
            unfold DeskAt
            rw [HZS.out]
            exact ⟨ints_of_own HOF, some ⟨w4.heap.size + 1, 0, none⟩, zs.length, w4.heap.size + 1, 0, by rw [HCL.out], fun _ => rfl, LDF.ints⟩
        · go_wp2_with fail
          exact bodyPost_ret (v := .tuple #[zDesk, .int .i64 21]) (by simp [results, Try.results65, go_sem, q0, q1, q2]) rfl ⟨.inr ⟨by rw [HLE4.out, if_pos trivial]; decide, by rw [HLE4.out, if_pos trivial]⟩, by (repeat' (first | (with_reducible first | exact Below.refl _ _ | assumption | refine Below.alloc ?_ ?_ _ | refine Below.setCell ?_ ?_ _ | refine below_row ?_ ?_ _ | refine Below.drew ?_ | refine below_drewN ?_ _ | refine Below.trans ?_ (Below.mono (by assumption) ?_)) | exact Nat.le_refl _ | omega | (simp; done) | (simp; omega) | exact Below.size (by assumption)))⟩
    · have h20' : (20 : Int) < (zs.length : Int) := by omega
      have h20d : decide ((20 : Int) < (zs.length : Int)) = true := by simpa using h20'
      have HLE2 : Hid (layE xs = 20) := Lib.hid (by rw [HLE.out, decide_eq_false h20, Bool.false_and]; rfl)
      go_wp2_with fail
      exact bodyPost_ret (v := .tuple #[zDesk, .int .i64 20]) (by simp [results, Try.results65, go_sem, q0, q1, q2]) rfl ⟨.inr ⟨by rw [HLE2.out]; decide, by rw [HLE2.out]⟩, by (repeat' (first | (with_reducible first | exact Below.refl _ _ | assumption | refine Below.alloc ?_ ?_ _ | refine Below.setCell ?_ ?_ _ | refine below_row ?_ ?_ _ | refine Below.drew ?_ | refine below_drewN ?_ _ | refine Below.trans ?_ (Below.mono (by assumption) ?_)) | exact Nat.le_refl _ | omega | (simp; done) | (simp; omega) | exact Below.size (by assumption)))⟩
/-- lay, whatever the register. -/
theorem lay_any (A : Option Addr) (c b off : Nat) (xs : List Iss) (vi vd : Nat → Value) (w : World) (hl : xs.length ≤ 1000) (hli : ∀ x ∈ xs, x.items.length ≤ 1000) (hA : 0 < xs.length → A = some ⟨b, off, none⟩) (hc : IssRow w b off xs vi vd) :
    Calls Try.prog 65 #[.agg #[.slice A xs.length c]] w (LayP xs (.slice A xs.length c) w) := by
  by_cases h : (inB 1 60 xs.length && rightB zeroI xs) = false
  · have hE : layE xs = 20 := by unfold layE; rw [if_pos h]
    refine (lay_no1 A c b off xs vi vd w hl hA hc h).mono ?_
    rintro e w' ⟨he, hb⟩
    exact ⟨.inr ⟨by rw [hE]; decide, by rw [hE]; exact he⟩, hb⟩
  · rw [Bool.not_eq_false, Bool.and_eq_true] at h
    exact lay_rest A c b off xs vi vd w hl hli hA hc h.1 h.2
end
section
open Go.RowKit Go.Shelf
attribute [local go_sem] Oper.semAt_some

def isN (xs : List Iss) (d l : Int) (k : Fin xs.length) : Prop := xs[k].d = d ∧ xs[k].l = l
abbrev zIss : Value := .agg #[.int .i64 0, .int .i64 0, .int .u8 0, .slice none 0 0, .slice none 0 0]
/-- What find tells. -/
def FindP (xs : List Iss) (vi vd : Nat → Value) (d l : Int) (w : World) (e : Ending) (w' : World) : Prop :=
  ((∃ k : Fin xs.length, isN xs d l k ∧ (∀ j : Fin xs.length, j.1 < k.1 → ¬ isN xs d l j) ∧ e = .returned (.tuple #[.agg #[.int .i64 (xs[k].d), .int .i64 (xs[k].l), .int .u8 (xs[k].k), vi k, vd k], .bool true])) ∨
    ((∀ k : Fin xs.length, ¬ isN xs d l k) ∧ e = .returned (.tuple #[zIss, .bool false]))) ∧ Below w.heap.size w w'
theorem find_none {xs : List Iss} {d l : Int} (h : ∀ k ∈ idxs xs d, ¬ isN xs d l k) : ∀ k : Fin xs.length, ¬ isN xs d l k := by
  intro k hk
  exact h k (by unfold idxs; simpa using hk.1) hk
theorem find_some {xs : List Iss} {d l : Int} {pre : List (Fin xs.length)} {x : Fin xs.length} (hp : pre ++ [x] <+: idxs xs d) (h : ∀ k ∈ pre, ¬ isN xs d l k) : ∀ j : Fin xs.length, j.1 < x.1 → ¬ isN xs d l j := by
  intro j hj hn
  have hm : j ∈ idxs xs d := by unfold idxs; simpa using hn.1
  obtain ⟨t, ht⟩ := hp
  have hsort : (idxs xs d).Pairwise (fun a b => a.1 < b.1) := by
    unfold idxs
    exact List.Pairwise.filter _ (by have := List.pairwise_lt_finRange xs.length; exact this)
  rw [← ht] at hm hsort
  rcases List.mem_append.1 hm with hm | hm
  · rcases List.mem_append.1 hm with hm | hm
    · exact h j hm hn
    · obtain rfl := List.mem_singleton.1 hm; omega
  · have := (List.pairwise_append.1 hsort).2.2 x (by simp) j hm
    omega

set_option maxRecDepth 100000 in
set_option maxHeartbeats 4000000 in
theorem find_any (A : Option Addr) (c b off : Nat) (vN vD : Value) (xs : List Iss) (vi vd : Nat → Value) (d l : Int) (w : World) (hl : xs.length ≤ 1000) (hs : xs.Pairwise (fun x y => x.d ≤ y.d)) (hA : 0 < xs.length → A = some ⟨b, off, none⟩) (hc : IssRow w b off xs vi vd) :
    Calls Try.prog 69 #[.agg #[.slice A xs.length c, vN, vD], .agg #[.int .i64 d, .int .i64 l]] w (FindP xs vi vd d l w) := by
  have HC := Lib.hid hc
  have HA := Lib.hid hA
  have HS := Lib.hid hs
  clear hc hA hs
  refine (callsIn_wide (n := 5)).1 ?_
  refine callsIn_of_wp_marks Try.func69 rfl trivial ?_ rfl
  simp only [Try.ntmps69, List.size_toArray, List.length_cons, List.length_nil, Nat.reduceAdd, Nat.reduceSub, Array.replicate_succ, Array.replicate_zero, List.push_toArray, List.append_toArray, List.nil_append, List.cons_append]
  gi_wp2_with fail
  refine ⟨trivial, (callsIn_wide.2 (issuesOf_any _ _ _ _ _ ⟨A, xs.length, c, rfl⟩)).mono ?_⟩
  rintro e w3 ⟨rfl, rfl⟩
  gi_wp2_with fail
  obtain ⟨wR, hwR⟩ : ∃ W, ((((((w.alloc (.cells #[.slice A xs.length c, vN, vD] 118)).alloc (.cells #[.int .i64 d, .int .i64 l] 26)).alloc (.cells #[.int .i64 0, .int .i64 0, .int .u8 0, .slice none 0 0, .slice none 0 0] 45)).alloc (.cells #[.bool false] 4)).alloc (.cells #[.slice A xs.length c, vN, vD] 118)).alloc (.cells #[.int .i64 d] 3)) = W := ⟨_, rfl⟩
  have hsR : wR.heap.size = w.heap.size + 6 := by rw [← hwR]; simp
  have Mn : Lies wR (w.heap.size + 1) 26 #[.int .i64 d, .int .i64 l] := by rw [← hwR]; exact ((((Lies.new (by simp)).alloc _).alloc _).alloc _).alloc _
  have Mi : Lies wR (w.heap.size + 1 + 1) 45 #[.int .i64 0, .int .i64 0, .int .u8 0, .slice none 0 0, .slice none 0 0] := by rw [← hwR]; exact (((Lies.new (by simp)).alloc _).alloc _).alloc _
  have Mb : Lies wR (w.heap.size + 1 + 1 + 1) 4 #[.bool false] := by rw [← hwR]; exact ((Lies.new (by simp)).alloc _).alloc _
  have Md : Lies wR (w.heap.size + 1 + 1 + 1 + 1) 118 #[.slice A xs.length c, vN, vD] := by rw [← hwR]; exact (Lies.new (by simp)).alloc _
  have Mt : Lies wR (w.heap.size + 1 + 1 + 1 + 1 + 1) 3 #[.int .i64 d] := by rw [← hwR]; exact Lies.new (by simp)
  have hbR : Below w.heap.size w wR := by rw [← hwR]; (repeat' (first | (with_reducible first | exact Below.refl _ _ | assumption | refine Below.alloc ?_ ?_ _ | refine Below.setCell ?_ ?_ _ | refine below_row ?_ ?_ _ | refine Below.drew ?_ | refine below_drewN ?_ _ | refine Below.trans ?_ (Below.mono (by assumption) ?_)) | exact Nat.le_refl _ | omega | (simp; done) | (simp; omega) | exact Below.size (by assumption)))
  rw [hwR]
  clear hwR
  have hIter := isit_any 4 (by omega) (w.heap.size + 1 + 1 + 1 + 1) (w.heap.size + 1 + 1 + 1 + 1 + 1) A c b off vN vD xs vi vd d (fun _ => False) wR hl HS.out Md Mt HA.out (HC.out.after hbR) (fun h => h) (fun h => h) (fun _ h => h)
  refine range_own (F := Fence.wide) (X := fun _ => False) rfl (by omega) (gf := 111) rfl trivial (enters_of Try.func111 (by kernel_rfl) rfl) hIter (Below.refl _ _) (fun _ => rfl)
    (fun pre W => (∀ k ∈ pre, ¬ isN xs d l k) ∧ Lies W (w.heap.size + 1) 26 #[.int .i64 d, .int .i64 l] ∧ Lies W (w.heap.size + 1 + 1) 45 #[.int .i64 0, .int .i64 0, .int .u8 0, .slice none 0 0, .slice none 0 0] ∧ Lies W (w.heap.size + 1 + 1 + 1) 4 #[.bool false] ∧ Below w.heap.size w W)
    (fun j pre W => j = Code.ret ∧ (∃ pr x, pre = pr ++ [x] ∧ (∀ k ∈ pr, ¬ isN xs d l k) ∧ isN xs d l x ∧ Lies W (w.heap.size + 1 + 1) 45 #[.int .i64 (xs[x].d), .int .i64 (xs[x].l), .int .u8 (xs[x].k), vi x, vd x]) ∧ Lies W (w.heap.size + 1 + 1 + 1) 4 #[.bool true] ∧ Below w.heap.size w W) ?_ ?_ ⟨(fun k hk => by cases hk), Mn, Mi, Mb, hbR⟩
    (fun pre x a' W => ∃ B, wR.heap.size ≤ B ∧ a' = { tmps := #[.agg #[.slice A xs.length c, vN, vD], .agg #[.int .i64 d, .int .i64 l], .pointer (some ⟨w.heap.size, 0, none⟩), .pointer (some ⟨w.heap.size + 1, 0, none⟩), .pointer (some ⟨w.heap.size + 1 + 1, 0, none⟩), .pointer (some ⟨w.heap.size + 1 + 1 + 1, 0, none⟩), .pointer (some ⟨B, 0, none⟩), .agg #[.slice A xs.length c, vN, vD], .pointer (some ⟨w.heap.size + 1, 0, none⟩), .int .i64 d, .func (.func 111) #[] #[.pointer (some ⟨w.heap.size + 1 + 1 + 1 + 1, 0, none⟩), .pointer (some ⟨w.heap.size + 1 + 1 + 1 + 1 + 1, 0, none⟩)], .agg #[.int .i64 (xs[x].d), .int .i64 (xs[x].l), .int .u8 (xs[x].k), vi x, vd x], undef, undef, undef, undef, undef, undef], defers := [] } ∧ Lies W B 45 #[.int .i64 (xs[x].d), .int .i64 (xs[x].l), .int .u8 (xs[x].k), vi x, vd x] ∧
      (∀ k ∈ pre, ¬ isN xs d l k) ∧ Lies W (w.heap.size + 1) 26 #[.int .i64 d, .int .i64 l] ∧ Lies W (w.heap.size + 1 + 1) 45 #[.int .i64 0, .int .i64 0, .int .u8 0, .slice none 0 0, .slice none 0 0] ∧ Lies W (w.heap.size + 1 + 1 + 1) 4 #[.bool false] ∧ Below w.heap.size w W) ?_ ?assign ?body ?done ?stop
  · rintro pre A' B row ⟨i1, i2, i3, i5, i4⟩ hg hr
    exact ⟨i1, i2.turned hg (by omega) hr, i3.turned hg (by omega) hr, i5.turned hg (by omega) hr, i4.grown hg (by have := i4.size; omega) (fun k e => by have := hr k e; omega)⟩
  · rintro j pre A' B row ⟨i1, ⟨pr, x, e1, e2, e3, i2⟩, i3, i4⟩ hg hr
    exact ⟨i1, ⟨pr, x, e1, e2, e3, i2.turned hg (by omega) hr⟩, i3.turned hg (by omega) hr, i4.grown hg (by have := i4.size; omega) (fun k e => by have := hr k e; omega)⟩
  · rintro pre x a' W l' o o' ⟨B, hB, rfl, j1, j2, j3, j4, j6, j5⟩ hl' ho hcl
    exact ⟨B, hB, rfl, j1.put o' ho hcl, j2, j3.put o' ho hcl, j4.put o' ho hcl, j6.put o' ho hcl, j5.grown (grown_put o') (by have := j5.size; omega) (fun k e => by injection e with e; omega)⟩
  case assign =>
    rintro l' pre x W K ⟨i1, i2, i3, i5, i4⟩ hsW hK
    have HI2 := Lib.hid i2
    have HI3 := Lib.hid i3
    have HI5 := Lib.hid i5
    have HK := Lib.hid hK
    clear i2 i3 i5 hK
    obtain ⟨e1, e2⟩ := HC.out.slices x.2
    unfold encF
    generalize vi x = v1 at *
    generalize vd x = v2 at *
    obtain ⟨A1, n1, c1, rfl⟩ := e1
    obtain ⟨A2, n2, c2, rfl⟩ := e2
    gi_wp2
    refine HK.out _ _ (KeepsOthers.alloc _ _) ⟨by simp, fun g cs t fr _ e => (Below.heap_alloc _ _ g (Array.getElem?_eq_some_iff.1 e).1).trans e⟩ ⟨W.heap.size, hsW, rfl, Lies.made _ _ _, i1, HI2.out.alloc _, HI3.out.alloc _, HI5.out.alloc _, i4.alloc (by have := i4.size; omega) _⟩
  case body =>
    rintro l' pre x a' W ⟨B, hB, rfl, j1, j2, j3, j4, j6, j5⟩ hsW
    have x0 := j1.cell 0
    have x1 := j1.cell 1
    have x2 := j1.cell 2
    have x3 := j1.cell 3
    have x4 := j1.cell 4
    have n0 := j3.cell 0
    have n1 := j3.cell 1
    have z0 := j1.lt
    have z1 := j3.lt
    have z2 := j4.lt
    have z3 := j6.lt
    have J1 := Lib.hid j1
    have J3 := Lib.hid j3
    have J4 := Lib.hid j4
    have J6 := Lib.hid j6
    clear j1 j3 j4 j6
    obtain ⟨e1, e2⟩ := HC.out.slices x.2
    have HN := Lib.hid (fun W => nameOf_any xs[x].d xs[x].l xs[x].k (vi x) (vd x) W)
    have hnx : isN xs d l x = (xs[x].d = d ∧ xs[x].l = l) := rfl
    have HNX := Lib.hid hnx
    clear hnx
    generalize hdx : xs[x].d = dx at *
    generalize hlx : xs[x].l = lx at *
    generalize hkx : xs[x].k = kx at *
    have HDX := Lib.hid hdx
    have HLX := Lib.hid hlx
    have HKX := Lib.hid hkx
    clear hdx hlx hkx
    gi_wp2_with fail
    have hmx : Try.prog.follows .mixedOrders = true := by kernel_rfl
    by_cases h1 : dx = d <;> by_cases h2 : lx = l
    all_goals
      first | (have b1 : (dx == d) = true := by simpa using h1) | (have b1 : (dx == d) = false := by simpa using h1)
      first | (have b2 : (lx == l) = true := by simpa using h2) | (have b2 : (lx == l) = false := by simpa using h2)
      have HH1 := Lib.hid h1
      have HH2 := Lib.hid h2
      clear h1 h2
    · gi_region_with_o (refine ⟨trivial, ?_⟩; gi_at_call 83; refine (CallsIn.inRound l' (callsIn_wide.2 (HN.out _))).mono ?_; rintro e w1 ⟨rfl, hb1⟩; have N3 := (J3.out.drew).after hb1; have m0 := N3.cell 0; have m1 := N3.cell 1)
      all_goals
        have N1 := Lib.hid ((J1.out.drew).after hb1)
        have N4 := Lib.hid ((J4.out.drew).after hb1)
        have N6 := Lib.hid ((J6.out.drew).after hb1)
        have hb2 : Below w.heap.size w w1 := (j5.drew).trans (hb1.mono j5.size)
        have HKO := Lib.hid ((KeepsOthers.drew W).trans (KeepsOthers.of_below hb1))
        have HCK := Lib.hid ((CellsKept.of_below (X := fun _ => False) (Below.drew (Below.refl _ W))).trans (CellsKept.of_below hb1))
        clear hb1 m0 m1 x0 x1 x2 x3 x4 n0 n1 HN b1 b2
        have x0 := N1.out.cell 0
        have x1 := N1.out.cell 1
        have x2 := N1.out.cell 2
        have x3 := N1.out.cell 3
        have x4 := N1.out.cell 4
        have y0 := N4.out.cell 0
        have y1 := N4.out.cell 1
        have y2 := N4.out.cell 2
        have y3 := N4.out.cell 3
        have y4 := N4.out.cell 4
        have f0 := N4.out.free 0
        have f1 := N4.out.free 1
        have f2 := N4.out.free 2
        have f3 := N4.out.free 3
        have f4 := N4.out.free 4
        have y5 := N6.out.cell 0
        have f5 := N6.out.free 0
        have z1 := N4.out.lt
        have z2 := N6.out.lt
        obtain ⟨A1, n1, c1, e1⟩ := e1
        obtain ⟨A2, n2, c2, e2⟩ := e2
        rw [e1] at x3
        rw [e2] at x4
        gi_wp2
        refine ⟨(((((((HKO.out).trans (KeepsOthers.setCell _ _ _)).trans (KeepsOthers.setCell _ _ _)).trans (KeepsOthers.setCell _ _ _)).trans (KeepsOthers.setCell _ _ _)).trans (KeepsOthers.setCell _ _ _)).trans (KeepsOthers.setCell _ _ _)), rfl, ⟨pre, x, rfl, j2, by rw [HNX.out]; exact ⟨HH1.out, HH2.out⟩, ?_⟩, ?_, ?_⟩
        · rw [HDX.out, HLX.out, HKX.out, e1, e2]
          exact (((((N4.out.store 0 _).store 1 _).store 2 _).store 3 _).store 4 _).other (by show _ ≠ w.heap.size + 1 + 1 + 1; omega) _
        · exact ((((((N6.out.other (by show _ ≠ w.heap.size + 1 + 1; omega) _).other (by show _ ≠ w.heap.size + 1 + 1; omega) _).other (by show _ ≠ w.heap.size + 1 + 1; omega) _).other (by show _ ≠ w.heap.size + 1 + 1; omega) _).other (by show _ ≠ w.heap.size + 1 + 1; omega) _).store 0 _)
        · exact (((((hb2.setCell (p := ⟨w.heap.size + 1 + 1, 0, none⟩) (by simp; omega) _).setCell (p := ⟨w.heap.size + 1 + 1, 1, none⟩) (by simp; omega) _).setCell (p := ⟨w.heap.size + 1 + 1, 2, none⟩) (by simp; omega) _).setCell (p := ⟨w.heap.size + 1 + 1, 3, none⟩) (by simp; omega) _).setCell (p := ⟨w.heap.size + 1 + 1, 4, none⟩) (by simp; omega) _).setCell (p := ⟨w.heap.size + 1 + 1 + 1, 0, none⟩) (by simp; omega) _
    · gi_region_with_o (refine ⟨trivial, ?_⟩; gi_at_call 83; refine (CallsIn.inRound l' (callsIn_wide.2 (HN.out _))).mono ?_; rintro e w1 ⟨rfl, hb1⟩; have N3 := (J3.out.drew).after hb1; have m0 := N3.cell 0; have m1 := N3.cell 1)
      all_goals
        have N1 := Lib.hid ((J1.out.drew).after hb1)
        have N4 := Lib.hid ((J4.out.drew).after hb1)
        have N6 := Lib.hid ((J6.out.drew).after hb1)
        have hb2 : Below w.heap.size w w1 := (j5.drew).trans (hb1.mono j5.size)
        have HKO := Lib.hid ((KeepsOthers.drew W).trans (KeepsOthers.of_below hb1))
        have HCK := Lib.hid ((CellsKept.of_below (X := fun _ => False) (Below.drew (Below.refl _ W))).trans (CellsKept.of_below hb1))
        clear hb1 m0 m1 x0 x1 x2 x3 x4 n0 n1 HN b1 b2
        gi_wp2
        refine ⟨HKO.out, HCK.out, ?_, N3, N4.out, N6.out, hb2⟩
        intro k hk
        rcases List.mem_append.1 hk with hk | hk
        · exact j2 k hk
        · obtain rfl := List.mem_singleton.1 hk
          rw [HNX.out]
          rintro ⟨q1, q2⟩
          first | exact HH1.out q1 | exact HH2.out q2
    · gi_region_with_o (refine ⟨trivial, ?_⟩; gi_at_call 83; refine (CallsIn.inRound l' (callsIn_wide.2 (HN.out _))).mono ?_; rintro e w1 ⟨rfl, hb1⟩; have N3 := (J3.out.drew).after hb1; have m0 := N3.cell 0; have m1 := N3.cell 1)
      all_goals
        have N1 := Lib.hid ((J1.out.drew).after hb1)
        have N4 := Lib.hid ((J4.out.drew).after hb1)
        have N6 := Lib.hid ((J6.out.drew).after hb1)
        have hb2 : Below w.heap.size w w1 := (j5.drew).trans (hb1.mono j5.size)
        have HKO := Lib.hid ((KeepsOthers.drew W).trans (KeepsOthers.of_below hb1))
        have HCK := Lib.hid ((CellsKept.of_below (X := fun _ => False) (Below.drew (Below.refl _ W))).trans (CellsKept.of_below hb1))
        clear hb1 m0 m1 x0 x1 x2 x3 x4 n0 n1 HN b1 b2
        gi_wp2
        refine ⟨HKO.out, HCK.out, ?_, N3, N4.out, N6.out, hb2⟩
        intro k hk
        rcases List.mem_append.1 hk with hk | hk
        · exact j2 k hk
        · obtain rfl := List.mem_singleton.1 hk
          rw [HNX.out]
          rintro ⟨q1, q2⟩
          first | exact HH1.out q1 | exact HH2.out q2
    · gi_region_with_o (refine ⟨trivial, ?_⟩; gi_at_call 83; refine (CallsIn.inRound l' (callsIn_wide.2 (HN.out _))).mono ?_; rintro e w1 ⟨rfl, hb1⟩; have N3 := (J3.out.drew).after hb1; have m0 := N3.cell 0; have m1 := N3.cell 1)
      all_goals
        have N1 := Lib.hid ((J1.out.drew).after hb1)
        have N4 := Lib.hid ((J4.out.drew).after hb1)
        have N6 := Lib.hid ((J6.out.drew).after hb1)
        have hb2 : Below w.heap.size w w1 := (j5.drew).trans (hb1.mono j5.size)
        have HKO := Lib.hid ((KeepsOthers.drew W).trans (KeepsOthers.of_below hb1))
        have HCK := Lib.hid ((CellsKept.of_below (X := fun _ => False) (Below.drew (Below.refl _ W))).trans (CellsKept.of_below hb1))
        clear hb1 m0 m1 x0 x1 x2 x3 x4 n0 n1 HN b1 b2
        gi_wp2
        refine ⟨HKO.out, HCK.out, ?_, N3, N4.out, N6.out, hb2⟩
        intro k hk
        rcases List.mem_append.1 hk with hk | hk
        · exact j2 k hk
        · obtain rfl := List.mem_singleton.1 hk
          rw [HNX.out]
          rintro ⟨q1, q2⟩
          first | exact HH1.out q1 | exact HH2.out q2
  case done =>
    rintro D ks W hD rfl ⟨i1, i2, i3, i5, i4⟩ hK
    have HF := Lib.hid (find_none i1)
    have HI3 := Lib.hid i3
    have HI5 := Lib.hid i5
    have HKK := Lib.hid hK
    have y0 := HI3.out.cell 0
    have y1 := HI3.out.cell 1
    have y2 := HI3.out.cell 2
    have y3 := HI3.out.cell 3
    have y4 := HI3.out.cell 4
    have f0 := HI3.out.free 0
    have f1 := HI3.out.free 1
    have f2 := HI3.out.free 2
    have f3 := HI3.out.free 3
    have f4 := HI3.out.free 4
    have y5 := HI5.out.cell 0
    have f5 := HI5.out.free 0
    have z1 := HI3.out.lt
    have z2 := HI5.out.lt
    clear i1 i2 i3 i5 hK
    gi_wp2
    obtain ⟨W9, hW9⟩ : ∃ W9, ((((((W.setCell ⟨w.heap.size + 1 + 1, 0, none⟩ (.int .i64 0)).setCell ⟨w.heap.size + 1 + 1, 1, none⟩ (.int .i64 0)).setCell ⟨w.heap.size + 1 + 1, 2, none⟩ (.int .u8 0)).setCell ⟨w.heap.size + 1 + 1, 3, none⟩ (.slice none 0 0)).setCell ⟨w.heap.size + 1 + 1, 4, none⟩ (.slice none 0 0)).setCell ⟨w.heap.size + 1 + 1 + 1, 0, none⟩ (.bool false)) = W9 := ⟨_, rfl⟩
    have M4 : Lies W9 (w.heap.size + 1 + 1) 45 #[.int .i64 0, .int .i64 0, .int .u8 0, .slice none 0 0, .slice none 0 0] := by
      rw [← hW9]
      exact (((((HI3.out.store 0 _).store 1 _).store 2 _).store 3 _).store 4 _).other (by show _ ≠ w.heap.size + 1 + 1 + 1; omega) _
    have M5 : Lies W9 (w.heap.size + 1 + 1 + 1) 4 #[.bool false] := by
      rw [← hW9]
      exact ((((((HI5.out.other (by show _ ≠ w.heap.size + 1 + 1; omega) _).other (by show _ ≠ w.heap.size + 1 + 1; omega) _).other (by show _ ≠ w.heap.size + 1 + 1; omega) _).other (by show _ ≠ w.heap.size + 1 + 1; omega) _).other (by show _ ≠ w.heap.size + 1 + 1; omega) _).store 0 _)
    have hK9 : W9.heap[D]? = some (.deferred (some [])) := by
      rw [← hW9]
      exact ((((((KeepsOthers.setCell _ _ _).trans (KeepsOthers.setCell _ _ _)).trans (KeepsOthers.setCell _ _ _)).trans (KeepsOthers.setCell _ _ _)).trans (KeepsOthers.setCell _ _ _)).trans (KeepsOthers.setCell _ _ _)).same _ _ HKK.out rfl
    have hB9 : Below w.heap.size w W9 := by
      rw [← hW9]
      exact (((((i4.setCell (p := ⟨w.heap.size + 1 + 1, 0, none⟩) (by simp; omega) _).setCell (p := ⟨w.heap.size + 1 + 1, 1, none⟩) (by simp; omega) _).setCell (p := ⟨w.heap.size + 1 + 1, 2, none⟩) (by simp; omega) _).setCell (p := ⟨w.heap.size + 1 + 1, 3, none⟩) (by simp; omega) _).setCell (p := ⟨w.heap.size + 1 + 1, 4, none⟩) (by simp; omega) _).setCell (p := ⟨w.heap.size + 1 + 1 + 1, 0, none⟩) (by simp; omega) _
    rw [hW9]
    clear hW9
    refine ⟨by simp, .inl ⟨_, _, rfl, run_takeDeferred hK9, ?_⟩⟩
    refine ⟨_, results_two_cells rfl _ _ (w.heap.size + 1 + 1) (w.heap.size + 1 + 1 + 1) _ _ _ _ _ _ rfl rfl (M4.put _ hK9 rfl) (M5.put _ hK9 rfl) Try.underlying45 rfl (by kernel_rfl) Try.underlying4 rfl, .inr ⟨HF.out, rfl⟩, ?_⟩
    exact hB9.grown (grown_put _) (by have := hB9.size; omega) (fun k e => by injection e with e; omega)
  case stop =>
    rintro D cd pre W hD hpre ⟨rfl, ⟨pr, x, rfl, e2, e3, i2⟩, i3, i4⟩ hK
    have HF := Lib.hid (find_some hpre e2)
    have HE3 := Lib.hid e3
    have HI2 := Lib.hid i2
    have HI3 := Lib.hid i3
    have HKK := Lib.hid hK
    clear i2 i3 hK e2 e3
    gi_wp2
    refine ⟨by simp, .inl ⟨_, _, rfl, run_takeDeferred HKK.out, ?_⟩⟩
    refine ⟨_, results_two_cells rfl _ _ (w.heap.size + 1 + 1) (w.heap.size + 1 + 1 + 1) _ _ _ _ _ _ rfl rfl (HI2.out.put _ HKK.out rfl) (HI3.out.put _ HKK.out rfl) Try.underlying45 rfl (by kernel_rfl) Try.underlying4 rfl, .inl ⟨x, HE3.out, HF.out, rfl⟩, ?_⟩
    exact i4.grown (grown_put _) (by have := i4.size; omega) (fun k e => by injection e with e; omega)
end
end Go.Proofs.Ytkjfceajakhlfaa
