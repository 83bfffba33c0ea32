/- Z3: The reference: parts, Parts, Explode. Z7: The reference: Parts, Explode. Y6: Tree's closure, and Tree. Y7: Tree. -/
import Derived.Test.YtmhlbdighceogaaGreatLI
import Derived.Test.YtmhlbdighceogaaGreatK20
import Derived.Test.YtmhlbdighceogaaGreatLG
namespace Go.Proofs.YtmhlbdighceogaaGreat
set_option linter.unusedVariables false
set_option linter.unusedSimpArgs false
section
open Go.RowKit

/-- A row of counts, by drawings. -/
theorem rowS_put {w : World} {gn p : Nat} {zs : List Int} {S : Int → Int} {d v : Int} (hp : ∃ hp : p < zs.length, zs[p] = d) (hn : zs.Pairwise (· < ·)) (h : Lies w gn 3 (rowN (zs.map S))) : Lies (w.setCell ⟨gn, p, none⟩ (.int .i64 v)) gn 3 (rowN (zs.map fun y => if y = d then v else S y)) := by
  obtain ⟨hpl, hz⟩ := hp
  have h2 := h.store p (.int .i64 v)
  rw [rowN_set] at h2
  have e : (zs.map S).set p v = zs.map fun y => if y = d then v else S y := by
    apply List.ext_getElem
    · simp
    · intro i h3 h4
      simp only [List.length_set, List.length_map] at h3
      rw [List.getElem_set, List.getElem_map, List.getElem_map]
      by_cases e : p = i
      · subst e; rw [if_pos rfl, if_pos hz]
      · rw [if_neg e, if_neg]
        intro e2
        have e3 : zs[i] = zs[p] := e2.trans hz.symm
        rcases Nat.lt_or_gt_of_ne e with h5 | h5
        · have := List.pairwise_iff_getElem.1 hn p i hpl h3 h5; omega
        · have := List.pairwise_iff_getElem.1 hn i p h3 hpl h5; omega
  rw [e] at h2
  exact h2

end
section
open Go.RowKit


end
section
open Go.RowKit

/-- Below B all but block g is as it was. -/
structure KB (g B : Nat) (W W' : World) : Prop where
  os : W'.os = W.os
  tape : W'.tape = W.tape
  output : W'.output = W.output
  size : W.heap.size ≤ W'.heap.size
  block : ∀ k, k < B → k ≠ g → W'.heap[k]? = W.heap[k]?
theorem KB.refl (g B : Nat) (W : World) : KB g B W W := ⟨rfl, rfl, rfl, Nat.le_refl _, fun _ _ _ => rfl⟩
theorem KB.trans {g B : Nat} {a b c : World} (h : KB g B a b) (k : KB g B b c) : KB g B a c := ⟨k.os.trans h.os, k.tape.trans h.tape, k.output.trans h.output, Nat.le_trans h.size k.size, fun i hi hn => (k.block i hi hn).trans (h.block i hi hn)⟩
theorem KB.of {g B : Nat} {W W' : World} (h : Below B W W') : KB g B W W' := ⟨h.os, h.tape, h.output, h.size, fun k hk _ => h.block k hk⟩
theorem KB.below {g B : Nat} {a W W' : World} {b : Nat} (h : Below b a W) (k : KB g B W W') (hg : b ≤ g) (hB : b ≤ B) : Below b a W' := h.trans ⟨k.os, k.tape, k.output, k.size, fun i hi => k.block i (by omega) (by omega)⟩
theorem KB.set {g B : Nat} (W : World) (i : Nat) (u : Value) : KB g B W (W.setCell ⟨g, i, none⟩ u) := ⟨rfl, rfl, rfl, by simp [World.setCell], fun k _ hk => Below.heap_setCell _ _ _ _ hk⟩
theorem KB.grown {g B : Nat} {W W' : World} {base : Nat} {e : TypeId} {size n : Nat} {v : Value} {xs : List Value} (h : W.ownsRow base e size v n xs) (hg : W.grownBy W' v.ownBlock) (hB : B ≤ base) (hs : B ≤ W.heap.size) : KB g B W W' := ⟨hg.os, hg.tape, hg.output, hg.size, fun k hk _ => hg.block k (by omega) (fun e => by have := (h.lt k e.symm).1; omega)⟩
theorem KB.lies {g B : Nat} {W W' : World} (h : KB g B W W') {k : Nat} {t : TypeId} {cs : Array Value} (hl : Lies W k t cs) (hk : k < B) (hn : k ≠ g) : Lies W' k t cs := (h.block k hk hn).trans hl
def cellsB (l : List (Int × Int × Int × Int)) : List Value := l.flatMap fun b => [.int .i64 b.1, .int .i64 b.2.1, .int .i64 b.2.2.1, .int .i64 b.2.2.2]
theorem cellsB_len (l : List (Int × Int × Int × Int)) : (cellsB l).length = l.length * 4 := by
  induction l with
  | nil => rfl
  | cons x r ih => unfold cellsB at *; simp only [List.flatMap_cons, List.length_append, ih, List.length_cons, List.length_nil]; omega
theorem cellsB_at {l : List (Int × Int × Int × Int)} {i t : Nat} (h : i < l.length) (ht : t < 4) : (cellsB l)[i * 4 + t]? = [.int .i64 (l[i].1), .int .i64 (l[i].2.1), .int .i64 (l[i].2.2.1), .int .i64 (l[i].2.2.2)][t]? := by
  induction l generalizing i with
  | nil => simp at h
  | cons x r ih =>
    cases i with
    | zero =>
      show ([.int .i64 x.1, .int .i64 x.2.1, .int .i64 x.2.2.1, .int .i64 x.2.2.2] ++ cellsB r)[0 * 4 + t]? = _
      rw [List.getElem?_append_left (by simp; omega), Nat.zero_mul, Nat.zero_add]; rfl
    | succ i =>
      show ([.int .i64 x.1, .int .i64 x.2.1, .int .i64 x.2.2.1, .int .i64 x.2.2.2] ++ cellsB r)[(i + 1) * 4 + t]? = _
      rw [List.getElem?_append_right (by simp; omega)]
      have := ih (i := i) (by simpa using h)
      have e : (i + 1) * 4 + t - [Value.int .i64 x.1, Value.int .i64 x.2.1, Value.int .i64 x.2.2.1, Value.int .i64 x.2.2.2].length = i * 4 + t := by simp; omega
      rw [e, this]; rfl
theorem cellsB_app (a b : List (Int × Int × Int × Int)) : cellsB (a ++ b) = cellsB a ++ cellsB b := by simp [cellsB]
theorem branches_of_own {w : World} {base : Nat} {v : Value} {l : List (Int × Int × Int × Int)} (h : w.ownsRow base 56 4 v l.length (cellsB l)) : BranchesAt w v l := by
  obtain ⟨A, c, g, hv, hc⟩ := own_form h
  refine ⟨A, c, g, 0, hv, fun h0 => (hc h0).2.1, fun i hi => ?_⟩
  obtain ⟨-, -, cur, hl, hcur⟩ := hc (by omega)
  have ht : ∀ t, t < 4 → w.cell? ⟨g, 0 + i * 4 + t, none⟩ = [.int .i64 (l[i].1), .int .i64 (l[i].2.1), .int .i64 (l[i].2.2.1), .int .i64 (l[i].2.2.2)][t]? := fun t ht => by
    rw [hl.cell, Nat.zero_add, hcur _ (by omega), cellsB_at hi ht]
  exact ⟨ht 0 (by omega), ht 1 (by omega), ht 2 (by omega), ht 3 (by omega)⟩
theorem infoB : (Tryz.prog.info? 56).map (fun i => (i.zero, i.size, i.bytes)) = some (some (.agg #[.int .i64 0, .int .i64 0, .int .i64 0, .int .i64 0]), 4, 32) := by kernel_rfl
theorem tree_step {xs : List Iss} {q : Int → Nat} {k : Nat} {dep d c : Int} {il : List (Int × Int)} {dx lx : Int} (hi : (xs.getD (q d) zeroI).items = il) (hd : (xs.getD (q d) zeroI).d = dx) (hl : (xs.getD (q d) zeroI).l = lx) :
    treeL xs q (k + 1) dep d c = (dep, dx, lx, c) :: il.flatMap fun y => treeL xs q k (dep + 1) y.1 y.2 := by
  rw [treeL, hi, hd, hl]
/-- The branches behind j items. -/
def treeJ (xs : List Iss) (q : Int → Nat) (k : Nat) (dep : Int) (b : Int × Int × Int × Int) (il : List (Int × Int)) (l : List (Int × Int × Int × Int)) (j : Nat) : List (Int × Int × Int × Int) := l ++ b :: (il.take j).flatMap fun y => treeL xs q k (dep + 1) y.1 y.2
theorem treeJ_step {xs : List Iss} {q : Int → Nat} {k : Nat} {dep : Int} {b : Int × Int × Int × Int} {il : List (Int × Int)} {l : List (Int × Int × Int × Int)} {j : Nat} (h : j < il.length) : treeJ xs q k dep b il l (j + 1) = treeJ xs q k dep b il l j ++ treeL xs q k (dep + 1) il[j].1 il[j].2 := by
  unfold treeJ
  rw [flat_step h]; simp
theorem treeJ_len {xs : List Iss} {q : Int → Nat} {k : Nat} {dep : Int} {b : Int × Int × Int × Int} {il : List (Int × Int)} {l : List (Int × Int × Int × Int)} {j : Nat} (h : ∀ it ∈ il, ∀ dep c, (treeL xs q k dep it.1 c).length ≤ tlb k) : (treeJ xs q k dep b il l j).length ≤ l.length + 1 + j * tlb k := by
  unfold treeJ
  rw [List.length_append, List.length_cons]
  have h1 := flat_len (l := il.take j) (f := fun y => treeL xs q k (dep + 1) y.1 y.2) (n := tlb k) (fun it hit => h it (List.mem_of_mem_take hit) _ _)
  have h2 : (il.take j).length * tlb k ≤ j * tlb k := Nat.mul_le_mul_right _ (List.length_take_le _ _)
  omega

set_option maxRecDepth 100000 in
set_option maxHeartbeats 8000000 in
theorem grow_any {w : World} {xs : List Iss} {zs : List Int} {q rk : Int → Nat} {vi vd : Nat → Value} {v0 v1 v2 v3 : Value} (g1 g2 g3 B : Nat) (K : Kit xs zs q rk) (hW : Walk w (.agg #[v0, v1, v2, v3]) xs zs q vi vd) (hg : w.heap.size ≤ g2) (hB1 : g1 < B) (hB2 : g2 < B) (hB3 : g3 < B) (hn12 : g1 ≠ g2) (hn32 : g3 ≠ g2) (hwB : w.heap.size ≤ B) :
    ∀ (k : Nat) (dep d c : Int) (W : World) (l : List (Int × Int × Int × Int)) (AO : Option Addr) (cO : Nat), d ∈ zs → rk d ≤ k → 0 ≤ dep → dep ≤ 100 - k → l.length + tlb k ≤ 900000 → B ≤ W.heap.size → Below w.heap.size w W → Lies W g1 86 #[v0, v1, v2, v3] → Lies W g2 52 #[.slice AO l.length cO] →
      Lies W g3 100 #[.func (.func 48) #[] #[.pointer (some ⟨g1, 0, none⟩), .pointer (some ⟨g2, 0, none⟩), .pointer (some ⟨g3, 0, none⟩)]] → W.ownsRow B 56 4 (.slice AO l.length cO) l.length (cellsB l) →
      Calls Tryz.prog 48 #[.int .i64 dep, .agg #[.int .i64 d, .int .i64 c], .pointer (some ⟨g1, 0, none⟩), .pointer (some ⟨g2, 0, none⟩), .pointer (some ⟨g3, 0, none⟩)] W fun e w' => (∃ v, e = .returned v) ∧ (∃ (A' : Option Addr) (c' : Nat), Lies w' g2 52 #[.slice A' (l ++ treeL xs q k dep d c).length c'] ∧ w'.ownsRow B 56 4 (.slice A' (l ++ treeL xs q k dep d c).length c') (l ++ treeL xs q k dep d c).length (cellsB (l ++ treeL xs q k dep d c))) ∧ KB g2 B W w' := by
  obtain ⟨i0, hi0, hz0, hz1, hz2⟩ := info_parts infoB
  intro k
  induction k with
  | zero =>
    intro dep d c W l AO cO hd hr
    have := K.pos d hd
    omega
  | succ k ih =>
    intro dep d c W l AO cO hd hr hdep0 hdep1 hln hBW hb L1 L2 L3 hO
    obtain ⟨h1, h2, h3⟩ := K.itm hd
    have HCL := Lib.hid (hW.call d hd)
    obtain ⟨Ai, ci, bi, oi, hvi, hAi, hci⟩ := hW.items d hd
    obtain ⟨A2, n2, c2, hvd⟩ := hW.dims d hd
    rw [hvi, hvd] at HCL
    have HX : Hid (∃ il dx lx, (xs.getD (q d) zeroI).items = il ∧ (xs.getD (q d) zeroI).d = dx ∧ (xs.getD (q d) zeroI).l = lx) := Lib.hid ⟨_, _, _, rfl, rfl, rfl⟩
    obtain ⟨il, dx, lx, hil, hdx, hlx⟩ := HX.out
    have HTS := Lib.hid (tree_step (k := k) (dep := dep) (c := c) hil hdx hlx)
    rw [hil] at h1 h3 HCL hAi hci
    rw [hdx, hlx] at HCL
    have HLEN := Lib.hid (fun (b : Int × Int × Int × Int) j => treeJ_len (xs := xs) (q := q) (k := k) (dep := dep) (b := b) (il := il) (l := l) (j := j) (fun it hit dep c => tree_len K k it.1 (h3 it hit).1.1 dep c))
    have H3 := Lib.hid h3
    have HAI := Lib.hid hAi
    have HCI := Lib.hid hci
    have htlb : tlb (k + 1) = 1 + 8 * tlb k := rfl
    rw [htlb] at hln
    have hbm := hb.size
    have M1 := Lib.hid L1
    have M2 := Lib.hid L2
    have M3 := Lib.hid L3
    have HO := Lib.hid hO
    have HIH := Lib.hid ih
    have d0 := L1.cell 0
    have d1 := L1.cell 1
    have d2 := L1.cell 2
    have d3 := L1.cell 3
    have zl := L1.lt
    clear h2 h3 hAi hci hW ih L1 L2 L3 hO hvi hvd HX hil hdx hlx htlb
    generalize (xs.getD (q d) zeroI).k = kx at *
    go_enter Tryz.func48, Tryz.ntmps48
    go_wp2_with fail
    refine (HCL.out _ (by (repeat' (first | (with_reducible first | exact Below.refl _ _ | assumption | refine Below.alloc ?_ ?_ _ | refine Below.setCell ?_ ?_ _ | refine below_row ?_ ?_ _ | refine Below.drew ?_ | refine below_drewN ?_ _ | refine Below.trans ?_ (Below.mono (by assumption) ?_)) | exact Nat.le_refl _ | omega | (simp; done) | (simp; omega) | exact Below.size (by assumption))))).mono ?_
    rintro e w1 ⟨rfl, hb1⟩
    have s1 := hb1.size; try simp only [World.size_alloc, World.size_setCell, World.size_drew, setRow_size] at s1
    have hbW1 : Below W.heap.size W w1 := ((Below.refl W.heap.size W).alloc (Nat.le_refl _) _).trans (hb1.mono (by simp))
    have MB1 := Lib.hid ((Lies.made W 50 #[.int .i64 d, .int .i64 c]).after hb1)
    have g20 := (M2.out.after hbW1).cell 0
    have f20 := (M2.out.after hbW1).free 0
    have z2 := (M2.out.after hbW1).lt
    have b0 := MB1.out.cell 0
    have b1 := MB1.out.cell 1
    have zb1 := MB1.out.lt
    have HO1 := Lib.hid (own_after HO.out hbW1)
    have N2 := Lib.hid (M2.out.after hbW1)
    have hsz1 := hbW1.size
    clear hb1
    go_wp2_with (at_builtin; refine wpList_append_own _ rfl _ _ 52 rfl B 56 i0 (.agg #[.int .i64 0, .int .i64 0, .int .i64 0, .int .i64 0]) 4 32 Tryz.underlying52 hi0 hz0 hz1 hz2 rfl (by decide) _ _ _ rfl ((HO1.out.alloc _).alloc _) ⟨_, 0, none⟩ 1 1 [.int .i64 dep, .int .i64 dx, .int .i64 lx, .int .i64 c] rfl rfl (World.news_of_block (cs := #[.int .i64 dep, .int .i64 dx, .int .i64 lx, .int .i64 c]) (t := 56) (fr := (0, 0)) (Lies.new (by simp))) (by simp [Value.oneCell']) (by unfold maxLen; omega) (by omega) (by simp; omega) ?_; intro v' w5 hown' hgrow _; have HK5 : Hid (KB g2 B W w5) := Lib.hid ((KB.of (Below.mono (((hbW1).alloc hsz1 _).alloc (by simp; omega) _) (by omega))).trans (KB.grown ((HO1.out.alloc _).alloc _) hgrow (Nat.le_refl _) (by simp; omega))); have N5 := Lib.hid (lies_apart ((N2.out.alloc _).alloc _) ((HO1.out.alloc _).alloc _) (by decide) hgrow); have LX5 := Lib.hid (lies_apart ((Lies.made w1 40 #[.int .i64 dx, .int .i64 lx, .int .u8 kx, .slice Ai il.length ci, .slice A2 n2 c2]).alloc _) ((HO1.out.alloc _).alloc _) (by decide) hgrow); have HO5 := Lib.hid hown'; obtain ⟨A5, c5, gg5, rfl, -⟩ := own_form hown'; have f25 := N5.out.free 0; have z25 := N5.out.cell 0; have zl25 := N5.out.lt; have x3 := LX5.out.cell 3; have x4 := LX5.out.lt; clear hown' hgrow)
    have n7 : ¬ w1.heap.size = g2 := by omega
    have n8 : ¬ g2 = w1.heap.size := by omega
    have HT0 : Hid (treeJ xs q k dep (dep, dx, lx, c) il l 0 = l ++ [(dep, dx, lx, c)]) := Lib.hid (by simp [treeJ])
    have HTE : Hid (treeJ xs q k dep (dep, dx, lx, c) il l il.length = l ++ treeL xs q (k + 1) dep d c) := Lib.hid (by rw [HTS.out]; unfold treeJ; rw [List.take_length])
    have HO6 : Hid ((w5.setCell ⟨g2, 0, none⟩ (.slice A5 (l.length + 1) c5)).ownsRow B 56 4 (.slice A5 (l.length + 1) c5) (l.length + 1) (cellsB (l ++ [(dep, dx, lx, c)]))) := Lib.hid (by rw [cellsB_app]; exact own_set HO5.out N5.out (by decide) 0 _)
    have HN6 : Hid (Lies (w5.setCell ⟨g2, 0, none⟩ (.slice A5 (l.length + 1) c5)) g2 52 #[.slice A5 (l.length + 1) c5]) := Lib.hid (N5.out.store 0 _)
    have HK6 : Hid (KB g2 B W (w5.setCell ⟨g2, 0, none⟩ (.slice A5 (l.length + 1) c5))) := Lib.hid (HK5.out.trans (KB.set _ _ _))
    clear HTS HO5 N5 HK5 HO1 N2 MB1 g20 f20 z2 b0 b1
    go_wp2_with fail
    go_loopw [28] (fun i wr => ∃ (j : Nat) (A' : Option Addr) (c' : Nat), j ≤ il.length ∧ i = .int .i64 j ∧ Hid (Lies wr g2 52 #[.slice A' (treeJ xs q k dep (dep, dx, lx, c) il l j).length c']) ∧ Hid (wr.ownsRow B 56 4 (.slice A' (treeJ xs q k dep (dep, dx, lx, c) il l j).length c') (treeJ xs q k dep (dep, dx, lx, c) il l j).length (cellsB (treeJ xs q k dep (dep, dx, lx, c) il l j))) ∧ Hid (KB g2 B W wr)) (fun i _ => il.length - (intOf i).toNat)
    case atStart =>
      refine ⟨0, A5, c5, by omega, rfl, ?_, ?_, HK6⟩
      · rw [HT0.out]; simpa using HN6
      · rw [HT0.out]; simpa using HO6
    case round =>
      obtain ⟨j, A', c', hj, rfl, HNj, HOj, HKj⟩ := hrel
      have hbj : Below w.heap.size w wr := HKj.out.below hb hg hwB
      have hzj := HKj.out.size
      have hlj := HLEN.out (dep, dx, lx, c) j
      by_cases hlt : j < il.length
      · obtain rfl := HAI.out (by omega)
        have r0 := cell_keep hbj (HCI.out j hlt).1
        have r1 := cell_keep hbj (HCI.out j hlt).2
        have h3 := H3.out il[j] (List.getElem_mem hlt)
        have HST := Lib.hid (treeJ_step (xs := xs) (q := q) (k := k) (dep := dep) (b := (dep, dx, lx, c)) (l := l) hlt)
        have kl1 : (j : Int) < (il.length : Int) := by omega
        have LJ1 := Lib.hid (HKj.out.lies M1.out hB1 hn12)
        have LJ3 := Lib.hid (HKj.out.lies M3.out hB3 hn32)
        have y3 := LJ3.out.cell 0
        have z3 := LJ3.out.lt
        have HX : Hid (∃ it, il[j] = it) := Lib.hid ⟨_, rfl⟩
        obtain ⟨it, hit⟩ := HX.out
        rw [hit] at r0 r1 h3 HST
        clear hit HX
        obtain ⟨d', c'2⟩ := it
        simp only at r0 r1 h3
        have hj7 : j * tlb k ≤ 7 * tlb k := Nat.mul_le_mul_right _ (by omega)
        have HCALL := Lib.hid (fun W2 (h2 : Below w.heap.size w W2) (hB : B ≤ W2.heap.size) (l1 : Lies W2 g1 86 #[v0, v1, v2, v3]) (l2 : Lies W2 g2 52 #[.slice A' (treeJ xs q k dep (dep, dx, lx, c) il l j).length c'])
          (l3 : Lies W2 g3 100 #[.func (.func 48) #[] #[.pointer (some ⟨g1, 0, none⟩), .pointer (some ⟨g2, 0, none⟩), .pointer (some ⟨g3, 0, none⟩)]]) (ho : W2.ownsRow B 56 4 (.slice A' (treeJ xs q k dep (dep, dx, lx, c) il l j).length c') (treeJ xs q k dep (dep, dx, lx, c) il l j).length (cellsB (treeJ xs q k dep (dep, dx, lx, c) il l j))) =>
          HIH.out (dep + 1) d' c'2 W2 (treeJ xs q k dep (dep, dx, lx, c) il l j) A' c' h3.1.1 (by omega) (by omega) (by omega) (by omega) hB h2 l1 l2 l3 ho)
        have HST2 : Hid ((treeJ xs q k dep (dep, dx, lx, c) il l j) ++ treeL xs q k (dep + 1) d' c'2 = treeJ xs q k dep (dep, dx, lx, c) il l (j + 1)) := Lib.hid HST.out.symm
        rw [HST2.out] at HCALL
        clear HST HST2 h3
        go_wp2_with fail
        refine (HCALL.out _ (by (repeat' (first | (with_reducible first | exact Below.refl _ _ | assumption | refine Below.alloc ?_ ?_ _ | refine Below.setCell ?_ ?_ _ | refine below_row ?_ ?_ _ | refine Below.drew ?_ | refine below_drewN ?_ _ | refine Below.trans ?_ (Below.mono (by assumption) ?_)) | exact Nat.le_refl _ | omega | (simp; done) | (simp; omega) | exact Below.size (by assumption)))) (by simp; omega) (LJ1.out.alloc _) (HNj.out.alloc _) (LJ3.out.alloc _) (HOj.out.alloc _)).mono ?_
        rintro e w6 ⟨⟨v, rfl⟩, ⟨A6, c6, hl6, ho6⟩, hk6⟩
        have HN6 := Lib.hid hl6
        have HO6 := Lib.hid ho6
        have HK6 := Lib.hid ((HKj.out.trans (KB.of ((Below.refl _ _).alloc (by omega) _))).trans hk6)
        clear hl6 ho6 hk6
        go_wp2_with fail
        go_roundw
        case rel => exact ⟨j + 1, A6, c6, by omega, by go_num, HN6, HO6, HK6⟩
        case measure => simp [intOf]; omega
      · have hje : j = il.length := by omega
        subst hje
        rw [HTE.out] at HNj HOj
        have kl0 : ¬ (il.length : Int) < (il.length : Int) := by omega
        go_wp2_with fail
        go_end0
        refine ⟨⟨_, rfl⟩, ⟨A', c', ?_, ?_⟩, HKj.out⟩
        · have := HNj.out; rwa [List.length_append] at this
        · have := HOj.out; rwa [List.length_append] at this
end
section
open Go.RowKit

/-- What Tree tells. -/
def treeE (xs : List Iss) (ls : List Int) (d : Int) : List (Int × Int × Int × Int) × Int :=
  if askE xs ls d ≠ 0 then ([], askE xs ls d) else if 500 < (treeL xs (qOf xs (numbersL xs) ls) 6 0 d 1).length then ([], 4) else (treeL xs (qOf xs (numbersL xs) ls) 6 0 d 1, 0)
def TreeP (r : List (Int × Int × Int × Int) × Int) (w : World) (e : Ending) (w' : World) : Prop := ∃ v, e = .returned (.tuple #[v, .int .i64 r.2]) ∧ BranchesAt w' v r.1 ∧ Below w.heap.size w w'
theorem branches_nil (w : World) : BranchesAt w (.slice none 0 0) [] := ⟨none, 0, 0, 0, rfl, fun h => absurd h (by simp), fun i h => absurd h (by simp)⟩

set_option maxRecDepth 100000 in
set_option maxHeartbeats 8000000 in
theorem sTree_any {vI vL : Value} {xs : List Iss} {ls : List Int} {w : World} (d : Int) (h : RegAt w vI xs) (hL : IntsAt w vL ls) (hll : ls.length ≤ 9223372036854775807) :
    Calls Tryz.prog 16 #[.agg #[vI], vL, .int .i64 d] w (TreeP (treeE xs ls d) w) := by
  obtain ⟨A, c, b, off, vi, vd, rfl, hA, hc⟩ := h.at_.row
  have HEQ := Lib.hid (fun W (hW : Below w.heap.size w W) => equip_any A c b off vL xs ls d vi vd W (h.after hW) hll hA (hc.after hW) (hL.after hW))
  have HC := Lib.hid hc
  obtain ⟨AL, cL, rfl⟩ := hL.slice
  unfold treeE
  by_cases h0 : askE xs ls d = 0
  · obtain ⟨h1, h2, h3⟩ := askE_ok h0
    have K := kit_of h1 h2
    have HK := Lib.hid K
    have HWK := Lib.hid (fun w1 vN vD vC (hb : Below w.heap.size w w1) (hD : DeskAt w1 xs vN vD) (hC : ChosenAt w1 vC xs vi vd (numbersL xs) ls) => walk_of (A := A) (c := c) h1 h2 K hb HC.out hD hC)
    rw [if_neg (by simpa using h0)]
    unfold EquipP at HEQ
    rw [h0] at HEQ
    have HEQ2 : Hid (∀ W, Below w.heap.size w W → Calls Tryz.prog 38 #[.agg #[.slice A xs.length c], .slice AL ls.length cL, .int .i64 d] W fun e w' => (∃ vN vD vC, e = .returned (.tuple #[.agg #[.slice A xs.length c, vN, vD, vC], .int .i64 0]) ∧ DeskAt w' xs vN vD ∧ ChosenAt w' vC xs vi vd (numbersL xs) ls) ∧ Below W.heap.size W w') :=
      Lib.hid (fun W hW => (HEQ.out W hW).mono (fun e w' ⟨hp, hb⟩ => ⟨hp.elim (fun h => h.2) (fun h => absurd rfl h.1), hb⟩))
    have HDL : Hid (∀ w1 vN vD, DeskAt w1 xs vN vD → (∃ n A c, vN = .slice A n c) ∧ ∃ n A c, vD = .slice A n c) := Lib.hid (fun w1 vN vD hD => ⟨by obtain ⟨A, c, e⟩ := hD.1.slice; exact ⟨_, A, c, e⟩, by obtain ⟨A, c, e⟩ := hD.2.slice; exact ⟨_, A, c, e⟩⟩)
    have HRK := Lib.hid (K.le d h3)
    have HD3 := Lib.hid h3
    have htl := tree_len K 6 d h3 0 1
    have hmf : ∀ (fn : Fn) (first cap : Array Value) (w : World), (Instr.makeFunc fn first cap).run Tryz.prog w = .ok (.func fn first cap) w := fun _ _ _ _ => rfl
    have HTL : Hid (∃ tl, treeL xs (qOf xs (numbersL xs) ls) 6 0 d 1 = tl) := Lib.hid ⟨_, rfl⟩
    obtain ⟨tl, htle⟩ := HTL.out
    have HTE := Lib.hid htle
    rw [htle] at htl ⊢
    have htl2 : tl.length ≤ 100000 := Nat.le_trans htl (by decide)
    clear HEQ h0 h1 h2 h3 K h hL hA hc HC HTL htle htl
    generalize qOf xs (numbersL xs) ls = q at *
    generalize hr : (if 500 < tl.length then (([] : List (Int × Int × Int × Int)), (4 : Int)) else (tl, 0)) = r
    have HR := Lib.hid hr
    clear hr
    generalize numbersL xs = zs at *
    go_enter Tryz.func16, Tryz.ntmps16
    go_wp2_with fail
    refine (HEQ2.out _ (by (repeat' (first | (with_reducible first | exact Below.refl _ _ | assumption | refine Below.alloc ?_ ?_ _ | refine Below.setCell ?_ ?_ _ | refine below_row ?_ ?_ _ | refine Below.drew ?_ | refine below_drewN ?_ _ | refine Below.trans ?_ (Below.mono (by assumption) ?_)) | exact Nat.le_refl _ | omega | (simp; done) | (simp; omega) | exact Below.size (by assumption))))).mono ?_
    rintro e w1 ⟨⟨vN, vD, vC, rfl, hD, hC⟩, hb1⟩
    have s1 := hb1.size; try simp only [World.size_alloc, World.size_setCell, World.size_drew, setRow_size] at s1
    have hbw1 : Below w.heap.size w w1 := by (repeat' (first | (with_reducible first | exact Below.refl _ _ | assumption | refine Below.alloc ?_ ?_ _ | refine Below.setCell ?_ ?_ _ | refine below_row ?_ ?_ _ | refine Below.drew ?_ | refine below_drewN ?_ _ | refine Below.trans ?_ (Below.mono (by assumption) ?_)) | exact Nat.le_refl _ | omega | (simp; done) | (simp; omega) | exact Below.size (by assumption)))
    have HW := Lib.hid (HWK.out w1 vN vD vC hbw1 hD hC)
    obtain ⟨⟨nN, AN, cN, rfl⟩, nD, AD, cD, rfl⟩ := HDL.out _ _ _ hD
    obtain ⟨AC, cC, rfl⟩ := hC.slice
    clear hD hC hb1 HDL HWK HEQ2
    go_wp2_with fail
    obtain ⟨wB, hwB⟩ : ∃ W, (((w1.alloc (.cells #[.slice A xs.length c, .slice AN nN cN, .slice AD nD cD, .slice AC zs.length cC] 86)).alloc (.cells #[.slice none 0 0] 52)).alloc (.cells #[.func (.func 48) #[] #[.pointer (some ⟨w1.heap.size, 0, none⟩), .pointer (some ⟨w1.heap.size + 1, 0, none⟩), .pointer (some ⟨w1.heap.size + 1 + 1, 0, none⟩)]] 100)) = W := ⟨_, rfl⟩
    have hsB : wB.heap.size = w1.heap.size + 3 := by rw [← hwB]; simp
    have M1 : Lies wB w1.heap.size 86 #[.slice A xs.length c, .slice AN nN cN, .slice AD nD cD, .slice AC zs.length cC] := by rw [← hwB]; exact ((Lies.made _ _ _).alloc _).alloc _
    have M2 : Lies wB (w1.heap.size + 1) 52 #[.slice none 0 0] := by rw [← hwB]; exact (Lies.new (by simp)).alloc _
    have M3 : Lies wB (w1.heap.size + 1 + 1) 100 #[.func (.func 48) #[] #[.pointer (some ⟨w1.heap.size, 0, none⟩), .pointer (some ⟨w1.heap.size + 1, 0, none⟩), .pointer (some ⟨w1.heap.size + 1 + 1, 0, none⟩)]] := by rw [← hwB]; exact Lies.new (by simp)
    have hbB : Below w1.heap.size w1 wB := by rw [← hwB]; (repeat' (first | (with_reducible first | exact Below.refl _ _ | assumption | refine Below.alloc ?_ ?_ _ | refine Below.setCell ?_ ?_ _ | refine below_row ?_ ?_ _ | refine Below.drew ?_ | refine below_drewN ?_ _ | refine Below.trans ?_ (Below.mono (by assumption) ?_)) | exact Nat.le_refl _ | omega | (simp; done) | (simp; omega) | exact Below.size (by assumption)))
    have HBB := Lib.hid hbB
    have HSB := Lib.hid hsB
    have HCALL := Lib.hid (grow_any w1.heap.size (w1.heap.size + 1) (w1.heap.size + 1 + 1) (w1.heap.size + 3) HK.out HW.out (by omega) (by omega) (by omega) (by omega) (by omega) (by omega) (by omega) 6 0 d 1 wB [] none 0 HD3.out HRK.out (by omega) (by omega) (by decide) (by omega) hbB M1 M2 M3 (World.ownsRow_nil _ _ _ _))
    rw [hwB]
    clear hwB hsB M1 M2 M3 hbB
    rw [List.nil_append, HTE.out] at HCALL
    refine HCALL.out.mono ?_
    rintro e w2 ⟨⟨v, rfl⟩, ⟨A6, c6, hl6, ho6⟩, hk6⟩
    have hb12 : Below w1.heap.size w1 w2 := hk6.below HBB.out (by omega) (by omega)
    have hbw2 : Below w.heap.size w w2 := hbw1.trans (hb12.mono hbw1.size)
    have g0 := hl6.cell 0
    have zg := hl6.lt
    have HBR := Lib.hid (branches_of_own ho6)
    clear hl6 ho6 hk6 HCALL HBB HSB HW
    by_cases h5 : 500 < tl.length
    · have HR2 : Hid (r = ([], 4)) := Lib.hid (by rw [← HR.out, if_pos h5])
      have h5' : (500 : Int) < (tl.length : Int) := by omega
      go_wp2_with fail
      go_ret2
      exact ⟨.slice none 0 0, by rw [HR2.out]; rfl, by rw [HR2.out]; exact branches_nil _, hbw2⟩
    · have HR2 : Hid (r = (tl, 0)) := Lib.hid (by rw [← HR.out, if_neg h5])
      have h5' : ¬ (500 : Int) < (tl.length : Int) := by omega
      go_wp2_with fail
      go_ret2
      exact ⟨.slice A6 tl.length c6, by rw [HR2.out]; rfl, by rw [HR2.out]; exact HBR.out, hbw2⟩
  · rw [if_pos h0]
    have HEQ2 : Hid (∀ W, Below w.heap.size w W → Calls Tryz.prog 38 #[.agg #[.slice A xs.length c], .slice AL ls.length cL, .int .i64 d] W fun e w' => e = .returned (.tuple #[zOut, .int .i64 (askE xs ls d)]) ∧ Below W.heap.size W w') :=
      Lib.hid (fun W hW => (HEQ.out W hW).mono (fun e w' ⟨hp, hb⟩ => ⟨hp.elim (fun h => absurd h.1 h0) (fun h => h.2), hb⟩))
    have hne : (askE xs ls d != 0) = true := by simpa using h0
    clear HEQ h0 h hL hA hc HC
    generalize askE xs ls d = ae at *
    go_enter Tryz.func16, Tryz.ntmps16
    go_wp2_with fail
    refine (HEQ2.out _ (by (repeat' (first | (with_reducible first | exact Below.refl _ _ | assumption | refine Below.alloc ?_ ?_ _ | refine Below.setCell ?_ ?_ _ | refine below_row ?_ ?_ _ | refine Below.drew ?_ | refine below_drewN ?_ _ | refine Below.trans ?_ (Below.mono (by assumption) ?_)) | exact Nat.le_refl _ | omega | (simp; done) | (simp; omega) | exact Below.size (by assumption))))).mono ?_
    rintro e w1 ⟨rfl, hb1⟩
    have s1 := hb1.size; try simp only [World.size_alloc, World.size_setCell, World.size_drew, setRow_size] at s1
    go_wp2_with fail
    go_ret2
    exact ⟨_, rfl, branches_nil _, by (repeat' (first | (with_reducible first | exact Below.refl _ _ | assumption | refine Below.alloc ?_ ?_ _ | refine Below.setCell ?_ ?_ _ | refine below_row ?_ ?_ _ | refine Below.drew ?_ | refine below_drewN ?_ _ | refine Below.trans ?_ (Below.mono (by assumption) ?_)) | exact Nat.le_refl _ | omega | (simp; done) | (simp; omega) | exact Below.size (by assumption)))⟩
end
end Go.Proofs.YtmhlbdighceogaaGreat
