/- Z8: The reference: branches, tree, Tree. Z9: The reference: tree. ZA: The reference: Tree. -/
import Derived.Test.YtdhandkddbgadaaLJ
namespace Go.Proofs.Ytdhandkddbgadaa
set_option linter.unusedVariables false
set_option linter.unusedSimpArgs false
section
open Go.RowKit

theorem own_news {w : World} {base : Nat} {e : TypeId} {size n : Nat} {v : Value} {xs : List Value} (h : w.ownsRow base e size v n xs) : ∃ A c, v = .slice A n c ∧ (A = none → n = 0 ∧ c = 0 ∧ xs = []) ∧ (∀ ad, A = some ad → ∀ j u, xs[j]? = some u → w.cell? (ad.add j) = some u) := by
  have hl := h.1
  have hcells := fun g => World.ownsRow.cells (g := g) h
  rcases h.2 with ⟨rfl, rfl⟩ | ⟨g, cap, cur, rfl, hg, hh, hc, _, hs, ht⟩
  · exact ⟨none, 0, rfl, fun _ => ⟨rfl, rfl, List.eq_nil_of_length_eq_zero (by simpa using hl)⟩, fun ad e => by cases e⟩
  · refine ⟨some ⟨g, 0, none⟩, cap, rfl, (fun e => by cases e), fun ad e j u hu => ?_⟩
    injection e with e
    subst e
    exact hcells g rfl j u hu
theorem cellsB_one (l : List (Int × Int × Int × Int)) : ∀ u ∈ cellsB l, u.oneCell' = true := by
  intro u hu
  obtain ⟨x, -, hx⟩ := List.mem_flatMap.1 hu
  simp at hx
  rcases hx with rfl | rfl | rfl | rfl <;> rfl
theorem own_one {w : World} (base : Nat) (e : TypeId) (size : Nat) (cs : Array Value) (hb : base ≤ w.heap.size) (hs : cs.size = size) : (w.alloc (.cells cs e)).ownsRow base e size (.slice (some ⟨w.heap.size, 0, none⟩) 1 1) 1 cs.toList :=
  ⟨by simp [hs], .inr ⟨w.heap.size, 1, cs, rfl, hb, heap_alloc_new w _, Nat.le_refl _, by unfold maxLen; omega, by omega, by rw [List.take_of_length_le]; simp [hs]⟩⟩
theorem treeL_d {xs : List Iss} {zs : List Int} {q rk : Int → Nat} (K : Kit xs zs q rk) {d : Int} (hd : d ∈ zs) : (xs.getD (q d) zeroI).d = d := by
  rw [K.get hd]; exact K.d_ d hd _
/-- How many branches there are behind j items. -/
theorem flat_more {α : Type} {l : List (Int × Int)} {f : (Int × Int) → List α} {j : Nat} (h : j < l.length) : ((l.take (j + 1)).flatMap f).length = ((l.take j).flatMap f).length + (f l[j]).length := by
  rw [flat_step h, List.length_append]

theorem tree_len0 (xs : List Iss) (q : Int → Nat) : ∀ (k : Nat) (dep d c dep' c' : Int), (treeL xs q k dep d c).length = (treeL xs q k dep' d c').length
  | 0, _, _, _, _, _ => rfl
  | k + 1, dep, d, c, dep', c' => by
    rw [treeL, treeL, List.length_cons, List.length_cons, List.length_flatMap, List.length_flatMap]
    congr 2
    apply List.map_congr_left
    intro y hy
    exact tree_len0 xs q k _ _ _ _ _

/-- How many branches there are below the first j items. -/
def cntJ (xs : List Iss) (q : Int → Nat) (k : Nat) (il : List (Int × Int)) (j : Nat) : Nat := ((il.take j).flatMap fun y => treeL xs q k 0 y.1 1).length
theorem cntJ_step {xs : List Iss} {q : Int → Nat} {k : Nat} {il : List (Int × Int)} {j : Nat} (h : j < il.length) : cntJ xs q k il (j + 1) = cntJ xs q k il j + (treeL xs q k 0 il[j].1 1).length := flat_more h
set_option maxRecDepth 100000 in
set_option maxHeartbeats 8000000 in
theorem rbranches_any {w : World} {xs : List Iss} {zs : List Int} {q rk : Int → Nat} {vi vd : Nat → Value} {vI vL : Value} (K : Kit xs zs q rk) (hW : WalkR w vI vL xs zs q vi vd) :
    ∀ (k : Nat) (d : Int) (W : World), d ∈ zs → rk d ≤ k → k ≤ 6 → Below w.heap.size w W →
      Calls Try.prog 79 #[.agg #[vI], vL, .int .i64 d] W fun e w' => e = .returned (.int .i64 ((treeL xs q k 0 d 1).length)) ∧ Below W.heap.size W w' := by
  intro k
  induction k with
  | zero =>
    intro d W hd hr
    have := K.pos d hd
    omega
  | succ k ih =>
    intro d W hd hr hk6 hb
    obtain ⟨h1, h2, h3⟩ := K.itm hd
    have HCL := Lib.hid (hW.call d hd)
    obtain ⟨Ai, ci, bi, oi, hvi, hAi, hci⟩ := hW.items d hd
    obtain ⟨A2, n2, c2, hvd⟩ := hW.dims d hd
    obtain ⟨AI, nI, cI, rfl⟩ := hW.vI_
    obtain ⟨AL, nL, cL, rfl⟩ := hW.vL_
    rw [hvi, hvd] at HCL
    have HX : Hid (∃ il dx lx, (xs.getD (q d) zeroI).items = il ∧ (xs.getD (q d) zeroI).d = dx ∧ (xs.getD (q d) zeroI).l = lx) := Lib.hid ⟨_, _, _, rfl, rfl, rfl⟩
    obtain ⟨il, dx, lx, hil, hdx, hlx⟩ := HX.out
    have HTS : Hid ((treeL xs q (k + 1) 0 d 1).length = 1 + cntJ xs q k il il.length) := Lib.hid (by
      unfold cntJ
      rw [tree_step (k := k) (dep := 0) (c := 1) hil hdx hlx, List.length_cons, List.take_length, List.length_flatMap, List.length_flatMap, Nat.add_comm]
      congr 2
      apply List.map_congr_left
      intro y hy
      exact tree_len0 xs q k _ _ _ _ _)
    rw [hil] at h1 h3 HCL hAi hci
    rw [hdx, hlx] at HCL
    have HLEN : Hid (∀ j, cntJ xs q k il j ≤ (il.take j).length * tlb k) := Lib.hid (fun j => flat_len (l := il.take j) (f := fun y => treeL xs q k 0 y.1 1) (n := tlb k) (fun it hit => tree_len K k it.1 (h3 it (List.mem_of_mem_take hit)).1.1 _ _))
    have H3 := Lib.hid h3
    have HAI := Lib.hid hAi
    have HCI := Lib.hid hci
    have hbm := hb.size
    have HIH := Lib.hid ih
    have htk : tlb k ≤ 37449 := by
      have : k = 0 ∨ k = 1 ∨ k = 2 ∨ k = 3 ∨ k = 4 ∨ k = 5 := by omega
      rcases this with rfl | rfl | rfl | rfl | rfl | rfl <;> decide
    have LR := Lib.hid (Lies.made W 24 #[.slice AI nI cI])
    clear h2 h3 hAi hci hW ih hvi hvd HX hil hdx hlx
    generalize (xs.getD (q d) zeroI).k = kx at *
    go_enter Try.func79, Try.ntmps79
    go_wp2_with fail
    refine (HCL.out _ (by (repeat' (first | (with_reducible exact Below.refl _ _) | (with_reducible assumption) | (with_reducible refine Below.alloc ?_ ?_ _) | (with_reducible refine Below.setCell ?_ ?_ _) | (with_reducible refine below_row ?_ ?_ _) | (with_reducible refine Below.drew ?_) | (with_reducible refine below_drewN ?_ _) | (with_reducible refine Below.trans ?_ (Below.mono (by assumption) ?_)) | (first | exact Nat.le_refl _ | omega | (simp; done) | (simp; omega) | (exact Below.size (by assumption))))))).mono ?_
    rintro e w1 ⟨rfl, hb1⟩
    have s1 := hb1.size; try simp only [World.size_alloc, World.size_setCell, World.size_drew, setRow_size] at s1
    have hbW1 : Below W.heap.size W w1 := ((Below.refl W.heap.size W).alloc (Nat.le_refl _) _).trans (hb1.mono (by simp))
    have LR1 := Lib.hid ((LR.out.after hb1).alloc (.cells #[.int .i64 dx, .int .i64 lx, .int .u8 kx, .slice Ai il.length ci, .slice A2 n2 c2] 45))
    have LX1 := Lib.hid (Lies.made w1 45 #[.int .i64 dx, .int .i64 lx, .int .u8 kx, .slice Ai il.length ci, .slice A2 n2 c2])
    have hs1 := hbW1.size
    clear hb1
    go_wp2_with fail
    go_loopw [8, 9] (fun m i wr => ∃ j : Nat, j ≤ il.length ∧ i = .int .i64 j ∧ m = .int .i64 ((1 + cntJ xs q k il j : Nat) : Int) ∧ Hid (Lies wr W.heap.size 24 #[.slice AI nI cI]) ∧ Hid (Lies wr w1.heap.size 45 #[.int .i64 dx, .int .i64 lx, .int .u8 kx, .slice Ai il.length ci, .slice A2 n2 c2]) ∧ Below W.heap.size W wr) (fun _ i _ => il.length - (intOf i).toNat)
    case atStart => exact ⟨0, by omega, rfl, by simp [cntJ], LR1, LX1, hbW1.alloc hs1 _⟩
    case round =>
      obtain ⟨j, hj, rfl, rfl, LRj, LXj, hbj⟩ := hrel
      have hzj := hbj.size
      have hbwj : Below w.heap.size w wr := hb.trans (hbj.mono hbm)
      have x3 := LXj.out.cell 3
      have zx := LXj.out.lt
      have hlj := HLEN.out j
      have hlj2 : (il.take j).length * tlb k ≤ 8 * 37449 := Nat.mul_le_mul (by have := List.length_take_le j il; omega) htk
      by_cases hlt : j < il.length
      · obtain rfl := HAI.out (by omega)
        have HCJ := Lib.hid (fun W (hW : Below w.heap.size w W) => cell_keep hW (HCI.out j hlt).1)
        have r0 := HCJ.out wr hbwj
        have h3 := H3.out il[j] (List.getElem_mem hlt)
        have HST := Lib.hid (cntJ_step (xs := xs) (q := q) (k := k) hlt)
        have kl1 : (j : Int) < (il.length : Int) := by omega
        have y0 := LRj.out.cell 0
        have zy := LRj.out.lt
        have HX : Hid (∃ it, il[j] = it) := Lib.hid ⟨_, rfl⟩
        obtain ⟨it, hit⟩ := HX.out
        rw [hit] at r0 h3 HST HCJ
        clear hit HX
        obtain ⟨d', c'⟩ := it
        simp only at r0 h3
        have HCJ2 : Hid (∀ W, Below w.heap.size w W → W.cell? ⟨bi, oi + j * 2, none⟩ = some (.int .i64 d')) := Lib.hid HCJ.out
        have HCALL := Lib.hid (fun W2 (h2 : Below w.heap.size w W2) => HIH.out d' W2 h3.1.1 (by omega) (by omega) h2)
        have hsl := tree_len K k d' h3.1.1 0 1
        have HST2 : Hid (cntJ xs q k il (j + 1) = cntJ xs q k il j + (treeL xs q k 0 d' 1).length) := Lib.hid HST.out
        clear HST HCJ h3
        generalize (treeL xs q k 0 d' 1).length = sl at *
        generalize cntJ xs q k il j = fl at *
        have hfl : fl ≤ 1000000 := by omega
        have hsl2 : sl ≤ 1000000 := by omega
        have HE1 := Lib.hid (IntWalk.i64_in ((1 : Int) + (fl : Int) + (sl : Int)) (by omega))
        clear hlj hlj2 hsl
        go_wp2_with fail
        go_region_held3 (fun W2 => W2.cell? ⟨W.heap.size, 0, none⟩ = some (.slice AI nI cI) ∧ W2.cell? ⟨w1.heap.size, 3, none⟩ = some (.slice (some ⟨bi, oi, none⟩) il.length ci) ∧ W2.cell? ⟨bi, oi + j * 2, none⟩ = some (.int .i64 d')) (go_keep) ((go_at_call 79; refine (HCALL.out _ (by (repeat' (first | (with_reducible exact Below.refl _ _) | (with_reducible assumption) | (with_reducible refine Below.alloc ?_ ?_ _) | (with_reducible refine Below.setCell ?_ ?_ _) | (with_reducible refine below_row ?_ ?_ _) | (with_reducible refine Below.drew ?_) | (with_reducible refine below_drewN ?_ _) | (with_reducible refine Below.trans ?_ (Below.mono (by assumption) ?_)) | (first | exact Nat.le_refl _ | omega | (simp; done) | (simp; omega) | (exact Below.size (by assumption))))))).mono ?_; rintro e w6 ⟨rfl, hb6⟩; have LR6 := Lib.hid (LRj.out.drew.after hb6); have LX6 := Lib.hid (LXj.out.drew.after hb6); have hbw6 : Below W.heap.size W w6 := (by (repeat' (first | (with_reducible exact Below.refl _ _) | (with_reducible assumption) | (with_reducible refine Below.alloc ?_ ?_ _) | (with_reducible refine Below.setCell ?_ ?_ _) | (with_reducible refine below_row ?_ ?_ _) | (with_reducible refine Below.drew ?_) | (with_reducible refine below_drewN ?_ _) | (with_reducible refine Below.trans ?_ (Below.mono (by assumption) ?_)) | (first | exact Nat.le_refl _ | omega | (simp; done) | (simp; omega) | (exact Below.size (by assumption)))))); have m0 := LR6.out.cell 0; have m3 := LX6.out.cell 3; have q0 := HCJ2.out w6 (hb.trans (hbw6.mono hbm)); have zm := LR6.out.lt; have zx6 := LX6.out.lt; clear hb6))
        all_goals
          go_wp2_with fail
          go_roundw
          case rel => exact ⟨j + 1, by omega, by go_num, by have h9 := HST2.out; have h8 := HE1.out; rw [h9, h8]; go_num, LR6, LX6, hbw6⟩
          case measure => simp [intOf]; omega
      · have hje : j = il.length := by omega
        subst hje
        have kl0 : ¬ (il.length : Int) < (il.length : Int) := by omega
        go_wp2_with fail
        go_ret
        exact ⟨ret_int (by have := HTS.out; omega), hbj⟩
end
section
open Go.RowKit

set_option maxRecDepth 100000 in
set_option maxHeartbeats 16000000 in
theorem rtree_any {w : World} {xs : List Iss} {zs : List Int} {q rk : Int → Nat} {vi vd : Nat → Value} {vI vL : Value} (K : Kit xs zs q rk) (hW : WalkR w vI vL xs zs q vi vd) :
    ∀ (k : Nat) (dep d c : Int) (W : World), d ∈ zs → rk d ≤ k → k ≤ 6 → 0 ≤ dep → dep ≤ 100 - k → Below w.heap.size w W →
      Calls Try.prog 80 #[.agg #[vI], vL, .int .i64 d, .int .i64 dep, .int .i64 c] W fun e w' => ∃ v, e = .returned v ∧ w'.ownsRow W.heap.size 103 4 v (treeL xs q k dep d c).length (cellsB (treeL xs q k dep d c)) ∧ Below W.heap.size W w' := by
  obtain ⟨i0, hi0, hz0, hz1, hz2⟩ := info_parts infoB
  intro k
  induction k with
  | zero =>
    intro dep d c W hd hr
    have := K.pos d hd
    omega
  | succ k ih =>
    intro dep d c W hd hr hk6 hdep0 hdep1 hb
    obtain ⟨h1, h2, h3⟩ := K.itm hd
    have HCL := Lib.hid (hW.call d hd)
    obtain ⟨Ai, ci, bi, oi, hvi, hAi, hci⟩ := hW.items d hd
    obtain ⟨A2, n2, c2, hvd⟩ := hW.dims d hd
    obtain ⟨AI, nI, cI, rfl⟩ := hW.vI_
    obtain ⟨AL, nL, cL, rfl⟩ := hW.vL_
    rw [hvi, hvd, treeL_d K hd] at HCL
    have HX : Hid (∃ il lx, (xs.getD (q d) zeroI).items = il ∧ (xs.getD (q d) zeroI).l = lx) := Lib.hid ⟨_, _, rfl, rfl⟩
    obtain ⟨il, lx, hil, hlx⟩ := HX.out
    have HTS := Lib.hid (tree_step (k := k) (dep := dep) (c := c) hil (treeL_d K hd) hlx)
    rw [hil] at h1 h3 HCL hAi hci
    rw [hlx] at HCL
    have HLEN := Lib.hid (fun (b : Int × Int × Int × Int) j => treeJ_len (xs := xs) (q := q) (k := k) (dep := dep) (b := b) (il := il) (l := []) (j := j) (fun it hit dep c => tree_len K k it.1 (h3 it hit).1.1 dep c))
    have H3 := Lib.hid h3
    have HAI := Lib.hid hAi
    have HCI := Lib.hid hci
    have hbm := hb.size
    have HIH := Lib.hid ih
    have htk : tlb k ≤ 37449 := by
      have : k = 0 ∨ k = 1 ∨ k = 2 ∨ k = 3 ∨ k = 4 ∨ k = 5 := by omega
      rcases this with rfl | rfl | rfl | rfl | rfl | rfl <;> decide
    have LR := Lib.hid (Lies.made W 24 #[.slice AI nI cI])
    clear h2 h3 hAi hci hW ih hvi hvd HX hil hlx
    generalize (xs.getD (q d) zeroI).k = kx at *
    go_enter Try.func80, Try.ntmps80
    go_wp2_with fail
    refine (HCL.out _ (by (repeat' (first | (with_reducible exact Below.refl _ _) | (with_reducible assumption) | (with_reducible refine Below.alloc ?_ ?_ _) | (with_reducible refine Below.setCell ?_ ?_ _) | (with_reducible refine below_row ?_ ?_ _) | (with_reducible refine Below.drew ?_) | (with_reducible refine below_drewN ?_ _) | (with_reducible refine Below.trans ?_ (Below.mono (by assumption) ?_)) | (first | exact Nat.le_refl _ | omega | (simp; done) | (simp; omega) | (exact Below.size (by assumption))))))).mono ?_
    rintro e w1 ⟨rfl, hb1⟩
    have s1 := hb1.size; try simp only [World.size_alloc, World.size_setCell, World.size_drew, setRow_size] at s1
    have hbW1 : Below W.heap.size W w1 := ((Below.refl W.heap.size W).alloc (Nat.le_refl _) _).trans (hb1.mono (by simp))
    have hs1 := hbW1.size
    have LR1 := Lib.hid (((LR.out.after hb1).alloc (.cells #[.int .i64 d, .int .i64 lx, .int .u8 kx, .slice Ai il.length ci, .slice A2 n2 c2] 45)).alloc (.cells #[.int .i64 dep, .int .i64 d, .int .i64 lx, .int .i64 c] 103))
    have LX1 := Lib.hid ((Lies.made w1 45 #[.int .i64 d, .int .i64 lx, .int .u8 kx, .slice Ai il.length ci, .slice A2 n2 c2]).alloc (.cells #[.int .i64 dep, .int .i64 d, .int .i64 lx, .int .i64 c] 103))
    have HO1 : Hid (((w1.alloc (.cells #[.int .i64 d, .int .i64 lx, .int .u8 kx, .slice Ai il.length ci, .slice A2 n2 c2] 45)).alloc (.cells #[.int .i64 dep, .int .i64 d, .int .i64 lx, .int .i64 c] 103)).ownsRow W.heap.size 103 4 (.slice (some ⟨w1.heap.size + 1, 0, none⟩) 1 1) 1 (cellsB [(dep, d, lx, c)])) := Lib.hid (by
      have := own_one (w := w1.alloc (.cells #[.int .i64 d, .int .i64 lx, .int .u8 kx, .slice Ai il.length ci, .slice A2 n2 c2] 45)) W.heap.size 103 4 #[.int .i64 dep, .int .i64 d, .int .i64 lx, .int .i64 c] (by simp; omega) rfl
      rw [World.size_alloc] at this
      exact this)
    have HT0 : Hid (treeJ xs q k dep (dep, d, lx, c) il [] 0 = [(dep, d, lx, c)]) := Lib.hid (by simp [treeJ])
    have HTE : Hid (treeJ xs q k dep (dep, d, lx, c) il [] il.length = treeL xs q (k + 1) dep d c) := Lib.hid (by rw [HTS.out]; unfold treeJ; rw [List.take_length, List.nil_append])
    clear hb1 HTS
    go_wp2_with fail
    go_loopw [12, 13] (fun v i wr => ∃ (j : Nat) (A' : Option Addr) (c' : Nat), j ≤ il.length ∧ i = .int .i64 j ∧ v = .slice A' (treeJ xs q k dep (dep, d, lx, c) il [] j).length c' ∧ Hid (wr.ownsRow W.heap.size 103 4 (.slice A' (treeJ xs q k dep (dep, d, lx, c) il [] j).length c') (treeJ xs q k dep (dep, d, lx, c) il [] j).length (cellsB (treeJ xs q k dep (dep, d, lx, c) il [] j))) ∧ Hid (Lies wr W.heap.size 24 #[.slice AI nI cI]) ∧ Hid (Lies wr w1.heap.size 45 #[.int .i64 d, .int .i64 lx, .int .u8 kx, .slice Ai il.length ci, .slice A2 n2 c2]) ∧ Below W.heap.size W wr) (fun _ i _ => il.length - (intOf i).toNat)
    case atStart =>
      refine ⟨0, some ⟨w1.heap.size + 1, 0, none⟩, 1, by omega, rfl, ?_, ?_, LR1, LX1, (hbW1.alloc hs1 _).alloc (by simp; omega) _⟩
      · rw [HT0.out]; rfl
      · rw [HT0.out]; exact HO1
    case round =>
      obtain ⟨j, A', c', hj, rfl, rfl, HOj, LRj, LXj, hbj⟩ := hrel
      have hzj := hbj.size
      have hbwj : Below w.heap.size w wr := hb.trans (hbj.mono hbm)
      have x3 := LXj.out.cell 3
      have zx := LXj.out.lt
      have hlj := HLEN.out (dep, d, lx, c) j
      have hlj2 : j * tlb k ≤ 8 * 37449 := Nat.mul_le_mul (by omega) htk
      by_cases hlt : j < il.length
      · obtain rfl := HAI.out (by omega)
        have HCJ := Lib.hid (fun W (hW : Below w.heap.size w W) => And.intro (cell_keep hW (HCI.out j hlt).1) (cell_keep hW (HCI.out j hlt).2))
        have r0 := (HCJ.out wr hbwj).1
        have r1 := (HCJ.out wr hbwj).2
        have h3 := H3.out il[j] (List.getElem_mem hlt)
        have HST := Lib.hid (treeJ_step (xs := xs) (q := q) (k := k) (dep := dep) (b := (dep, d, lx, c)) (l := []) hlt)
        have kl1 : (j : Int) < (il.length : Int) := by omega
        have y0 := LRj.out.cell 0
        have zy := LRj.out.lt
        have HX : Hid (∃ it, il[j] = it) := Lib.hid ⟨_, rfl⟩
        obtain ⟨it, hit⟩ := HX.out
        rw [hit] at r0 r1 h3 HST HCJ
        clear hit HX
        obtain ⟨d', c2'⟩ := it
        simp only at r0 r1 h3
        have HCJ2 : Hid (∀ W, Below w.heap.size w W → W.cell? ⟨bi, oi + j * 2, none⟩ = some (.int .i64 d') ∧ W.cell? ⟨bi, oi + j * 2 + 1, none⟩ = some (.int .i64 c2')) := Lib.hid HCJ.out
        have HCALL := Lib.hid (fun W2 (h2 : Below w.heap.size w W2) => HIH.out (dep + 1) d' c2' W2 h3.1.1 (by omega) (by omega) (by omega) (by omega) h2)
        have hsl := tree_len K k d' h3.1.1 (dep + 1) c2'
        have HST2 : Hid (treeJ xs q k dep (dep, d, lx, c) il [] (j + 1) = treeJ xs q k dep (dep, d, lx, c) il [] j ++ treeL xs q k (dep + 1) d' c2') := Lib.hid HST.out
        have e1 : IntKind.i64.wrap (dep + 1) = dep + 1 := IntWalk.i64_in _ (by omega)
        clear HST HCJ h3
        generalize treeL xs q k (dep + 1) d' c2' = sub at *
        generalize treeJ xs q k dep (dep, d, lx, c) il [] j = tj at *
        have hfl : tj.length ≤ 1000000 := by simp at hlj; omega
        have hsl2 : sub.length ≤ 1000000 := by omega
        have HCAT : Hid (cellsB tj ++ cellsB sub = cellsB (tj ++ sub)) := Lib.hid (cellsB_app _ _).symm
        have zc := cellsB_len sub
        clear hlj hlj2 hsl
        go_wp2_with fail
        go_region_law (first
          | (go_simp; go_at_call 80; refine (HCALL.out _ (by (repeat' (first | (with_reducible exact Below.refl _ _) | (with_reducible assumption) | (with_reducible refine Below.alloc ?_ ?_ _) | (with_reducible refine Below.setCell ?_ ?_ _) | (with_reducible refine below_row ?_ ?_ _) | (with_reducible refine Below.drew ?_) | (with_reducible refine below_drewN ?_ _) | (with_reducible refine Below.trans ?_ (Below.mono (by assumption) ?_)) | (first | exact Nat.le_refl _ | omega | (simp; done) | (simp; omega) | (exact Below.size (by assumption))))))).mono ?_; rintro e w6 ⟨v6, rfl, ho6, hb6⟩; have LR6 := Lib.hid (LRj.out.drew.after hb6); have LX6 := Lib.hid (LXj.out.drew.after hb6); have HO6 := Lib.hid (own_after HOj.out.drew hb6); have hbw6 : Below W.heap.size W w6 := (by (repeat' (first | (with_reducible exact Below.refl _ _) | (with_reducible assumption) | (with_reducible refine Below.alloc ?_ ?_ _) | (with_reducible refine Below.setCell ?_ ?_ _) | (with_reducible refine below_row ?_ ?_ _) | (with_reducible refine Below.drew ?_) | (with_reducible refine below_drewN ?_ _) | (with_reducible refine Below.trans ?_ (Below.mono (by assumption) ?_)) | (first | exact Nat.le_refl _ | omega | (simp; done) | (simp; omega) | (exact Below.size (by assumption)))))); have hs6 := hbw6.size; obtain ⟨A6, c6, rfl, hn6, hw6⟩ := own_news ho6; have HN6 := Lib.hid hn6; have HW6 := Lib.hid hw6; clear ho6 hb6 hn6 hw6; have m0 := LR6.out.cell 0; have m3 := LX6.out.cell 3; have q0 := (HCJ2.out w6 (hb.trans (hbw6.mono hbm))).1; have q1 := (HCJ2.out w6 (hb.trans (hbw6.mono hbm))).2; have zm := LR6.out.lt; have zx6 := LX6.out.lt)
          | (refine step_row (o := ⟨some 50, _, _, _, _, _⟩) (by rfl) (.tmp 32) (.tmp 49) 61 (by rfl) W.heap.size 103 i0 (.agg #[.int .i64 0, .int .i64 0, .int .i64 0, .int .i64 0]) 4 32 Try.underlying61 hi0 hz0 hz1 hz2 rfl (by decide) (.slice A' tj.length c') tj.length (cellsB tj) (by rfl) HO6.out A6 sub.length c6 (cellsB sub) (by rfl) HN6.out (by rw [cellsB_len]) HW6.out (cellsB_one sub) (by unfold maxLen; omega) (by omega) (by first | omega | (simp; omega)) ?_; intro v7 w7 ho7 hap7 hapo7 hbl7; have hb7 : Below W.heap.size W w7 := hbl7 W hbw6 (Nat.le_refl _); have LR7 := Lib.hid (hap7 _ _ _ (by decide) LR6.out); have LX7 := Lib.hid (hap7 _ _ _ (by decide) LX6.out); rw [HCAT.out] at ho7; have HO7 := Lib.hid ho7; obtain ⟨A7, c7, g7, rfl, -⟩ := own_form ho7; clear ho7 hap7 hapo7 hbl7))
        all_goals
          go_wp2_with fail
          go_roundw
          case rel => exact ⟨j + 1, A7, c7, by omega, by go_num, by rw [HST2.out, List.length_append], Lib.hid (by rw [HST2.out, List.length_append]; exact HO7.out), LR7, LX7, hb7⟩
          case measure => simp [intOf]; omega
      · have hje : j = il.length := by omega
        subst hje
        rw [HTE.out] at HOj ⊢
        have kl0 : ¬ (il.length : Int) < (il.length : Int) := by omega
        go_wp2_with fail
        go_ret
        exact ⟨.slice A' (treeL xs q (k + 1) dep d c).length c', rfl, HOj.out, hbj⟩
end
section
open Go.RowKit

set_option maxRecDepth 100000 in
set_option maxHeartbeats 8000000 in
theorem rTree_any {vI vL : Value} {xs : List Iss} {ls : List Int} {w : World} (d : Int) (h : RegAt w vI xs) (hL : IntsAt w vL ls) (hll : ls.length ≤ 9223372036854775807) :
    Calls Try.prog 35 #[.agg #[vI], vL, .int .i64 d] w (TreeP (treeE xs ls d) w) := by
  have HAS := Lib.hid (fun W (hW : Below w.heap.size w W) => rAsked_any d (h.after hW) (hL.after hW) hll)
  unfold treeE
  by_cases h0 : askE xs ls d = 0
  · obtain ⟨h1, h2, h3⟩ := askE_ok h0
    have K := kit_of h1 h2
    obtain ⟨A, c, b, off, vi, vd, rfl, hA, hc⟩ := h.at_.row
    have hwr := fun W (hW : Below w.heap.size w W) => walkR_of h1 h2 K (h.after hW) hA (hc.after hW) (hL.after hW)
    have HBR := Lib.hid (fun W (hW : Below w.heap.size w W) => rbranches_any K (hwr W hW) 6 d W h3 (K.le d h3) (by omega) (Below.refl _ _))
    have HTR := Lib.hid (fun W (hW : Below w.heap.size w W) => rtree_any K (hwr W hW) 6 0 d 1 W h3 (K.le d h3) (by omega) (by omega) (by omega) (Below.refl _ _))
    rw [if_neg (by simpa using h0)]
    rw [h0] at HAS
    have htl := tree_len K 6 d h3 0 1
    have LR := Lib.hid (Lies.made w 24 #[.slice A xs.length c])
    obtain ⟨AL, cL, rfl⟩ := hL.slice
    have HTL : Hid (∃ tl, treeL xs (qOf xs (numbersL xs) ls) 6 0 d 1 = tl) := Lib.hid ⟨_, rfl⟩
    obtain ⟨tl, htle⟩ := HTL.out
    rw [htle] at htl HBR HTR ⊢
    have htl2 : tl.length ≤ 100000 := Nat.le_trans htl (by decide)
    clear h0 h1 h2 h3 K h hL hA hc hwr HTL htle htl
    generalize hr : (if 500 < tl.length then (([] : List (Int × Int × Int × Int)), (4 : Int)) else (tl, 0)) = r
    have HR := Lib.hid hr
    clear hr
    go_enter Try.func35, Try.ntmps35
    go_wp2_with fail
    refine (HAS.out _ (by (repeat' (first | (with_reducible exact Below.refl _ _) | (with_reducible assumption) | (with_reducible refine Below.alloc ?_ ?_ _) | (with_reducible refine Below.setCell ?_ ?_ _) | (with_reducible refine below_row ?_ ?_ _) | (with_reducible refine Below.drew ?_) | (with_reducible refine below_drewN ?_ _) | (with_reducible refine Below.trans ?_ (Below.mono (by assumption) ?_)) | (first | exact Nat.le_refl _ | omega | (simp; done) | (simp; omega) | (exact Below.size (by assumption))))))).mono ?_
    rintro e w1 ⟨rfl, hb1⟩
    have s1 := hb1.size; try simp only [World.size_alloc, World.size_setCell, World.size_drew, setRow_size] at s1
    have hbw1 : Below w.heap.size w w1 := by (repeat' (first | (with_reducible exact Below.refl _ _) | (with_reducible assumption) | (with_reducible refine Below.alloc ?_ ?_ _) | (with_reducible refine Below.setCell ?_ ?_ _) | (with_reducible refine below_row ?_ ?_ _) | (with_reducible refine Below.drew ?_) | (with_reducible refine below_drewN ?_ _) | (with_reducible refine Below.trans ?_ (Below.mono (by assumption) ?_)) | (first | exact Nat.le_refl _ | omega | (simp; done) | (simp; omega) | (exact Below.size (by assumption)))))
    have LR1 := Lib.hid (LR.out.after hb1)
    have y0 := LR1.out.cell 0
    have zy := LR1.out.lt
    clear hb1
    go_wp2_with fail
    refine (HBR.out _ (by (repeat' (first | (with_reducible exact Below.refl _ _) | (with_reducible assumption) | (with_reducible refine Below.alloc ?_ ?_ _) | (with_reducible refine Below.setCell ?_ ?_ _) | (with_reducible refine below_row ?_ ?_ _) | (with_reducible refine Below.drew ?_) | (with_reducible refine below_drewN ?_ _) | (with_reducible refine Below.trans ?_ (Below.mono (by assumption) ?_)) | (first | exact Nat.le_refl _ | omega | (simp; done) | (simp; omega) | (exact Below.size (by assumption))))))).mono ?_
    rintro e w2 ⟨rfl, hb2⟩
    have s2 := hb2.size; try simp only [World.size_alloc, World.size_setCell, World.size_drew, setRow_size] at s2
    have hbw2 : Below w.heap.size w w2 := by (repeat' (first | (with_reducible exact Below.refl _ _) | (with_reducible assumption) | (with_reducible refine Below.alloc ?_ ?_ _) | (with_reducible refine Below.setCell ?_ ?_ _) | (with_reducible refine below_row ?_ ?_ _) | (with_reducible refine Below.drew ?_) | (with_reducible refine below_drewN ?_ _) | (with_reducible refine Below.trans ?_ (Below.mono (by assumption) ?_)) | (first | exact Nat.le_refl _ | omega | (simp; done) | (simp; omega) | (exact Below.size (by assumption)))))
    have LR2 := Lib.hid (LR1.out.after hb2)
    have y20 := LR2.out.cell 0
    have zy2 := LR2.out.lt
    clear hb2 y0 zy
    by_cases h5 : 500 < tl.length
    · have HR2 : Hid (r = ([], 4)) := Lib.hid (by rw [← HR.out, if_pos h5])
      have h5' : (500 : Int) < (tl.length : Int) := by omega
      go_wp2_with fail
      go_ret2
      exact ⟨.slice none 0 0, by rw [HR2.out]; rfl, by rw [HR2.out]; exact branches_nil _, hbw2⟩
    · have HR2 : Hid (r = (tl, 0)) := Lib.hid (by rw [← HR.out, if_neg h5])
      have h5' : ¬ (500 : Int) < (tl.length : Int) := by omega
      go_wp2_with fail
      refine (HTR.out _ (by (repeat' (first | (with_reducible exact Below.refl _ _) | (with_reducible assumption) | (with_reducible refine Below.alloc ?_ ?_ _) | (with_reducible refine Below.setCell ?_ ?_ _) | (with_reducible refine below_row ?_ ?_ _) | (with_reducible refine Below.drew ?_) | (with_reducible refine below_drewN ?_ _) | (with_reducible refine Below.trans ?_ (Below.mono (by assumption) ?_)) | (first | exact Nat.le_refl _ | omega | (simp; done) | (simp; omega) | (exact Below.size (by assumption))))))).mono ?_
      rintro e w3 ⟨v, rfl, hown, hb3⟩
      have hbw3 : Below w.heap.size w w3 := by (repeat' (first | (with_reducible exact Below.refl _ _) | (with_reducible assumption) | (with_reducible refine Below.alloc ?_ ?_ _) | (with_reducible refine Below.setCell ?_ ?_ _) | (with_reducible refine below_row ?_ ?_ _) | (with_reducible refine Below.drew ?_) | (with_reducible refine below_drewN ?_ _) | (with_reducible refine Below.trans ?_ (Below.mono (by assumption) ?_)) | (first | exact Nat.le_refl _ | omega | (simp; done) | (simp; omega) | (exact Below.size (by assumption)))))
      have HBA := Lib.hid (branches_of_own hown)
      obtain ⟨A6, c6, g6, rfl, -⟩ := own_form hown
      clear hown hb3
      go_wp2_with fail
      go_ret2
      exact ⟨.slice A6 tl.length c6, by rw [HR2.out]; rfl, by rw [HR2.out]; exact HBA.out, hbw3⟩
  · rw [if_pos h0]
    have hne : (askE xs ls d != 0) = true := by simpa using h0
    obtain ⟨A, c, rfl⟩ := h.slice
    obtain ⟨AL, cL, rfl⟩ := hL.slice
    clear h0 h hL
    generalize askE xs ls d = ae at *
    go_enter Try.func35, Try.ntmps35
    go_wp2_with fail
    refine (HAS.out _ (by (repeat' (first | (with_reducible exact Below.refl _ _) | (with_reducible assumption) | (with_reducible refine Below.alloc ?_ ?_ _) | (with_reducible refine Below.setCell ?_ ?_ _) | (with_reducible refine below_row ?_ ?_ _) | (with_reducible refine Below.drew ?_) | (with_reducible refine below_drewN ?_ _) | (with_reducible refine Below.trans ?_ (Below.mono (by assumption) ?_)) | (first | exact Nat.le_refl _ | omega | (simp; done) | (simp; omega) | (exact Below.size (by assumption))))))).mono ?_
    rintro e w1 ⟨rfl, hb1⟩
    have s1 := hb1.size; try simp only [World.size_alloc, World.size_setCell, World.size_drew, setRow_size] at s1
    go_wp2_with fail
    go_ret2
    exact ⟨_, rfl, branches_nil _, by (repeat' (first | (with_reducible exact Below.refl _ _) | (with_reducible assumption) | (with_reducible refine Below.alloc ?_ ?_ _) | (with_reducible refine Below.setCell ?_ ?_ _) | (with_reducible refine below_row ?_ ?_ _) | (with_reducible refine Below.drew ?_) | (with_reducible refine below_drewN ?_ _) | (with_reducible refine Below.trans ?_ (Below.mono (by assumption) ?_)) | (first | exact Nat.le_refl _ | omega | (simp; done) | (simp; omega) | (exact Below.size (by assumption)))))⟩
end
end Go.Proofs.Ytdhandkddbgadaa
