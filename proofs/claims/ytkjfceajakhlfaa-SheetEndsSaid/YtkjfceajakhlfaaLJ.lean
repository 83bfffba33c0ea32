/- Z3: The reference: parts, Parts, Explode. Z7: The reference: Parts, Explode. Y6: Tree's closure, and Tree. Y7: Tree. -/
import Derived.Test.YtkjfceajakhlfaaLI
import Derived.Test.YtkjfceajakhlfaaK20
import Derived.Test.YtkjfceajakhlfaaLG
namespace Go.Proofs.Ytkjfceajakhlfaa
set_option linter.unusedVariables false
set_option linter.unusedSimpArgs false
section
open Go.RowKit

/-- The reference's memory: each drawing's issue is taken; its items lie there. -/
structure WalkR (w : World) (vI vL : Value) (xs : List Iss) (zs : List Int) (q : Int → Nat) (vi vd : Nat → Value) : Prop where
  call : ∀ d ∈ zs, ∀ W, Below w.heap.size w W → Calls Try.prog 121 #[.agg #[vI], vL, .int .i64 d] W fun e w' => e = .returned (.agg #[.int .i64 ((xs.getD (q d) zeroI).d), .int .i64 ((xs.getD (q d) zeroI).l), .int .u8 (xs.getD (q d) zeroI).k, vi (q d), vd (q d)]) ∧ Below W.heap.size W w'
  nums : ∀ W, Below w.heap.size w W → Calls Try.prog 59 #[.agg #[vI]] W fun e w' => ∃ v, e = .returned v ∧ w'.ownsRow W.heap.size 3 1 v zs.length (cellsN zs) ∧ Below W.heap.size W w'
  items : ∀ d ∈ zs, ItemsAt w (vi (q d)) (xs.getD (q d) zeroI).items
  dims : ∀ d ∈ zs, ∃ A n c, vd (q d) = .slice A n c
  kinds : ∀ d ∈ zs, 1 ≤ (xs.getD (q d) zeroI).k ∧ (xs.getD (q d) zeroI).k ≤ 3
  vI_ : ∃ A n c, vI = .slice A n c
  vL_ : ∃ A n c, vL = .slice A n c
theorem walkR_of {w : World} {A : Option Addr} {c b off : Nat} {vL : Value} {xs : List Iss} {ls : List Int} {vi vd : Nat → Value} {rk : Int → Nat} (h0 : layE xs = 0) (hl : lettersB xs (numbersL xs) ls = true) (K : Kit xs (numbersL xs) (qOf xs (numbersL xs) ls) rk) (hr : RegAt w (.slice A xs.length c) xs) (hA : 0 < xs.length → A = some ⟨b, off, none⟩) (hc : IssRow w b off xs vi vd) (hL : IntsAt w vL ls) :
    WalkR w (.slice A xs.length c) vL xs (numbersL xs) (qOf xs (numbersL xs) ls) vi vd := by
  obtain ⟨-, h2, h3, -, -, -⟩ := layE_ok h0
  obtain ⟨h7, h8⟩ := lettersB_iff.1 hl
  have hns := numbers_same h2
  refine ⟨fun d hd W hW => rTaken_any A c b off xs vi vd (numbersL xs) ls d W (hr.after hW) hA (hc.after hW) (hL.after hW) hns hd h7 (K.lt d hd), fun W hW => ?_, fun d hd => ?_, fun d hd => (hc.slices (K.lt d hd)).2, fun d hd => ?_, ⟨_, _, _, rfl⟩, ?_⟩
  · have := rNumbers_v (hr.after hW)
    rw [hns] at this
    exact this
  · rw [K.get hd]
    exact (hc _ (K.lt d hd)).2.2.2.2.2.2.1
  · rw [K.get hd]
    exact (namedB_iff.1 (right_named h2 _ (List.getElem_mem (K.lt d hd))).1).2.2
  · obtain ⟨A, c, e⟩ := hL.slice
    exact ⟨A, _, c, e⟩
/-- A row of counts, by drawings. -/
theorem rowS_put {w : World} {gn p : Nat} {zs : List Int} {S : Int → Int} {d v : Int} (hp : ∃ hp : p < zs.length, zs[p] = d) (hn : zs.Pairwise (· < ·)) (h : Lies w gn 3 (rowN (zs.map S))) : Lies (w.setCell ⟨gn, p, none⟩ (.int .i64 v)) gn 3 (rowN (zs.map fun y => if y = d then v else S y)) := by
  obtain ⟨hpl, hz⟩ := hp
  have h2 := h.store p (.int .i64 v)
  rw [rowN_set] at h2
  have e : (zs.map S).set p v = zs.map fun y => if y = d then v else S y := by
    apply List.ext_getElem
    · simp
    · intro i h3 h4
      simp only [List.length_set, List.length_map] at h3
      rw [List.getElem_set, List.getElem_map, List.getElem_map]
      by_cases e : p = i
      · subst e; rw [if_pos rfl, if_pos hz]
      · rw [if_neg e, if_neg]
        intro e2
        have e3 : zs[i] = zs[p] := e2.trans hz.symm
        rcases Nat.lt_or_gt_of_ne e with h5 | h5
        · have := List.pairwise_iff_getElem.1 hn p i hpl h3 h5; omega
        · have := List.pairwise_iff_getElem.1 hn i p h3 hpl h5; omega
  rw [e] at h2
  exact h2

set_option maxRecDepth 100000 in
set_option maxHeartbeats 8000000 in
theorem rparts_any {w : World} {xs : List Iss} {zs : List Int} {q rk : Int → Nat} {vi vd : Nat → Value} {vI vL : Value} (g : Nat) (K : Kit xs zs q rk) (hW : WalkR w vI vL xs zs q vi vd) (hst : zs.Pairwise (· < ·)) (hz20 : zs.length ≤ 1000) (hg : w.heap.size ≤ g) :
    ∀ (k : Nat) (d c : Int) (W : World) (S : Int → Int), d ∈ zs → rk d ≤ k → 0 ≤ c → (∀ y, 0 ≤ S y ∧ S y + bnd k c ≤ bigT) → Below w.heap.size w W → Lies W g 3 (rowN (zs.map S)) →
      Calls Try.prog 120 #[.agg #[vI], vL, .int .i64 d, .int .i64 c, .slice (some ⟨g, 0, none⟩) zs.length zs.length] W fun e w' => (∃ v, e = .returned v) ∧ Lies w' g 3 (rowN (zs.map fun y => S y + sumL (addsL xs q k d c) y)) ∧ W.grownBy w' (some g) := by
  intro k
  induction k with
  | zero =>
    intro d c W S hd hr
    have := K.pos d hd
    omega
  | succ k ih =>
    intro d c W S hd hr hc hS hb hM
    obtain ⟨h1, h2, h3⟩ := K.itm hd
    have HCL := Lib.hid (hW.call d hd)
    have HNU := Lib.hid hW.nums
    have hkd := hW.kinds d hd
    obtain ⟨Ai, ci, bi, oi, hvi, hAi, hci⟩ := hW.items d hd
    obtain ⟨A2, n2, c2, hvd⟩ := hW.dims d hd
    obtain ⟨AI, nI, cI, rfl⟩ := hW.vI_
    obtain ⟨AL, nL, cL, rfl⟩ := hW.vL_
    rw [hvi, hvd] at HCL
    have hsb := fun j y => sumJ_bd K hd k hc j y
    have HIL : Hid (∃ il, (xs.getD (q d) zeroI).items = il) := Lib.hid ⟨_, rfl⟩
    obtain ⟨il, hil⟩ := HIL.out
    have HKX : Hid (∃ kx, (xs.getD (q d) zeroI).k = kx) := Lib.hid ⟨_, rfl⟩
    obtain ⟨kx, hkx⟩ := HKX.out
    have HADD := Lib.hid (adds_step (k := k) (c := c) hil hkx)
    rw [hil] at h1 h2 h3 HCL hAi hci hsb
    rw [hkx] at h2 HCL hkd
    have H3 := Lib.hid h3
    have HSB := Lib.hid hsb
    have HAI := Lib.hid hAi
    have HCI := Lib.hid hci
    have HSS := Lib.hid hS
    have hSd := hS d
    have hb0 := bnd_nonneg k hc
    have hge := bnd_ge k hc
    have hbnd : bnd (k + 1) c = 160 * bnd k c := rfl
    rw [hbnd] at hSd HSS
    unfold bigT at hSd
    have hbm := hb.size
    have HM := Lib.hid hM
    have HIH := Lib.hid ih
    have hmlt := hM.lt
    obtain ⟨p, hpl, ⟨hpl', hpz⟩, hix⟩ := idx_spec hd
    have HPZ : Hid (∃ hp : p < zs.length, zs[p] = d) := Lib.hid ⟨hpl, hpz⟩
    have HIX := Lib.hid (fun v W (hW : IntsAt W v zs) => rIndex_v d hW hz20)
    rw [hix] at HIX
    have HST0 := Lib.hid hst
    clear h3 hsb hAi hci hS hM ih hvi hvd HIL HKX hil hkx hbnd hpz hpl' hix hst hW
    generalize (xs.getD (q d) zeroI).d = dx at *
    generalize (xs.getD (q d) zeroI).l = lx at *
    have LR := Lib.hid (Lies.made W 24 #[.slice AI nI cI])
    by_cases hk1 : kx = 1
    · subst hk1
      have HADD2 : Hid (∀ y, sumL (addsL xs q (k + 1) d c) y = sumJ xs q k c il il.length y) := Lib.hid (fun y => by rw [HADD.out, if_pos rfl, List.nil_append, sumJ_end])
      clear HADD h2
      go_enter Try.func120, Try.ntmps120
      go_wp2_with fail
      refine (HCL.out _ (by (repeat' (first | (with_reducible first | exact Below.refl _ _ | assumption | refine Below.alloc ?_ ?_ _ | refine Below.setCell ?_ ?_ _ | refine below_row ?_ ?_ _ | refine Below.drew ?_ | refine below_drewN ?_ _ | refine Below.trans ?_ (Below.mono (by assumption) ?_)) | exact Nat.le_refl _ | omega | (simp; done) | (simp; omega) | exact Below.size (by assumption))))).mono ?_
      rintro e w1 ⟨rfl, hb1⟩
      have s1 := hb1.size; try simp only [World.size_alloc, World.size_setCell, World.size_drew, setRow_size] at s1
      have hbW1 : Below W.heap.size W w1 := ((Below.refl W.heap.size W).alloc (Nat.le_refl _) _).trans (hb1.mono (by simp))
      have HM1 := Lib.hid ((HM.out.after hbW1).alloc (.cells #[.int .i64 dx, .int .i64 lx, .int .u8 1, .slice Ai il.length ci, .slice A2 n2 c2] 45))
      have LR1 := Lib.hid ((LR.out.after hb1).alloc (.cells #[.int .i64 dx, .int .i64 lx, .int .u8 1, .slice Ai il.length ci, .slice A2 n2 c2] 45))
      have LX1 := Lib.hid (Lies.made w1 45 #[.int .i64 dx, .int .i64 lx, .int .u8 1, .slice Ai il.length ci, .slice A2 n2 c2])
      have hs1 := hbW1.size
      have HG1 : Hid (W.grownBy (w1.alloc (.cells #[.int .i64 dx, .int .i64 lx, .int .u8 1, .slice Ai il.length ci, .slice A2 n2 c2] 45)) (some g)) := Lib.hid ((grown_of_below hbW1 (some g)).trans (World.grownBy_alloc _ _ _))
      clear hb1
      go_wp2_with fail
      go_loopw [11] (fun i wr => ∃ j : Nat, j ≤ il.length ∧ i = .int .i64 j ∧ Hid (Lies wr g 3 (rowN (zs.map fun y => S y + sumJ xs q k c il j y))) ∧ Hid (W.grownBy wr (some g)) ∧ Hid (Lies wr W.heap.size 24 #[.slice AI nI cI]) ∧ Hid (Lies wr w1.heap.size 45 #[.int .i64 dx, .int .i64 lx, .int .u8 1, .slice Ai il.length ci, .slice A2 n2 c2])) (fun i _ => il.length - (intOf i).toNat)
      case atStart => exact ⟨0, by omega, rfl, Lib.hid (by have := HM1.out; rwa [show (zs.map S) = zs.map (fun y => S y + sumJ xs q k c il 0 y) from by congr 1; funext y; simp [sumJ, sumL]] at this), HG1, LR1, LX1⟩
      case round =>
        obtain ⟨j, hj, rfl, HMj, HGj, LRj, LXj⟩ := hrel
        have hbj : Below w.heap.size w wr := grown_below hb HGj.out hg hbm
        have hzj := HGj.out.size
        have x3 := LXj.out.cell 3
        have zx := LXj.out.lt
        by_cases hlt : j < il.length
        · obtain rfl := HAI.out (by omega)
          have r0 := cell_keep hbj (HCI.out j hlt).1
          have r1 := cell_keep hbj (HCI.out j hlt).2
          have HCJ := Lib.hid (fun W (hW : Below w.heap.size w W) => And.intro (cell_keep hW (HCI.out j hlt).1) (cell_keep hW (HCI.out j hlt).2))
          have h3 := H3.out il[j] (List.getElem_mem hlt)
          have HST := Lib.hid (fun y => sumJ_step (xs := xs) (q := q) (k := k) (c := c) hlt y)
          have kl1 : (j : Int) < (il.length : Int) := by omega
          have y0 := LRj.out.cell 0
          have zy := LRj.out.lt
          have HX : Hid (∃ it, il[j] = it) := Lib.hid ⟨_, rfl⟩
          obtain ⟨it, hit⟩ := HX.out
          rw [hit] at r0 r1 h3 HST HCJ
          clear hit HX
          obtain ⟨d', c'⟩ := it
          simp only at r0 r1 h3
          have HCJ2 : Hid (∀ W, Below w.heap.size w W → W.cell? ⟨bi, oi + j * 2, none⟩ = some (.int .i64 d') ∧ W.cell? ⟨bi, oi + j * 2 + 1, none⟩ = some (.int .i64 c')) := Lib.hid HCJ.out
          have HST2 : Hid (∀ y, sumJ xs q k c il (j + 1) y = sumJ xs q k c il j y + sumL (addsL xs q k d' (c * c')) y) := Lib.hid HST.out
          have hmb := mul_bd hc h3.1.2.1 h3.1.2.2
          have hbb := bnd_mul k hc h3.1.2.1 h3.1.2.2
          have hj8 : (j : Int) * (20 * bnd k c) ≤ 7 * (20 * bnd k c) := Int.mul_le_mul_of_nonneg_right (by omega) (by omega)
          have hcb : c ≤ 1000000000000000 := by have := hSd; omega
          have hcc0 : 0 ≤ c * c' := by omega
          have hcc1 : c * c' ≤ 20000000000000000 := by omega
          have HCALL := Lib.hid (fun W2 (h1 : Lies W2 g 3 (rowN (zs.map fun y => S y + sumJ xs q k c il j y))) (h2 : Below w.heap.size w W2) =>
            HIH.out d' (c * c') W2 (fun y => S y + sumJ xs q k c il j y) h3.1.1 (by omega) hcc0 (fun y => by have a1 := HSB.out j y; have a2 := HSS.out y; unfold bigT at a2 ⊢; show 0 ≤ S y + sumJ xs q k c il j y ∧ S y + sumJ xs q k c il j y + bnd k (c * c') ≤ _; omega) h2 h1)
          have e1 : IntKind.i64.wrap (c * c') = c * c' := IntWalk.i64_in _ (by omega)
          clear hmb hbb hj8 HST HCJ
          obtain ⟨cc, hcc⟩ : ∃ cc, c * c' = cc := ⟨_, rfl⟩
          rw [hcc] at e1 HCALL HST2 hcc0 hcc1
          have e2 : c * c' = cc := hcc
          clear hcc
          go_wp2_with fail
          go_region_held3 (fun W2 => W2.cell? ⟨W.heap.size, 0, none⟩ = some (.slice AI nI cI) ∧ W2.cell? ⟨w1.heap.size, 3, none⟩ = some (.slice (some ⟨bi, oi, none⟩) il.length ci) ∧ W2.cell? ⟨bi, oi + j * 2, none⟩ = some (.int .i64 d') ∧ W2.cell? ⟨bi, oi + j * 2 + 1, none⟩ = some (.int .i64 c')) (go_keep) ((go_at_call 120; refine (HCALL.out _ HMj.out.drew (by (repeat' (first | (with_reducible first | exact Below.refl _ _ | assumption | refine Below.alloc ?_ ?_ _ | refine Below.setCell ?_ ?_ _ | refine below_row ?_ ?_ _ | refine Below.drew ?_ | refine below_drewN ?_ _ | refine Below.trans ?_ (Below.mono (by assumption) ?_)) | exact Nat.le_refl _ | omega | (simp; done) | (simp; omega) | exact Below.size (by assumption))))).mono ?_; rintro e w6 ⟨⟨v, rfl⟩, hm6, hg6⟩; have HM6 := Lib.hid hm6; have HG6 : Hid (W.grownBy w6 (some g)) := Lib.hid (HGj.out.trans (show wr.grownBy w6 (some g) from ⟨hg6.os, hg6.tape, hg6.output, hg6.size, hg6.block⟩)); have hb6 : Below w.heap.size w w6 := grown_below hb HG6.out hg hbm; have LR6 := Lib.hid (lies_grown1 LRj.out.drew hg6 (by omega)); have LX6 := Lib.hid (lies_grown1 LXj.out.drew hg6 (by omega)); have m0 := LR6.out.cell 0; have m3 := LX6.out.cell 3; have q0 := (HCJ2.out w6 hb6).1; have q1 := (HCJ2.out w6 hb6).2; have zm := LR6.out.lt; have zx6 := LX6.out.lt; clear hm6 hg6))
          go_wp2_with fail
          go_roundw
          case rel => exact ⟨j + 1, by omega, by go_num, Lib.hid (by have := HM6.out; rwa [show (zs.map fun y => (S y + sumJ xs q k c il j y) + sumL (addsL xs q k d' cc) y) = zs.map (fun y => S y + sumJ xs q k c il (j + 1) y) from by congr 1; funext y; rw [HST2.out]; omega] at this), HG6, LR6, LX6⟩
          case measure => simp [intOf]; omega
        · have hje : j = il.length := by omega
          have HMJ2 : Hid (Lies wr g 3 (rowN (zs.map fun y => S y + sumL (addsL xs q (k + 1) d c) y))) := Lib.hid (by have := HMj.out; rw [hje] at this; rwa [show (zs.map fun y => S y + sumJ xs q k c il il.length y) = zs.map (fun y => S y + sumL (addsL xs q (k + 1) d c) y) from by congr 1; funext y; rw [HADD2.out]] at this)
          clear HMj
          subst hje
          go_wp2_with fail
          go_end0
          exact ⟨⟨_, rfl⟩, HMJ2.out, HGj.out⟩
    · have hile : il = [] := h2 hk1
      subst hile
      have hk2 : (1 : Int) < kx := by omega
      have HADD2 : Hid (addsL xs q (k + 1) d c = [(d, c)]) := Lib.hid (by rw [HADD.out, if_neg hk1]; simp)
      have HND : Hid (∀ y, (if y = d then S d + c else S y) = S y + sumL (addsL xs q (k + 1) d c) y) := Lib.hid (fun y => by
        rw [HADD2.out, sumL_one]
        by_cases e : y = d
        · subst e; rw [if_pos rfl, if_pos rfl]
        · rw [if_neg e, if_neg (fun h => e h.symm)]; omega)
      clear HADD h2 hk1
      go_enter Try.func120, Try.ntmps120
      go_wp2_with fail
      refine (HCL.out _ (by (repeat' (first | (with_reducible first | exact Below.refl _ _ | assumption | refine Below.alloc ?_ ?_ _ | refine Below.setCell ?_ ?_ _ | refine below_row ?_ ?_ _ | refine Below.drew ?_ | refine below_drewN ?_ _ | refine Below.trans ?_ (Below.mono (by assumption) ?_)) | exact Nat.le_refl _ | omega | (simp; done) | (simp; omega) | exact Below.size (by assumption))))).mono ?_
      rintro e w1 ⟨rfl, hb1⟩
      have s1 := hb1.size; try simp only [World.size_alloc, World.size_setCell, World.size_drew, setRow_size] at s1
      have hbW1 : Below W.heap.size W w1 := ((Below.refl W.heap.size W).alloc (Nat.le_refl _) _).trans (hb1.mono (by simp))
      have HM1 := Lib.hid ((HM.out.after hbW1).alloc (.cells #[.int .i64 dx, .int .i64 lx, .int .u8 kx, .slice Ai 0 ci, .slice A2 n2 c2] 45))
      have LR1 := Lib.hid ((LR.out.after hb1).alloc (.cells #[.int .i64 dx, .int .i64 lx, .int .u8 kx, .slice Ai 0 ci, .slice A2 n2 c2] 45))
      have y0 := LR1.out.cell 0
      have zy := LR1.out.lt
      have hs1 := hbW1.size
      clear hb1
      go_wp2_with fail
      refine (HNU.out _ (by (repeat' (first | (with_reducible first | exact Below.refl _ _ | assumption | refine Below.alloc ?_ ?_ _ | refine Below.setCell ?_ ?_ _ | refine below_row ?_ ?_ _ | refine Below.drew ?_ | refine below_drewN ?_ _ | refine Below.trans ?_ (Below.mono (by assumption) ?_)) | exact Nat.le_refl _ | omega | (simp; done) | (simp; omega) | exact Below.size (by assumption))))).mono ?_
      rintro e w2 ⟨v, rfl, hown, hb2⟩
      have s2 := hb2.size; try simp only [World.size_alloc, World.size_setCell, World.size_drew, setRow_size] at s2
      have hbW2 : Below W.heap.size W w2 := (hbW1.alloc hs1 _).trans (hb2.mono (by simp; omega))
      have HI2 := Lib.hid (ints_of_own hown)
      obtain ⟨A6, c6, g6, rfl, -⟩ := own_form hown
      have HM2 := Lib.hid (HM1.out.after hb2)
      have q0 := rowMap_at HPZ.out HM2.out
      have zq := HM2.out.lt
      have f0 := HM2.out.free p
      have kl1 : (p : Int) < (zs.length : Int) := by omega
      clear hown hb2 y0
      go_wp2_with fail
      refine (HIX.out _ _ HI2.out).mono ?_
      rintro e w3 ⟨rfl, rfl⟩
      have hs0 : 0 ≤ S d := hSd.1
      have hs5 : S d + c ≤ 1000000000000000 := by omega
      have HM3 := Lib.hid (rowS_put (v := S d + c) HPZ.out HST0.out HM2.out)
      have HSD : Hid (∃ sd, S d = sd) := Lib.hid ⟨_, rfl⟩
      obtain ⟨sd, hsd⟩ := HSD.out
      have HND2 : Hid (∀ y, (if y = d then sd + c else S y) = S y + sumL (addsL xs q (k + 1) d c) y) := Lib.hid (by have := HND.out; rwa [hsd] at this)
      rw [hsd] at q0 hs0 hs5 HM3
      clear hsd HSD hSd
      go_wp2_with fail
      refine bodyPost_ret (results_none rfl _ _ _) rfl ?_
      refine ⟨⟨_, rfl⟩, ?_, ?_⟩
      · have := HM3.out
        rwa [show (zs.map fun y => if y = d then sd + c else S y) = zs.map (fun y => S y + sumL (addsL xs q (k + 1) d c) y) from by congr 1; funext y; exact HND2.out y] at this
      · exact (grown_of_below hbW2 (some g)).trans ⟨rfl, rfl, rfl, by simp [World.setCell], fun k _ hk => Below.heap_setCell _ _ _ _ (fun e => hk (by rw [e]))⟩
end
section
open Go.RowKit

set_option maxRecDepth 100000 in
set_option maxHeartbeats 8000000 in
theorem rParts_any {w : World} {xs : List Iss} {zs : List Int} {q rk : Int → Nat} {vi vd : Nat → Value} {vI vL : Value} (d : Int) (K : Kit xs zs q rk) (hW : WalkR w vI vL xs zs q vi vd) (hst : zs.Pairwise (· < ·)) (hz20 : zs.length ≤ 20) (hd : d ∈ zs) :
    Calls Try.prog 77 #[.agg #[vI], vL, .int .i64 d] w fun e w' => ∃ v, e = .returned v ∧ ItemsAt w' v (partsL xs zs q d) ∧ Below w.heap.size w w' := by
  have HNU := Lib.hid hW.nums
  have HPT := Lib.hid (fun g (hg : w.heap.size ≤ g) W (hb : Below w.heap.size w W) (hl : Lies W g 3 (rowN (zs.map fun _ => (0 : Int)))) => rparts_any g K hW hst (by omega) hg 6 d 1 W (fun _ => 0) hd (K.le d hd) (by omega) (fun y => by unfold bigT; decide) hb hl)
  have HPL : Hid (∀ S, (∀ y, S y = sumL (addsL xs q 6 d 1) y) → partsJ zs S zs.length = partsL xs zs q d) := Lib.hid (fun S hS => by
    unfold partsJ partsL
    rw [List.take_length]
    rw [show S = fun y => sumL (addsL xs q 6 d 1) y from funext hS])
  have HBD := Lib.hid (fun y => adds_bd K y 6 d hd 1 (by omega))
  obtain ⟨AI, nI, cI, rfl⟩ := hW.vI_
  obtain ⟨AL, nL, cL, rfl⟩ := hW.vL_
  obtain ⟨i0, hi, hz0, hz1, hz2⟩ := info_parts infoI
  have hmk := makeN zs.length (by omega)
  have LR := Lib.hid (Lies.made w 24 #[.slice AI nI cI])
  have HST0 := Lib.hid hst
  clear hW hd hst
  generalize partsL xs zs q d = PL at *
  go_enter Try.func77, Try.ntmps77
  go_wp2_with fail
  refine (HNU.out _ (by (repeat' (first | (with_reducible first | exact Below.refl _ _ | assumption | refine Below.alloc ?_ ?_ _ | refine Below.setCell ?_ ?_ _ | refine below_row ?_ ?_ _ | refine Below.drew ?_ | refine below_drewN ?_ _ | refine Below.trans ?_ (Below.mono (by assumption) ?_)) | exact Nat.le_refl _ | omega | (simp; done) | (simp; omega) | exact Below.size (by assumption))))).mono ?_
  rintro e w1 ⟨v, rfl, hown, hb1⟩
  have s1 := hb1.size; try simp only [World.size_alloc, World.size_setCell, World.size_drew, setRow_size] at s1
  have hbw1 : Below w.heap.size w w1 := by (repeat' (first | (with_reducible first | exact Below.refl _ _ | assumption | refine Below.alloc ?_ ?_ _ | refine Below.setCell ?_ ?_ _ | refine below_row ?_ ?_ _ | refine Below.drew ?_ | refine below_drewN ?_ _ | refine Below.trans ?_ (Below.mono (by assumption) ?_)) | exact Nat.le_refl _ | omega | (simp; done) | (simp; omega) | exact Below.size (by assumption)))
  have LR1 := Lib.hid (LR.out.after hb1)
  have y0 := LR1.out.cell 0
  have zy := LR1.out.lt
  have HI1 := Lib.hid (fun W (hW : Below w1.heap.size w1 W) => (ints_of_own hown).after hW)
  obtain ⟨A6, c6, g6, rfl, -⟩ := own_form hown
  clear hown hb1 HNU
  have HG1 : Hid (Lies (w1.alloc (.cells (rowN (List.replicate zs.length 0)) 3)) w1.heap.size 3 (rowN (zs.map fun _ => (0 : Int)))) := Lib.hid (by rw [List.map_const']; exact Lies.made _ _ _)
  go_wp2_with fail
  refine (HPT.out w1.heap.size (by omega) _ (by (repeat' (first | (with_reducible first | exact Below.refl _ _ | assumption | refine Below.alloc ?_ ?_ _ | refine Below.setCell ?_ ?_ _ | refine below_row ?_ ?_ _ | refine Below.drew ?_ | refine below_drewN ?_ _ | refine Below.trans ?_ (Below.mono (by assumption) ?_)) | exact Nat.le_refl _ | omega | (simp; done) | (simp; omega) | exact Below.size (by assumption)))) HG1.out).mono ?_
  rintro e w3 ⟨⟨v, rfl⟩, hl3, hg3⟩
  have HS0 : Hid (∃ S : Int → Int, ∀ y, S y = sumL (addsL xs q 6 d 1) y) := Lib.hid ⟨_, fun _ => rfl⟩
  obtain ⟨S, hS⟩ := HS0.out
  have HPLS := Lib.hid (HPL.out S hS)
  have HSBD : Hid (∀ y, 0 ≤ S y ∧ S y ≤ 1000000000000000) := Lib.hid (fun y => by
    have h5 := HBD.out y
    rw [hS]
    exact ⟨h5.1, Int.le_trans h5.2 (by decide)⟩)
  have HL3 : Hid (Lies w3 w1.heap.size 3 (rowN (zs.map S))) := Lib.hid (by rwa [show (zs.map fun y => (0 : Int) + sumL (addsL xs q 6 d 1) y) = zs.map S from by congr 1; funext y; rw [hS]; omega] at hl3)
  have hb13 : Below w1.heap.size w1 w3 := grown_below ((Below.refl w1.heap.size w1).alloc (Nat.le_refl _) _) hg3 (Nat.le_refl _) (by simp)
  have hbw3 : Below w.heap.size w w3 := hbw1.trans (hb13.mono hbw1.size)
  have hs3 := hbw3.size
  obtain ⟨A6', c6', b6, o6, e6, hA6, hc6⟩ := HI1.out w3 hb13
  injection e6 with e6 _ e6c
  subst e6 e6c
  have HA6 := Lib.hid hA6
  have HC6 := Lib.hid (fun W (hW : Below w3.heap.size w3 W) i (h : i < zs.length) => cell_keep hW (hc6 i h))
  have HLW := Lib.hid (fun W (hW : Below w3.heap.size w3 W) => HL3.out.after hW)
  clear hS hl3 hg3 HPL HPT HS0 HBD HI1 HG1 hmk hA6 hc6 y0 zy
  go_wp2_with fail
  go_loopw [9, 10] (fun v i wr => ∃ (k : Nat) (AO : Option Addr) (cO : Nat), k ≤ zs.length ∧ i = .int .i64 k ∧ v = .slice AO (partsJ zs S k).length cO ∧ Hid (wr.ownsRow w3.heap.size 52 2 (.slice AO (partsJ zs S k).length cO) (partsJ zs S k).length (cellsI (partsJ zs S k))) ∧ Below w3.heap.size w3 wr) (fun _ i _ => zs.length - (intOf i).toNat)
  case atStart => exact ⟨0, none, 0, by omega, rfl, rfl, Lib.hid (World.ownsRow_nil _ _ _ _), Below.refl _ _⟩
  case round =>
    obtain ⟨k, AO, cO, hk, rfl, rfl, HO, hb⟩ := hrel
    have hzz := hb.size
    have hle := partsJ_le zs S k
    by_cases hlt : k < zs.length
    · obtain rfl := HA6.out (by omega)
      have z0 := HC6.out wr hb k hlt
      have HLK := Lib.hid (HLW.out wr hb)
      have l0 : wr.cell? ⟨w1.heap.size, k, none⟩ = some (.int .i64 (S zs[k])) := by
        rw [HLK.out.cell, rowN_at (by simpa using hlt)]
        simp
      have kl1 : (k : Int) < (zs.length : Int) := by omega
      have HST := Lib.hid (partsJ_step (S := S) hlt)
      have hsb := HSBD.out zs[k]
      have HSK : Hid (∃ sk zk, S zs[k] = sk ∧ zs[k] = zk) := Lib.hid ⟨_, _, rfl, rfl⟩
      obtain ⟨sk, zk, hsk, hzk⟩ := HSK.out
      rw [hsk] at l0 hsb HST
      rw [hzk] at z0 HST
      clear hsk hzk HSK
      generalize partsJ zs S k = pj at *
      have zc := cellsI_len pj
      by_cases hp : 0 < sk
      · have HST2 : Hid (partsJ zs S (k + 1) = pj ++ [(zk, sk)]) := Lib.hid (by rw [HST.out, if_pos hp])
        have HCI : Hid (cellsI pj ++ [.int .i64 zk, .int .i64 sk] = cellsI (pj ++ [(zk, sk)])) := Lib.hid (by simp [cellsI])
        clear HST
        go_wp2_with fail
        go_region_law (first | (refine step_row (o := ⟨some 43, _, _, _, _, _⟩) (by rfl) (.tmp 32) (.tmp 42) 42 (by rfl) w3.heap.size 52 i0 (.agg #[.int .i64 0, .int .i64 0]) 2 16 Try.underlying42 hi hz0 hz1 hz2 rfl (by decide) (.slice AO pj.length cO) pj.length (cellsI pj) (by rfl) ?_ (some ⟨_, 0, none⟩) 1 1 [.int .i64 zk, .int .i64 sk] (by rfl) (fun h => by cases h) (by rfl) ?_ (by simp [Value.oneCell']) (by unfold maxLen; omega) (by omega) (by first | omega | (simp; omega)) ?_; (focus (first | exact HO.out.drew.alloc _ | exact (HO.out.alloc _).drew | exact HO.out.alloc _)); (focus (intro ad had; injection had with had; subst had; first | exact World.news_of_block (Lies.made _ _ _) | exact World.news_of_block (Lies.made _ _ _).drew)); intro v4 w4 ho4 hap4 hapo4 hbl4; have hb4 : Below w3.heap.size w3 w4 := hbl4 w3 (by (repeat' (first | (with_reducible first | exact Below.refl _ _ | assumption | refine Below.alloc ?_ ?_ _ | refine Below.setCell ?_ ?_ _ | refine below_row ?_ ?_ _ | refine Below.drew ?_ | refine below_drewN ?_ _ | refine Below.trans ?_ (Below.mono (by assumption) ?_)) | exact Nat.le_refl _ | omega | (simp; done) | (simp; omega) | exact Below.size (by assumption)))) (Nat.le_refl _); rw [HCI.out] at ho4; have HO4 := Lib.hid ho4; obtain ⟨A5, c5, g5, rfl, -⟩ := own_form ho4; clear ho4 hap4 hapo4 hbl4))
        all_goals
          go_wp2_with fail
          go_roundw
          case rel => exact ⟨k + 1, A5, c5, by omega, by go_num, by rw [HST2.out]; simp, Lib.hid (by rw [HST2.out]; simpa using HO4.out), hb4⟩
          case measure => simp [intOf]; omega
      · have HST2 : Hid (partsJ zs S (k + 1) = pj) := Lib.hid (by rw [HST.out, if_neg hp, List.append_nil])
        clear HST
        go_wp2_with fail
        go_roundw
        case rel => exact ⟨k + 1, AO, cO, by omega, by go_num, by rw [HST2.out], Lib.hid (by rw [HST2.out]; exact HO.out), hb⟩
        case measure => simp [intOf]; omega
    · have hke : k = zs.length := by omega
      have HR : Hid (ItemsAt wr (.slice AO (partsJ zs S k).length cO) PL) := Lib.hid (by have := items_of_own HO.out; rw [hke] at this ⊢; rw [HPLS.out] at this ⊢; exact this)
      have hbwr : Below w.heap.size w wr := hbw3.trans (hb.mono hs3)
      have kl0 : ¬ (k : Int) < (zs.length : Int) := by omega
      clear hke
      go_wp2_with fail
      go_ret
      exact ⟨_, rfl, HR.out, hbwr⟩

set_option maxRecDepth 100000 in
set_option maxHeartbeats 4000000 in
theorem rExplode_any {vI vL : Value} {xs : List Iss} {ls : List Int} {w : World} (d : Int) (h : RegAt w vI xs) (hL : IntsAt w vL ls) (hll : ls.length ≤ 9223372036854775807) :
    Calls Try.prog 33 #[.agg #[vI], vL, .int .i64 d] w (ExplP (askE xs ls d) (explL xs ls d) w) := by
  have HAS := Lib.hid (fun W (hW : Below w.heap.size w W) => rAsked_any d (h.after hW) (hL.after hW) hll)
  unfold explL
  by_cases h0 : askE xs ls d = 0
  · obtain ⟨h1, h2, h3⟩ := askE_ok h0
    have K := kit_of h1 h2
    obtain ⟨A, c, b, off, vi, vd, rfl, hA, hc⟩ := h.at_.row
    have HPA := Lib.hid (fun W (hW : Below w.heap.size w W) => rParts_any d K (walkR_of h1 h2 K (h.after hW) hA (hc.after hW) (hL.after hW)) (numbers_strict (layE_ok h1).2.1) (layE_ok h1).2.2.1 h3)
    rw [if_pos h0]
    rw [h0] at HAS ⊢
    have LR := Lib.hid (Lies.made w 24 #[.slice A xs.length c])
    obtain ⟨AL, cL, rfl⟩ := hL.slice
    clear h0 h1 h2 h3 K h hL hA hc
    generalize partsL xs (numbersL xs) (qOf xs (numbersL xs) ls) d = PL at *
    go_enter Try.func33, Try.ntmps33
    go_wp2_with fail
    refine (HAS.out _ (by (repeat' (first | (with_reducible first | exact Below.refl _ _ | assumption | refine Below.alloc ?_ ?_ _ | refine Below.setCell ?_ ?_ _ | refine below_row ?_ ?_ _ | refine Below.drew ?_ | refine below_drewN ?_ _ | refine Below.trans ?_ (Below.mono (by assumption) ?_)) | exact Nat.le_refl _ | omega | (simp; done) | (simp; omega) | exact Below.size (by assumption))))).mono ?_
    rintro e w1 ⟨rfl, hb1⟩
    have s1 := hb1.size; try simp only [World.size_alloc, World.size_setCell, World.size_drew, setRow_size] at s1
    have hbw1 : Below w.heap.size w w1 := by (repeat' (first | (with_reducible first | exact Below.refl _ _ | assumption | refine Below.alloc ?_ ?_ _ | refine Below.setCell ?_ ?_ _ | refine below_row ?_ ?_ _ | refine Below.drew ?_ | refine below_drewN ?_ _ | refine Below.trans ?_ (Below.mono (by assumption) ?_)) | exact Nat.le_refl _ | omega | (simp; done) | (simp; omega) | exact Below.size (by assumption)))
    have LR1 := Lib.hid (LR.out.after hb1)
    have y0 := LR1.out.cell 0
    have zy := LR1.out.lt
    clear hb1
    go_wp2_with fail
    refine (HPA.out _ (by (repeat' (first | (with_reducible first | exact Below.refl _ _ | assumption | refine Below.alloc ?_ ?_ _ | refine Below.setCell ?_ ?_ _ | refine below_row ?_ ?_ _ | refine Below.drew ?_ | refine below_drewN ?_ _ | refine Below.trans ?_ (Below.mono (by assumption) ?_)) | exact Nat.le_refl _ | omega | (simp; done) | (simp; omega) | exact Below.size (by assumption))))).mono ?_
    rintro e w2 ⟨v, rfl, hi, hb2⟩
    have hbw2 : Below w.heap.size w w2 := by (repeat' (first | (with_reducible first | exact Below.refl _ _ | assumption | refine Below.alloc ?_ ?_ _ | refine Below.setCell ?_ ?_ _ | refine below_row ?_ ?_ _ | refine Below.drew ?_ | refine below_drewN ?_ _ | refine Below.trans ?_ (Below.mono (by assumption) ?_)) | exact Nat.le_refl _ | omega | (simp; done) | (simp; omega) | exact Below.size (by assumption)))
    have HI := Lib.hid hi
    obtain ⟨A5, c5, b5, o5, rfl, -⟩ := hi
    go_wp2_with fail
    go_ret2
    exact ⟨_, rfl, HI.out, hbw2⟩
  · rw [if_neg h0]
    have hne : (askE xs ls d != 0) = true := by simpa using h0
    obtain ⟨A, c, rfl⟩ := h.slice
    obtain ⟨AL, cL, rfl⟩ := hL.slice
    clear h0 h hL
    generalize askE xs ls d = ae at *
    go_enter Try.func33, Try.ntmps33
    go_wp2_with fail
    refine (HAS.out _ (by (repeat' (first | (with_reducible first | exact Below.refl _ _ | assumption | refine Below.alloc ?_ ?_ _ | refine Below.setCell ?_ ?_ _ | refine below_row ?_ ?_ _ | refine Below.drew ?_ | refine below_drewN ?_ _ | refine Below.trans ?_ (Below.mono (by assumption) ?_)) | exact Nat.le_refl _ | omega | (simp; done) | (simp; omega) | exact Below.size (by assumption))))).mono ?_
    rintro e w1 ⟨rfl, hb1⟩
    have s1 := hb1.size; try simp only [World.size_alloc, World.size_setCell, World.size_drew, setRow_size] at s1
    go_wp2_with fail
    go_ret2
    exact ⟨_, rfl, ⟨none, 0, 0, 0, rfl, fun h => absurd h (by simp), fun i h => absurd h (by simp)⟩, by (repeat' (first | (with_reducible first | exact Below.refl _ _ | assumption | refine Below.alloc ?_ ?_ _ | refine Below.setCell ?_ ?_ _ | refine below_row ?_ ?_ _ | refine Below.drew ?_ | refine below_drewN ?_ _ | refine Below.trans ?_ (Below.mono (by assumption) ?_)) | exact Nat.le_refl _ | omega | (simp; done) | (simp; omega) | exact Below.size (by assumption)))⟩
end
section
open Go.RowKit

/-- Below B all but block g is as it was. -/
structure KB (g B : Nat) (W W' : World) : Prop where
  os : W'.os = W.os
  tape : W'.tape = W.tape
  output : W'.output = W.output
  size : W.heap.size ≤ W'.heap.size
  block : ∀ k, k < B → k ≠ g → W'.heap[k]? = W.heap[k]?
theorem KB.refl (g B : Nat) (W : World) : KB g B W W := ⟨rfl, rfl, rfl, Nat.le_refl _, fun _ _ _ => rfl⟩
theorem KB.trans {g B : Nat} {a b c : World} (h : KB g B a b) (k : KB g B b c) : KB g B a c := ⟨k.os.trans h.os, k.tape.trans h.tape, k.output.trans h.output, Nat.le_trans h.size k.size, fun i hi hn => (k.block i hi hn).trans (h.block i hi hn)⟩
theorem KB.of {g B : Nat} {W W' : World} (h : Below B W W') : KB g B W W' := ⟨h.os, h.tape, h.output, h.size, fun k hk _ => h.block k hk⟩
theorem KB.below {g B : Nat} {a W W' : World} {b : Nat} (h : Below b a W) (k : KB g B W W') (hg : b ≤ g) (hB : b ≤ B) : Below b a W' := h.trans ⟨k.os, k.tape, k.output, k.size, fun i hi => k.block i (by omega) (by omega)⟩
theorem KB.set {g B : Nat} (W : World) (i : Nat) (u : Value) : KB g B W (W.setCell ⟨g, i, none⟩ u) := ⟨rfl, rfl, rfl, by simp [World.setCell], fun k _ hk => Below.heap_setCell _ _ _ _ hk⟩
theorem KB.grown {g B : Nat} {W W' : World} {base : Nat} {e : TypeId} {size n : Nat} {v : Value} {xs : List Value} (h : W.ownsRow base e size v n xs) (hg : W.grownBy W' v.ownBlock) (hB : B ≤ base) (hs : B ≤ W.heap.size) : KB g B W W' := ⟨hg.os, hg.tape, hg.output, hg.size, fun k hk _ => hg.block k (by omega) (fun e => by have := (h.lt k e.symm).1; omega)⟩
theorem KB.lies {g B : Nat} {W W' : World} (h : KB g B W W') {k : Nat} {t : TypeId} {cs : Array Value} (hl : Lies W k t cs) (hk : k < B) (hn : k ≠ g) : Lies W' k t cs := (h.block k hk hn).trans hl
def cellsB (l : List (Int × Int × Int × Int)) : List Value := l.flatMap fun b => [.int .i64 b.1, .int .i64 b.2.1, .int .i64 b.2.2.1, .int .i64 b.2.2.2]
theorem cellsB_len (l : List (Int × Int × Int × Int)) : (cellsB l).length = l.length * 4 := by
  induction l with
  | nil => rfl
  | cons x r ih => unfold cellsB at *; simp only [List.flatMap_cons, List.length_append, ih, List.length_cons, List.length_nil]; omega
theorem cellsB_at {l : List (Int × Int × Int × Int)} {i t : Nat} (h : i < l.length) (ht : t < 4) : (cellsB l)[i * 4 + t]? = [.int .i64 (l[i].1), .int .i64 (l[i].2.1), .int .i64 (l[i].2.2.1), .int .i64 (l[i].2.2.2)][t]? := by
  induction l generalizing i with
  | nil => simp at h
  | cons x r ih =>
    cases i with
    | zero =>
      show ([.int .i64 x.1, .int .i64 x.2.1, .int .i64 x.2.2.1, .int .i64 x.2.2.2] ++ cellsB r)[0 * 4 + t]? = _
      rw [List.getElem?_append_left (by simp; omega), Nat.zero_mul, Nat.zero_add]; rfl
    | succ i =>
      show ([.int .i64 x.1, .int .i64 x.2.1, .int .i64 x.2.2.1, .int .i64 x.2.2.2] ++ cellsB r)[(i + 1) * 4 + t]? = _
      rw [List.getElem?_append_right (by simp; omega)]
      have := ih (i := i) (by simpa using h)
      have e : (i + 1) * 4 + t - [Value.int .i64 x.1, Value.int .i64 x.2.1, Value.int .i64 x.2.2.1, Value.int .i64 x.2.2.2].length = i * 4 + t := by simp; omega
      rw [e, this]; rfl
theorem cellsB_app (a b : List (Int × Int × Int × Int)) : cellsB (a ++ b) = cellsB a ++ cellsB b := by simp [cellsB]
theorem branches_of_own {w : World} {base : Nat} {v : Value} {l : List (Int × Int × Int × Int)} (h : w.ownsRow base 103 4 v l.length (cellsB l)) : BranchesAt w v l := by
  obtain ⟨A, c, g, hv, hc⟩ := own_form h
  refine ⟨A, c, g, 0, hv, fun h0 => (hc h0).2.1, fun i hi => ?_⟩
  obtain ⟨-, -, cur, hl, hcur⟩ := hc (by omega)
  have ht : ∀ t, t < 4 → w.cell? ⟨g, 0 + i * 4 + t, none⟩ = [.int .i64 (l[i].1), .int .i64 (l[i].2.1), .int .i64 (l[i].2.2.1), .int .i64 (l[i].2.2.2)][t]? := fun t ht => by
    rw [hl.cell, Nat.zero_add, hcur _ (by omega), cellsB_at hi ht]
  exact ⟨ht 0 (by omega), ht 1 (by omega), ht 2 (by omega), ht 3 (by omega)⟩
theorem infoB : (Try.prog.info? 103).map (fun i => (i.zero, i.size, i.bytes)) = some (some (.agg #[.int .i64 0, .int .i64 0, .int .i64 0, .int .i64 0]), 4, 32) := by kernel_rfl
theorem tree_step {xs : List Iss} {q : Int → Nat} {k : Nat} {dep d c : Int} {il : List (Int × Int)} {dx lx : Int} (hi : (xs.getD (q d) zeroI).items = il) (hd : (xs.getD (q d) zeroI).d = dx) (hl : (xs.getD (q d) zeroI).l = lx) :
    treeL xs q (k + 1) dep d c = (dep, dx, lx, c) :: il.flatMap fun y => treeL xs q k (dep + 1) y.1 y.2 := by
  rw [treeL, hi, hd, hl]
/-- The branches behind j items. -/
def treeJ (xs : List Iss) (q : Int → Nat) (k : Nat) (dep : Int) (b : Int × Int × Int × Int) (il : List (Int × Int)) (l : List (Int × Int × Int × Int)) (j : Nat) : List (Int × Int × Int × Int) := l ++ b :: (il.take j).flatMap fun y => treeL xs q k (dep + 1) y.1 y.2
theorem treeJ_step {xs : List Iss} {q : Int → Nat} {k : Nat} {dep : Int} {b : Int × Int × Int × Int} {il : List (Int × Int)} {l : List (Int × Int × Int × Int)} {j : Nat} (h : j < il.length) : treeJ xs q k dep b il l (j + 1) = treeJ xs q k dep b il l j ++ treeL xs q k (dep + 1) il[j].1 il[j].2 := by
  unfold treeJ
  rw [flat_step h]; simp
theorem treeJ_len {xs : List Iss} {q : Int → Nat} {k : Nat} {dep : Int} {b : Int × Int × Int × Int} {il : List (Int × Int)} {l : List (Int × Int × Int × Int)} {j : Nat} (h : ∀ it ∈ il, ∀ dep c, (treeL xs q k dep it.1 c).length ≤ tlb k) : (treeJ xs q k dep b il l j).length ≤ l.length + 1 + j * tlb k := by
  unfold treeJ
  rw [List.length_append, List.length_cons]
  have h1 := flat_len (l := il.take j) (f := fun y => treeL xs q k (dep + 1) y.1 y.2) (n := tlb k) (fun it hit => h it (List.mem_of_mem_take hit) _ _)
  have h2 : (il.take j).length * tlb k ≤ j * tlb k := Nat.mul_le_mul_right _ (List.length_take_le _ _)
  omega

set_option maxRecDepth 100000 in
set_option maxHeartbeats 8000000 in
theorem grow_any {w : World} {xs : List Iss} {zs : List Int} {q rk : Int → Nat} {vi vd : Nat → Value} {v0 v1 v2 v3 : Value} (g1 g2 g3 B : Nat) (K : Kit xs zs q rk) (hW : Walk w (.agg #[v0, v1, v2, v3]) xs zs q vi vd) (hg : w.heap.size ≤ g2) (hB1 : g1 < B) (hB2 : g2 < B) (hB3 : g3 < B) (hn12 : g1 ≠ g2) (hn32 : g3 ≠ g2) (hwB : w.heap.size ≤ B) :
    ∀ (k : Nat) (dep d c : Int) (W : World) (l : List (Int × Int × Int × Int)) (AO : Option Addr) (cO : Nat), d ∈ zs → rk d ≤ k → 0 ≤ dep → dep ≤ 100 - k → l.length + tlb k ≤ 900000 → B ≤ W.heap.size → Below w.heap.size w W → Lies W g1 130 #[v0, v1, v2, v3] → Lies W g2 61 #[.slice AO l.length cO] →
      Lies W g3 137 #[.func (.func 78) #[] #[.pointer (some ⟨g1, 0, none⟩), .pointer (some ⟨g2, 0, none⟩), .pointer (some ⟨g3, 0, none⟩)]] → W.ownsRow B 103 4 (.slice AO l.length cO) l.length (cellsB l) →
      Calls Try.prog 78 #[.int .i64 dep, .agg #[.int .i64 d, .int .i64 c], .pointer (some ⟨g1, 0, none⟩), .pointer (some ⟨g2, 0, none⟩), .pointer (some ⟨g3, 0, none⟩)] W fun e w' => (∃ v, e = .returned v) ∧ (∃ (A' : Option Addr) (c' : Nat), Lies w' g2 61 #[.slice A' (l ++ treeL xs q k dep d c).length c'] ∧ w'.ownsRow B 103 4 (.slice A' (l ++ treeL xs q k dep d c).length c') (l ++ treeL xs q k dep d c).length (cellsB (l ++ treeL xs q k dep d c))) ∧ KB g2 B W w' := by
  obtain ⟨i0, hi0, hz0, hz1, hz2⟩ := info_parts infoB
  intro k
  induction k with
  | zero =>
    intro dep d c W l AO cO hd hr
    have := K.pos d hd
    omega
  | succ k ih =>
    intro dep d c W l AO cO hd hr hdep0 hdep1 hln hBW hb L1 L2 L3 hO
    obtain ⟨h1, h2, h3⟩ := K.itm hd
    have HCL := Lib.hid (hW.call d hd)
    obtain ⟨Ai, ci, bi, oi, hvi, hAi, hci⟩ := hW.items d hd
    obtain ⟨A2, n2, c2, hvd⟩ := hW.dims d hd
    rw [hvi, hvd] at HCL
    have HX : Hid (∃ il dx lx, (xs.getD (q d) zeroI).items = il ∧ (xs.getD (q d) zeroI).d = dx ∧ (xs.getD (q d) zeroI).l = lx) := Lib.hid ⟨_, _, _, rfl, rfl, rfl⟩
    obtain ⟨il, dx, lx, hil, hdx, hlx⟩ := HX.out
    have HTS := Lib.hid (tree_step (k := k) (dep := dep) (c := c) hil hdx hlx)
    rw [hil] at h1 h3 HCL hAi hci
    rw [hdx, hlx] at HCL
    have HLEN := Lib.hid (fun (b : Int × Int × Int × Int) j => treeJ_len (xs := xs) (q := q) (k := k) (dep := dep) (b := b) (il := il) (l := l) (j := j) (fun it hit dep c => tree_len K k it.1 (h3 it hit).1.1 dep c))
    have H3 := Lib.hid h3
    have HAI := Lib.hid hAi
    have HCI := Lib.hid hci
    have htlb : tlb (k + 1) = 1 + 8 * tlb k := rfl
    rw [htlb] at hln
    have hbm := hb.size
    have M1 := Lib.hid L1
    have M2 := Lib.hid L2
    have M3 := Lib.hid L3
    have HO := Lib.hid hO
    have HIH := Lib.hid ih
    have d0 := L1.cell 0
    have d1 := L1.cell 1
    have d2 := L1.cell 2
    have d3 := L1.cell 3
    have zl := L1.lt
    clear h2 h3 hAi hci hW ih L1 L2 L3 hO hvi hvd HX hil hdx hlx htlb
    generalize (xs.getD (q d) zeroI).k = kx at *
    go_enter Try.func78, Try.ntmps78
    go_wp2_with fail
    refine (HCL.out _ (by (repeat' (first | (with_reducible first | exact Below.refl _ _ | assumption | refine Below.alloc ?_ ?_ _ | refine Below.setCell ?_ ?_ _ | refine below_row ?_ ?_ _ | refine Below.drew ?_ | refine below_drewN ?_ _ | refine Below.trans ?_ (Below.mono (by assumption) ?_)) | exact Nat.le_refl _ | omega | (simp; done) | (simp; omega) | exact Below.size (by assumption))))).mono ?_
    rintro e w1 ⟨rfl, hb1⟩
    have s1 := hb1.size; try simp only [World.size_alloc, World.size_setCell, World.size_drew, setRow_size] at s1
    have hbW1 : Below W.heap.size W w1 := ((Below.refl W.heap.size W).alloc (Nat.le_refl _) _).trans (hb1.mono (by simp))
    have MB1 := Lib.hid ((Lies.made W 52 #[.int .i64 d, .int .i64 c]).after hb1)
    have g20 := (M2.out.after hbW1).cell 0
    have f20 := (M2.out.after hbW1).free 0
    have z2 := (M2.out.after hbW1).lt
    have b0 := MB1.out.cell 0
    have b1 := MB1.out.cell 1
    have zb1 := MB1.out.lt
    have HO1 := Lib.hid (own_after HO.out hbW1)
    have N2 := Lib.hid (M2.out.after hbW1)
    have hsz1 := hbW1.size
    clear hb1
    go_wp2_with (at_builtin; refine wpList_append_own _ rfl _ _ 61 rfl B 103 i0 (.agg #[.int .i64 0, .int .i64 0, .int .i64 0, .int .i64 0]) 4 32 Try.underlying61 hi0 hz0 hz1 hz2 rfl (by decide) _ _ _ rfl ((HO1.out.alloc _).alloc _) ⟨_, 0, none⟩ 1 1 [.int .i64 dep, .int .i64 dx, .int .i64 lx, .int .i64 c] rfl rfl (World.news_of_block (cs := #[.int .i64 dep, .int .i64 dx, .int .i64 lx, .int .i64 c]) (t := 103) (fr := (0, 0)) (Lies.new (by simp))) (by simp [Value.oneCell']) (by unfold maxLen; omega) (by omega) (by simp; omega) ?_; intro v' w5 hown' hgrow _; have HK5 : Hid (KB g2 B W w5) := Lib.hid ((KB.of (Below.mono (((hbW1).alloc hsz1 _).alloc (by simp; omega) _) (by omega))).trans (KB.grown ((HO1.out.alloc _).alloc _) hgrow (Nat.le_refl _) (by simp; omega))); have N5 := Lib.hid (lies_apart ((N2.out.alloc _).alloc _) ((HO1.out.alloc _).alloc _) (by decide) hgrow); have LX5 := Lib.hid (lies_apart ((Lies.made w1 45 #[.int .i64 dx, .int .i64 lx, .int .u8 kx, .slice Ai il.length ci, .slice A2 n2 c2]).alloc _) ((HO1.out.alloc _).alloc _) (by decide) hgrow); have HO5 := Lib.hid hown'; obtain ⟨A5, c5, gg5, rfl, -⟩ := own_form hown'; have f25 := N5.out.free 0; have z25 := N5.out.cell 0; have zl25 := N5.out.lt; have x3 := LX5.out.cell 3; have x4 := LX5.out.lt; clear hown' hgrow)
    have n7 : ¬ w1.heap.size = g2 := by omega
    have n8 : ¬ g2 = w1.heap.size := by omega
    have HT0 : Hid (treeJ xs q k dep (dep, dx, lx, c) il l 0 = l ++ [(dep, dx, lx, c)]) := Lib.hid (by simp [treeJ])
    have HTE : Hid (treeJ xs q k dep (dep, dx, lx, c) il l il.length = l ++ treeL xs q (k + 1) dep d c) := Lib.hid (by rw [HTS.out]; unfold treeJ; rw [List.take_length])
    have HO6 : Hid ((w5.setCell ⟨g2, 0, none⟩ (.slice A5 (l.length + 1) c5)).ownsRow B 103 4 (.slice A5 (l.length + 1) c5) (l.length + 1) (cellsB (l ++ [(dep, dx, lx, c)]))) := Lib.hid (by rw [cellsB_app]; exact own_set HO5.out N5.out (by decide) 0 _)
    have HN6 : Hid (Lies (w5.setCell ⟨g2, 0, none⟩ (.slice A5 (l.length + 1) c5)) g2 61 #[.slice A5 (l.length + 1) c5]) := Lib.hid (N5.out.store 0 _)
    have HK6 : Hid (KB g2 B W (w5.setCell ⟨g2, 0, none⟩ (.slice A5 (l.length + 1) c5))) := Lib.hid (HK5.out.trans (KB.set _ _ _))
    clear HTS HO5 N5 HK5 HO1 N2 MB1 g20 f20 z2 b0 b1
    go_wp2_with fail
    go_loopw [28] (fun i wr => ∃ (j : Nat) (A' : Option Addr) (c' : Nat), j ≤ il.length ∧ i = .int .i64 j ∧ Hid (Lies wr g2 61 #[.slice A' (treeJ xs q k dep (dep, dx, lx, c) il l j).length c']) ∧ Hid (wr.ownsRow B 103 4 (.slice A' (treeJ xs q k dep (dep, dx, lx, c) il l j).length c') (treeJ xs q k dep (dep, dx, lx, c) il l j).length (cellsB (treeJ xs q k dep (dep, dx, lx, c) il l j))) ∧ Hid (KB g2 B W wr)) (fun i _ => il.length - (intOf i).toNat)
    case atStart =>
      refine ⟨0, A5, c5, by omega, rfl, ?_, ?_, HK6⟩
      · rw [HT0.out]; simpa using HN6
      · rw [HT0.out]; simpa using HO6
    case round =>
      obtain ⟨j, A', c', hj, rfl, HNj, HOj, HKj⟩ := hrel
      have hbj : Below w.heap.size w wr := HKj.out.below hb hg hwB
      have hzj := HKj.out.size
      have hlj := HLEN.out (dep, dx, lx, c) j
      by_cases hlt : j < il.length
      · obtain rfl := HAI.out (by omega)
        have r0 := cell_keep hbj (HCI.out j hlt).1
        have r1 := cell_keep hbj (HCI.out j hlt).2
        have h3 := H3.out il[j] (List.getElem_mem hlt)
        have HST := Lib.hid (treeJ_step (xs := xs) (q := q) (k := k) (dep := dep) (b := (dep, dx, lx, c)) (l := l) hlt)
        have kl1 : (j : Int) < (il.length : Int) := by omega
        have LJ1 := Lib.hid (HKj.out.lies M1.out hB1 hn12)
        have LJ3 := Lib.hid (HKj.out.lies M3.out hB3 hn32)
        have y3 := LJ3.out.cell 0
        have z3 := LJ3.out.lt
        have HX : Hid (∃ it, il[j] = it) := Lib.hid ⟨_, rfl⟩
        obtain ⟨it, hit⟩ := HX.out
        rw [hit] at r0 r1 h3 HST
        clear hit HX
        obtain ⟨d', c'2⟩ := it
        simp only at r0 r1 h3
        have hj7 : j * tlb k ≤ 7 * tlb k := Nat.mul_le_mul_right _ (by omega)
        have HCALL := Lib.hid (fun W2 (h2 : Below w.heap.size w W2) (hB : B ≤ W2.heap.size) (l1 : Lies W2 g1 130 #[v0, v1, v2, v3]) (l2 : Lies W2 g2 61 #[.slice A' (treeJ xs q k dep (dep, dx, lx, c) il l j).length c'])
          (l3 : Lies W2 g3 137 #[.func (.func 78) #[] #[.pointer (some ⟨g1, 0, none⟩), .pointer (some ⟨g2, 0, none⟩), .pointer (some ⟨g3, 0, none⟩)]]) (ho : W2.ownsRow B 103 4 (.slice A' (treeJ xs q k dep (dep, dx, lx, c) il l j).length c') (treeJ xs q k dep (dep, dx, lx, c) il l j).length (cellsB (treeJ xs q k dep (dep, dx, lx, c) il l j))) =>
          HIH.out (dep + 1) d' c'2 W2 (treeJ xs q k dep (dep, dx, lx, c) il l j) A' c' h3.1.1 (by omega) (by omega) (by omega) (by omega) hB h2 l1 l2 l3 ho)
        have HST2 : Hid ((treeJ xs q k dep (dep, dx, lx, c) il l j) ++ treeL xs q k (dep + 1) d' c'2 = treeJ xs q k dep (dep, dx, lx, c) il l (j + 1)) := Lib.hid HST.out.symm
        rw [HST2.out] at HCALL
        clear HST HST2 h3
        go_wp2_with fail
        refine (HCALL.out _ (by (repeat' (first | (with_reducible first | exact Below.refl _ _ | assumption | refine Below.alloc ?_ ?_ _ | refine Below.setCell ?_ ?_ _ | refine below_row ?_ ?_ _ | refine Below.drew ?_ | refine below_drewN ?_ _ | refine Below.trans ?_ (Below.mono (by assumption) ?_)) | exact Nat.le_refl _ | omega | (simp; done) | (simp; omega) | exact Below.size (by assumption)))) (by simp; omega) (LJ1.out.alloc _) (HNj.out.alloc _) (LJ3.out.alloc _) (HOj.out.alloc _)).mono ?_
        rintro e w6 ⟨⟨v, rfl⟩, ⟨A6, c6, hl6, ho6⟩, hk6⟩
        have HN6 := Lib.hid hl6
        have HO6 := Lib.hid ho6
        have HK6 := Lib.hid ((HKj.out.trans (KB.of ((Below.refl _ _).alloc (by omega) _))).trans hk6)
        clear hl6 ho6 hk6
        go_wp2_with fail
        go_roundw
        case rel => exact ⟨j + 1, A6, c6, by omega, by go_num, HN6, HO6, HK6⟩
        case measure => simp [intOf]; omega
      · have hje : j = il.length := by omega
        subst hje
        rw [HTE.out] at HNj HOj
        have kl0 : ¬ (il.length : Int) < (il.length : Int) := by omega
        go_wp2_with fail
        go_end0
        refine ⟨⟨_, rfl⟩, ⟨A', c', ?_, ?_⟩, HKj.out⟩
        · have := HNj.out; rwa [List.length_append] at this
        · have := HOj.out; rwa [List.length_append] at this
end
section
open Go.RowKit

/-- What Tree tells. -/
def treeE (xs : List Iss) (ls : List Int) (d : Int) : List (Int × Int × Int × Int) × Int :=
  if askE xs ls d ≠ 0 then ([], askE xs ls d) else if 500 < (treeL xs (qOf xs (numbersL xs) ls) 6 0 d 1).length then ([], 4) else (treeL xs (qOf xs (numbersL xs) ls) 6 0 d 1, 0)
def TreeP (r : List (Int × Int × Int × Int) × Int) (w : World) (e : Ending) (w' : World) : Prop := ∃ v, e = .returned (.tuple #[v, .int .i64 r.2]) ∧ BranchesAt w' v r.1 ∧ Below w.heap.size w w'
theorem branches_nil (w : World) : BranchesAt w (.slice none 0 0) [] := ⟨none, 0, 0, 0, rfl, fun h => absurd h (by simp), fun i h => absurd h (by simp)⟩

set_option maxRecDepth 100000 in
set_option maxHeartbeats 8000000 in
theorem sTree_any {vI vL : Value} {xs : List Iss} {ls : List Int} {w : World} (d : Int) (h : RegAt w vI xs) (hL : IntsAt w vL ls) (hll : ls.length ≤ 9223372036854775807) :
    Calls Try.prog 34 #[.agg #[vI], vL, .int .i64 d] w (TreeP (treeE xs ls d) w) := by
  obtain ⟨A, c, b, off, vi, vd, rfl, hA, hc⟩ := h.at_.row
  have HEQ := Lib.hid (fun W (hW : Below w.heap.size w W) => equip_any A c b off vL xs ls d vi vd W (h.after hW) hll hA (hc.after hW) (hL.after hW))
  have HC := Lib.hid hc
  obtain ⟨AL, cL, rfl⟩ := hL.slice
  unfold treeE
  by_cases h0 : askE xs ls d = 0
  · obtain ⟨h1, h2, h3⟩ := askE_ok h0
    have K := kit_of h1 h2
    have HK := Lib.hid K
    have HWK := Lib.hid (fun w1 vN vD vC (hb : Below w.heap.size w w1) (hD : DeskAt w1 xs vN vD) (hC : ChosenAt w1 vC xs vi vd (numbersL xs) ls) => walk_of (A := A) (c := c) h1 h2 K hb HC.out hD hC)
    rw [if_neg (by simpa using h0)]
    unfold EquipP at HEQ
    rw [h0] at HEQ
    have HEQ2 : Hid (∀ W, Below w.heap.size w W → Calls Try.prog 73 #[.agg #[.slice A xs.length c], .slice AL ls.length cL, .int .i64 d] W fun e w' => (∃ vN vD vC, e = .returned (.tuple #[.agg #[.slice A xs.length c, vN, vD, vC], .int .i64 0]) ∧ DeskAt w' xs vN vD ∧ ChosenAt w' vC xs vi vd (numbersL xs) ls) ∧ Below W.heap.size W w') :=
      Lib.hid (fun W hW => (HEQ.out W hW).mono (fun e w' ⟨hp, hb⟩ => ⟨hp.elim (fun h => h.2) (fun h => absurd rfl h.1), hb⟩))
    have HDL : Hid (∀ w1 vN vD, DeskAt w1 xs vN vD → (∃ n A c, vN = .slice A n c) ∧ ∃ n A c, vD = .slice A n c) := Lib.hid (fun w1 vN vD hD => ⟨by obtain ⟨A, c, e⟩ := hD.1.slice; exact ⟨_, A, c, e⟩, by obtain ⟨A, c, e⟩ := hD.2.slice; exact ⟨_, A, c, e⟩⟩)
    have HRK := Lib.hid (K.le d h3)
    have HD3 := Lib.hid h3
    have htl := tree_len K 6 d h3 0 1
    have hmf : ∀ (fn : Fn) (first cap : Array Value) (w : World), (Instr.makeFunc fn first cap).run Try.prog w = .ok (.func fn first cap) w := fun _ _ _ _ => rfl
    have HTL : Hid (∃ tl, treeL xs (qOf xs (numbersL xs) ls) 6 0 d 1 = tl) := Lib.hid ⟨_, rfl⟩
    obtain ⟨tl, htle⟩ := HTL.out
    have HTE := Lib.hid htle
    rw [htle] at htl ⊢
    have htl2 : tl.length ≤ 100000 := Nat.le_trans htl (by decide)
    clear HEQ h0 h1 h2 h3 K h hL hA hc HC HTL htle htl
    generalize qOf xs (numbersL xs) ls = q at *
    generalize hr : (if 500 < tl.length then (([] : List (Int × Int × Int × Int)), (4 : Int)) else (tl, 0)) = r
    have HR := Lib.hid hr
    clear hr
    generalize numbersL xs = zs at *
    go_enter Try.func34, Try.ntmps34
    go_wp2_with fail
    refine (HEQ2.out _ (by (repeat' (first | (with_reducible first | exact Below.refl _ _ | assumption | refine Below.alloc ?_ ?_ _ | refine Below.setCell ?_ ?_ _ | refine below_row ?_ ?_ _ | refine Below.drew ?_ | refine below_drewN ?_ _ | refine Below.trans ?_ (Below.mono (by assumption) ?_)) | exact Nat.le_refl _ | omega | (simp; done) | (simp; omega) | exact Below.size (by assumption))))).mono ?_
    rintro e w1 ⟨⟨vN, vD, vC, rfl, hD, hC⟩, hb1⟩
    have s1 := hb1.size; try simp only [World.size_alloc, World.size_setCell, World.size_drew, setRow_size] at s1
    have hbw1 : Below w.heap.size w w1 := by (repeat' (first | (with_reducible first | exact Below.refl _ _ | assumption | refine Below.alloc ?_ ?_ _ | refine Below.setCell ?_ ?_ _ | refine below_row ?_ ?_ _ | refine Below.drew ?_ | refine below_drewN ?_ _ | refine Below.trans ?_ (Below.mono (by assumption) ?_)) | exact Nat.le_refl _ | omega | (simp; done) | (simp; omega) | exact Below.size (by assumption)))
    have HW := Lib.hid (HWK.out w1 vN vD vC hbw1 hD hC)
    obtain ⟨⟨nN, AN, cN, rfl⟩, nD, AD, cD, rfl⟩ := HDL.out _ _ _ hD
    obtain ⟨AC, cC, rfl⟩ := hC.slice
    clear hD hC hb1 HDL HWK HEQ2
    go_wp2_with fail
    obtain ⟨wB, hwB⟩ : ∃ W, (((w1.alloc (.cells #[.slice A xs.length c, .slice AN nN cN, .slice AD nD cD, .slice AC zs.length cC] 130)).alloc (.cells #[.slice none 0 0] 61)).alloc (.cells #[.func (.func 78) #[] #[.pointer (some ⟨w1.heap.size, 0, none⟩), .pointer (some ⟨w1.heap.size + 1, 0, none⟩), .pointer (some ⟨w1.heap.size + 1 + 1, 0, none⟩)]] 137)) = W := ⟨_, rfl⟩
    have hsB : wB.heap.size = w1.heap.size + 3 := by rw [← hwB]; simp
    have M1 : Lies wB w1.heap.size 130 #[.slice A xs.length c, .slice AN nN cN, .slice AD nD cD, .slice AC zs.length cC] := by rw [← hwB]; exact ((Lies.made _ _ _).alloc _).alloc _
    have M2 : Lies wB (w1.heap.size + 1) 61 #[.slice none 0 0] := by rw [← hwB]; exact (Lies.new (by simp)).alloc _
    have M3 : Lies wB (w1.heap.size + 1 + 1) 137 #[.func (.func 78) #[] #[.pointer (some ⟨w1.heap.size, 0, none⟩), .pointer (some ⟨w1.heap.size + 1, 0, none⟩), .pointer (some ⟨w1.heap.size + 1 + 1, 0, none⟩)]] := by rw [← hwB]; exact Lies.new (by simp)
    have hbB : Below w1.heap.size w1 wB := by rw [← hwB]; (repeat' (first | (with_reducible first | exact Below.refl _ _ | assumption | refine Below.alloc ?_ ?_ _ | refine Below.setCell ?_ ?_ _ | refine below_row ?_ ?_ _ | refine Below.drew ?_ | refine below_drewN ?_ _ | refine Below.trans ?_ (Below.mono (by assumption) ?_)) | exact Nat.le_refl _ | omega | (simp; done) | (simp; omega) | exact Below.size (by assumption)))
    have HBB := Lib.hid hbB
    have HSB := Lib.hid hsB
    have HCALL := Lib.hid (grow_any w1.heap.size (w1.heap.size + 1) (w1.heap.size + 1 + 1) (w1.heap.size + 3) HK.out HW.out (by omega) (by omega) (by omega) (by omega) (by omega) (by omega) (by omega) 6 0 d 1 wB [] none 0 HD3.out HRK.out (by omega) (by omega) (by decide) (by omega) hbB M1 M2 M3 (World.ownsRow_nil _ _ _ _))
    rw [hwB]
    clear hwB hsB M1 M2 M3 hbB
    rw [List.nil_append, HTE.out] at HCALL
    refine HCALL.out.mono ?_
    rintro e w2 ⟨⟨v, rfl⟩, ⟨A6, c6, hl6, ho6⟩, hk6⟩
    have hb12 : Below w1.heap.size w1 w2 := hk6.below HBB.out (by omega) (by omega)
    have hbw2 : Below w.heap.size w w2 := hbw1.trans (hb12.mono hbw1.size)
    have g0 := hl6.cell 0
    have zg := hl6.lt
    have HBR := Lib.hid (branches_of_own ho6)
    clear hl6 ho6 hk6 HCALL HBB HSB HW
    by_cases h5 : 500 < tl.length
    · have HR2 : Hid (r = ([], 4)) := Lib.hid (by rw [← HR.out, if_pos h5])
      have h5' : (500 : Int) < (tl.length : Int) := by omega
      go_wp2_with fail
      go_ret2
      exact ⟨.slice none 0 0, by rw [HR2.out]; rfl, by rw [HR2.out]; exact branches_nil _, hbw2⟩
    · have HR2 : Hid (r = (tl, 0)) := Lib.hid (by rw [← HR.out, if_neg h5])
      have h5' : ¬ (500 : Int) < (tl.length : Int) := by omega
      go_wp2_with fail
      go_ret2
      exact ⟨.slice A6 tl.length c6, by rw [HR2.out]; rfl, by rw [HR2.out]; exact HBR.out, hbw2⟩
  · rw [if_pos h0]
    have HEQ2 : Hid (∀ W, Below w.heap.size w W → Calls Try.prog 73 #[.agg #[.slice A xs.length c], .slice AL ls.length cL, .int .i64 d] W fun e w' => e = .returned (.tuple #[zOut, .int .i64 (askE xs ls d)]) ∧ Below W.heap.size W w') :=
      Lib.hid (fun W hW => (HEQ.out W hW).mono (fun e w' ⟨hp, hb⟩ => ⟨hp.elim (fun h => absurd h.1 h0) (fun h => h.2), hb⟩))
    have hne : (askE xs ls d != 0) = true := by simpa using h0
    clear HEQ h0 h hL hA hc HC
    generalize askE xs ls d = ae at *
    go_enter Try.func34, Try.ntmps34
    go_wp2_with fail
    refine (HEQ2.out _ (by (repeat' (first | (with_reducible first | exact Below.refl _ _ | assumption | refine Below.alloc ?_ ?_ _ | refine Below.setCell ?_ ?_ _ | refine below_row ?_ ?_ _ | refine Below.drew ?_ | refine below_drewN ?_ _ | refine Below.trans ?_ (Below.mono (by assumption) ?_)) | exact Nat.le_refl _ | omega | (simp; done) | (simp; omega) | exact Below.size (by assumption))))).mono ?_
    rintro e w1 ⟨rfl, hb1⟩
    have s1 := hb1.size; try simp only [World.size_alloc, World.size_setCell, World.size_drew, setRow_size] at s1
    go_wp2_with fail
    go_ret2
    exact ⟨_, rfl, branches_nil _, by (repeat' (first | (with_reducible first | exact Below.refl _ _ | assumption | refine Below.alloc ?_ ?_ _ | refine Below.setCell ?_ ?_ _ | refine below_row ?_ ?_ _ | refine Below.drew ?_ | refine below_drewN ?_ _ | refine Below.trans ?_ (Below.mono (by assumption) ?_)) | exact Nat.le_refl _ | omega | (simp; done) | (simp; omega) | exact Below.size (by assumption)))⟩
end
end Go.Proofs.Ytkjfceajakhlfaa
