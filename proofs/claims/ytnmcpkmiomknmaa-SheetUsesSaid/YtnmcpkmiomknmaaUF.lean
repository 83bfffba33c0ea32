/- The reference: Over, Above. -/
import Derived.Test.YtnmcpkmiomknmaaUB
import Derived.Test.YtnmcpkmiomknmaaLJ
namespace Go.Proofs.Ytnmcpkmiomknmaa
set_option linter.unusedVariables false
set_option linter.unusedSimpArgs false
open Go.RowKit

def rowB (l : List Bool) : Array Value := (l.map fun x => Value.bool x).toArray
theorem rowB_at {l : List Bool} {i : Nat} (h : i < l.length) : (rowB l)[i]? = some (.bool l[i]) := by simp [rowB, h]
theorem rowB_set (l : List Bool) (i : Nat) (x : Bool) : (rowB l).setIfInBounds i (.bool x) = rowB (l.set i x) := by simp [rowB, List.map_set]
theorem infoBo : (Try.prog.info? 4).map (fun i => (i.zero, i.size, i.bytes)) = some (some (.bool false), 1, 1) := by kernel_rfl
theorem makeB (n : Nat) (hn : n ≤ 1000) (W : World) : (Instr.makeSlice 175 (.int .i64 n) (.int .i64 n)).run Try.prog W = .ok (.slice (some ⟨W.heap.size, 0, none⟩) n n) (W.alloc (.cells (rowB (List.replicate n false)) 4)) := by
  obtain ⟨i0, hi, hz0, hz1, hz2⟩ := info_parts infoBo
  have h := run_make (P := Try.prog) W 175 4 i0 (.bool false) Try.underlying175 hi hz0 .i64 .i64 (n : Int) (n : Int) (by omega) (Int.le_refl _) (by rw [hz2]; omega) (by omega)
  rw [h, hz1]
  have e : madeCells (Value.bool false).cells ((n : Int).toNat * 1) = rowB (List.replicate n false) := by
    apply Array.toList_inj.1
    rw [show (Value.bool false).cells = #[Value.bool false] from rfl, toList_madeCells_one]
    simp [rowB]
  rw [e]
  simp
theorem rowZ_at {w : World} {gn p : Nat} {zs : List Int} {B : Int → Bool} {d : Int} (hp : ∃ hp : p < zs.length, zs[p] = d) (h : Lies w gn 4 (rowB (zs.map B))) : w.cell? ⟨gn, p, none⟩ = some (.bool (B d)) := by
  obtain ⟨hpl, hz⟩ := hp
  rw [h.cell, rowB_at (by simpa using hpl)]
  simp [hz]
theorem rowZ_put {w : World} {gn p : Nat} {zs : List Int} {B : Int → Bool} {d : Int} {v : Bool} (hp : ∃ hp : p < zs.length, zs[p] = d) (hn : zs.Pairwise (· < ·)) (h : Lies w gn 4 (rowB (zs.map B))) : Lies (w.setCell ⟨gn, p, none⟩ (.bool v)) gn 4 (rowB (zs.map fun y => if y = d then v else B y)) := by
  obtain ⟨hpl, hz⟩ := hp
  have h2 := h.store p (.bool v)
  rw [rowB_set] at h2
  have e : (zs.map B).set p v = zs.map fun y => if y = d then v else B y := by
    apply List.ext_getElem
    · simp
    · intro i h3 h4
      simp only [List.length_set, List.length_map] at h3
      rw [List.getElem_set, List.getElem_map, List.getElem_map]
      by_cases e : p = i
      · subst e; rw [if_pos rfl, if_pos hz]
      · rw [if_neg e, if_neg]
        intro e2
        have e3 : zs[i] = zs[p] := e2.trans hz.symm
        rcases Nat.lt_or_gt_of_ne e with h5 | h5
        · have := List.pairwise_iff_getElem.1 hn p i hpl h3 h5; omega
        · have := List.pairwise_iff_getElem.1 hn i p h3 hpl h5; omega
  rw [e] at h2
  exact h2
theorem foldI_step {d z : Int} {l : List (Int × Int)} {B : Int → Bool} {j : Nat} (h : j < l.length) : (l.take (j + 1)).foldl (stepI d z) B = stepI d z ((l.take j).foldl (stepI d z) B) l[j] := by
  rw [List.take_succ_eq_append_getElem h, List.foldl_append]; rfl
theorem foldR_step {d : Int} {l : List Iss} {B : Int → Bool} {j : Nat} (h : j < l.length) : (l.take (j + 1)).foldl (stepR d) B = stepR d ((l.take j).foldl (stepR d) B) l[j] := by
  rw [List.take_succ_eq_append_getElem h, List.foldl_append]; rfl

set_option maxRecDepth 100000 in
set_option maxHeartbeats 16000000 in
theorem rOver_any {w : World} {xs : List Iss} {zs : List Int} {q rk : Int → Nat} {vi vd : Nat → Value} {vI vL : Value} (d : Int) (K : Kit xs zs q rk) (hW : WalkR w vI vL xs zs q vi vd) (hst : zs.Pairwise (· < ·)) (hz20 : zs.length ≤ 20) (hrk : ∀ z ∈ zs, rk z ≤ zs.length) :
    Calls Try.prog 87 #[.agg #[vI], vL, .int .i64 d] w fun e w' => ∃ v, e = .returned v ∧ IntsAt w' v (overL xs zs q d) ∧ Below w.heap.size w w' := by
  have HNU := Lib.hid hW.nums
  have HCALL := Lib.hid hW.call
  have HIT := Lib.hid hW.items
  have HDI := Lib.hid hW.dims
  obtain ⟨AI, nI, cI, rfl⟩ := hW.vI_
  obtain ⟨AL, nL, cL, rfl⟩ := hW.vL_
  have HKI := Lib.hid (fun z (hz : z ∈ zs) => K.itm hz)
  have HZD := Lib.hid (fun z (hz : z ∈ zs) => (show (xs.getD (q z) zeroI).d = z by rw [K.get hz]; exact K.d_ z hz _))
  have HOV : Hid (aboveJ zs (inR xs zs q d zs.length) zs.length = overL xs zs q d) := Lib.hid (by
    unfold aboveJ overL
    rw [List.take_length]
    exact List.filter_congr (fun y hy => in_end K hrk hy))
  have HIX := Lib.hid (fun v t W (hW : IntsAt W v zs) => rIndex_v t hW (show zs.length ≤ 1000 by omega))
  have HSP := Lib.hid (fun t (ht : t ∈ zs) => idx_spec ht)
  have hmk := makeB zs.length (by omega)
  obtain ⟨i0, hi0, hz0, hz1, hz2⟩ := info_parts infoN
  have HSTR := Lib.hid hst
  have LR := Lib.hid (Lies.made w 24 #[.slice AI nI cI])
  have hchl : Hid ((chosenI xs zs q).length = zs.length) := Lib.hid (by simp [chosenI])
  clear hW hst hrk K
  generalize overL xs zs q d = OL at *
  go_enter Try.func87, Try.ntmps87
  go_wp2_with fail
  refine (HNU.out _ (by (repeat' (first | (with_reducible exact Below.refl _ _) | (with_reducible assumption) | (with_reducible refine Below.alloc ?_ ?_ _) | (with_reducible refine Below.setCell ?_ ?_ _) | (with_reducible refine below_row ?_ ?_ _) | (with_reducible refine Below.drew ?_) | (with_reducible refine below_drewN ?_ _) | (with_reducible refine Below.trans ?_ (Below.mono (by assumption) ?_)) | (first | exact Nat.le_refl _ | omega | (simp; done) | (simp; omega) | (exact Below.size (by assumption))))))).mono ?_
  rintro e w1 ⟨v, rfl, hown, hb1⟩
  have s1 := hb1.size; try simp only [World.size_alloc, World.size_setCell, World.size_drew, setRow_size] at s1
  have hbw1 : Below w.heap.size w w1 := by (repeat' (first | (with_reducible exact Below.refl _ _) | (with_reducible assumption) | (with_reducible refine Below.alloc ?_ ?_ _) | (with_reducible refine Below.setCell ?_ ?_ _) | (with_reducible refine below_row ?_ ?_ _) | (with_reducible refine Below.drew ?_) | (with_reducible refine below_drewN ?_ _) | (with_reducible refine Below.trans ?_ (Below.mono (by assumption) ?_)) | (first | exact Nat.le_refl _ | omega | (simp; done) | (simp; omega) | (exact Below.size (by assumption)))))
  have hs1 := hbw1.size
  have LR1 := Lib.hid (fun W (hW : Below w1.heap.size w1 W) => (LR.out.after hb1).after hW)
  have zr1 := (LR1.out w1 (Below.refl _ _)).lt
  have HI1 := Lib.hid (fun W (hW : Below w1.heap.size w1 W) => (ints_of_own hown).after hW)
  obtain ⟨A6, c6, b6, o6, rfl, hA6, hc6⟩ := ints_of_own hown
  have HA6 := Lib.hid hA6
  have HC6 := Lib.hid (fun W (hW : Below w1.heap.size w1 W) i (h : i < zs.length) => cell_keep hW (hc6 i h))
  clear hown hb1 HNU hA6 hc6
  have HG1 : Hid (Lies (w1.alloc (.cells (rowB (List.replicate zs.length false)) 4)) w1.heap.size 4 (rowB (zs.map (inR xs zs q d 0)))) := Lib.hid (by
    have e : zs.map (inR xs zs q d 0) = List.replicate zs.length false := by unfold inR; rw [List.map_const']
    rw [e]; exact Lies.made _ _ _)
  go_wp2_with fail
  go_loopw [9] (fun i wr => ∃ n : Nat, n ≤ zs.length ∧ i = .int .i64 n ∧ Hid (Lies wr w1.heap.size 4 (rowB (zs.map (inR xs zs q d n)))) ∧ Below w1.heap.size w1 wr) (fun i _ => zs.length - (intOf i).toNat)
  case atStart => exact ⟨0, by omega, rfl, HG1, by (repeat' (first | (with_reducible exact Below.refl _ _) | (with_reducible assumption) | (with_reducible refine Below.alloc ?_ ?_ _) | (with_reducible refine Below.setCell ?_ ?_ _) | (with_reducible refine below_row ?_ ?_ _) | (with_reducible refine Below.drew ?_) | (with_reducible refine below_drewN ?_ _) | (with_reducible refine Below.trans ?_ (Below.mono (by assumption) ?_)) | (first | exact Nat.le_refl _ | omega | (simp; done) | (simp; omega) | (exact Below.size (by assumption)))))⟩
  case round =>
    obtain ⟨n, hn, rfl, HGn, hbn⟩ := hrel
    have hzn := hbn.size
    have zgn := HGn.out.lt
    by_cases hnl : n < zs.length
    · have kn1 : (n : Int) < (zs.length : Int) := by omega
      go_wp2_with fail
      go_loopw [10] (fun i wr => ∃ j : Nat, j ≤ zs.length ∧ i = .int .i64 j ∧ Hid (Lies wr w1.heap.size 4 (rowB (zs.map (((chosenI xs zs q).take j).foldl (stepR d) (inR xs zs q d n))))) ∧ Below w1.heap.size w1 wr) (fun i _ => zs.length - (intOf i).toNat)
      case atStart => exact ⟨0, by omega, rfl, HGn, hbn⟩
      case round =>
        obtain ⟨j, hj, rfl, HGj, hbj⟩ := hrel
        have hzj := hbj.size
        have zgj := HGj.out.lt
        by_cases hlt : j < zs.length
        · obtain rfl := HA6.out (by omega)
          have hjc : j < (chosenI xs zs q).length := by rw [hchl.out]; exact hlt
          have HST := Lib.hid (foldR_step (d := d) (B := inR xs zs q d n) hjc)
          have hcj : (chosenI xs zs q)[j] = xs.getD (q zs[j]) zeroI := by simp [chosenI]
          rw [hcj] at HST
          have hzm := List.getElem_mem hlt
          have hki := HKI.out zs[j] hzm
          have hzd := HZD.out zs[j] hzm
          obtain ⟨Ai, ci, bi, oi, hvi, hAi, hci⟩ := HIT.out zs[j] hzm
          obtain ⟨A2, n2, c2, hvd⟩ := HDI.out zs[j] hzm
          have HCL := Lib.hid (HCALL.out zs[j] hzm)
          have HZK := Lib.hid (fun W (hW : Below w1.heap.size w1 W) => HC6.out W hW j hlt)
          have HPZ : Hid (∃ hp : j < zs.length, zs[j] = zs[j]) := Lib.hid ⟨hlt, rfl⟩
          rw [hvi, hvd, hzd] at HCL
          have z0 := HZK.out wr hbj
          have kl1 : (j : Int) < (zs.length : Int) := by omega
          have HSJ : Hid (∃ B : Int → Bool, ((chosenI xs zs q).take j).foldl (stepR d) (inR xs zs q d n) = B) := Lib.hid ⟨_, rfl⟩
          obtain ⟨B, hB⟩ := HSJ.out
          rw [hB] at HGj HST
          have HX : Hid (∃ il, (xs.getD (q zs[j]) zeroI).items = il) := Lib.hid ⟨_, rfl⟩
          obtain ⟨il, hil⟩ := HX.out
          rw [hil] at hki hAi hci HCL
          have HSR : Hid (stepR d B (xs.getD (q zs[j]) zeroI) = (il.take il.length).foldl (stepI d zs[j]) B) := Lib.hid (by unfold stepR; rw [hil, hzd, List.take_length])
          have HKJ := Lib.hid hki
          have hil8 : il.length ≤ 8 := hki.1
          have HAI := Lib.hid hAi
          have HCI := Lib.hid hci
          have d0 := (LR1.out wr hbj).cell 0
          have n1 : ¬ wr.heap.size = w.heap.size := by omega
          have n2' : ¬ w.heap.size = wr.heap.size := by omega
          have n3 : ¬ b6 = wr.heap.size := by have := World.block_lt_of_cell? wr _ z0; simp only at this; omega
          clear hcj hzm hki hvi hAi hci hvd hzd hB HSJ HX hil
          generalize (xs.getD (q zs[j]) zeroI).l = lx at *
          generalize (xs.getD (q zs[j]) zeroI).k = kx at *
          generalize xs.getD (q zs[j]) zeroI = x at *
          generalize hzj0 : zs[j] = zj at *
          have HPZ2 : Hid (∃ hp : j < zs.length, zs[j] = zj) := Lib.hid ⟨hlt, hzj0⟩
          clear hzj0 HPZ
          go_upto_region 9 with fail
          go_cut [11] (fun s11 wx => ∃ (g : Nat), s11 = .pointer (some ⟨g, 0, none⟩) ∧ Hid (Lies wx g 45 #[.int .i64 zj, .int .i64 lx, .int .u8 kx, .slice Ai il.length ci, .slice A2 n2 c2]) ∧ Hid (Lies wx w1.heap.size 4 (rowB (zs.map B))) ∧ w1.heap.size < g ∧ Below w1.heap.size w1 wx)
          case first =>
            go_region_held3 (fun W => W.cell? ⟨w.heap.size, 0, none⟩ = some (.slice AI nI cI) ∧ W.cell? ⟨b6, o6 + j, none⟩ = some (.int .i64 zj)) (first | (((try dsimp only); (with_reducible refine ⟨keep_five ?_ ?_, keep_five ?_ ?_⟩); (all_goals first | assumption | (simp only; omega))); done) | go_keep) ((go_at_call 121; refine (HCL.out _ (by first | exact hbw1.trans ((hbj.drew).mono hs1) | exact hbw1.trans (((hbj.drew).alloc hzj _).mono hs1))).mono ?_; rintro e w3 ⟨rfl, hb3⟩; have hbw3 : Below w1.heap.size w1 w3 := (by (repeat' (first | (with_reducible exact Below.refl _ _) | (with_reducible assumption) | (with_reducible refine Below.alloc ?_ ?_ _) | (with_reducible refine Below.setCell ?_ ?_ _) | (with_reducible refine below_row ?_ ?_ _) | (with_reducible refine Below.drew ?_) | (with_reducible refine below_drewN ?_ _) | (with_reducible refine Below.trans ?_ (Below.mono (by assumption) ?_)) | (first | exact Nat.le_refl _ | omega | (simp; done) | (simp; omega) | (exact Below.size (by assumption)))))); have L3 : Lies w3 w.heap.size 24 #[.slice AI nI cI] := LR1.out w3 hbw3; have HG3 : Hid (Lies w3 w1.heap.size 4 (rowB (zs.map B))) := (by first | exact Lib.hid ((HGj.out.drew).after hb3) | exact Lib.hid (((HGj.out.drew).alloc _).after hb3)); have m0 := L3.cell 0; have zm := L3.lt; have q0 := HZK.out w3 hbw3; have s3 := hb3.size; (try simp only [World.size_alloc, World.size_drew] at s3); (first | (have N3 : Lies w3 wr.heap.size 45 #[.int .i64 0, .int .i64 0, .int .u8 0, .slice none 0 0, .slice none 0 0] := (Lies.made wr.drew 45 #[.int .i64 0, .int .i64 0, .int .u8 0, .slice none 0 0, .slice none 0 0]).after hb3; have HN3 := Lib.hid N3; have b0 := N3.cell 0; have b1 := N3.cell 1; have b2 := N3.cell 2; have b3 := N3.cell 3; have b4 := N3.cell 4; have f0 := N3.free 0; have f1 := N3.free 1; have f2 := N3.free 2; have f3 := N3.free 3; have f4 := N3.free 4; have zn := N3.lt) | skip); clear L3 hb3))
            all_goals (rename (_ ∧ _) => HHx; clear HHx)
            all_goals clear q0 m0 z0 d0
            all_goals first
              | (obtain ⟨wz, hwz⟩ : ∃ W, (((((w3.setCell ⟨wr.heap.size, 0, none⟩ (.int .i64 zj)).setCell ⟨wr.heap.size, 1, none⟩ (.int .i64 lx)).setCell ⟨wr.heap.size, 2, none⟩ (.int .u8 kx)).setCell ⟨wr.heap.size, 3, none⟩ (.slice Ai il.length ci)).setCell ⟨wr.heap.size, 4, none⟩ (.slice A2 n2 c2)) = W := ⟨_, rfl⟩; have HZ1 : Hid (Lies wz wr.heap.size 45 #[.int .i64 zj, .int .i64 lx, .int .u8 kx, .slice Ai il.length ci, .slice A2 n2 c2]) := Lib.hid (by rw [← hwz]; exact HN3.out.five _ _ _ _ _); have HZ2 : Hid (Lies wz w1.heap.size 4 (rowB (zs.map B))) := Lib.hid (by rw [← hwz]; exact HG3.out.five_other (by omega) _ _ _ _ _); have hbz : Below w1.heap.size w1 wz := (by rw [← hwz]; exact below_five hbw3 (by omega) _ _ _ _ _); rw [hwz]; clear hwz; clear b0 b1 b2 b3 b4 f0 f1 f2 f3 f4; go_wp2_with fail; go_meet; exact ⟨wr.heap.size, rfl, HZ1, HZ2, by omega, hbz⟩)
              | (go_wp2_with fail; go_meet; exact ⟨w3.heap.size, rfl, Lib.hid (Lies.made _ _ _), Lib.hid (HG3.out.alloc _), by omega, hbw3.alloc hbw3.size _⟩)
          case rest =>
            obtain ⟨g, rfl, LX, HGx, hg, hbx⟩ := hcut
            have HST3 : Hid (((chosenI xs zs q).take (j + 1)).foldl (stepR d) (inR xs zs q d n) = (il.take il.length).foldl (stepI d zj) B) := Lib.hid (by rw [HST.out, HSR.out])
            clear HST HSR z0 d0
            go_wp2_with fail
            go_loopw [12] (fun i wr => ∃ k : Nat, k ≤ il.length ∧ i = .int .i64 k ∧ Hid (Lies wr w1.heap.size 4 (rowB (zs.map ((il.take k).foldl (stepI d zj) B)))) ∧ Hid (Lies wr g 45 #[.int .i64 zj, .int .i64 lx, .int .u8 kx, .slice Ai il.length ci, .slice A2 n2 c2]) ∧ Below w1.heap.size w1 wr) (fun i _ => il.length - (intOf i).toNat)
            case atStart => exact ⟨0, by omega, rfl, HGx, LX, hbx⟩
            case round =>
              obtain ⟨k, hk, rfl, HGk, LXk, hbk⟩ := hrel
              have x3 := LXk.out.cell 3
              have zx := LXk.out.lt
              have zg := HGk.out.lt
              by_cases hlt2 : k < il.length
              · obtain rfl := HAI.out (by omega)
                have r0 := cell_keep (hbw1.trans (hbk.mono hs1)) (HCI.out k hlt2).1
                have r1 := cell_keep (hbw1.trans (hbk.mono hs1)) (HCI.out k hlt2).2
                have hkm := HKJ.out.2.2 il[k] (List.getElem_mem hlt2)
                have HSTI := Lib.hid (foldI_step (d := d) (z := zj) (B := B) hlt2)
                have kk1 : (k : Int) < (il.length : Int) := by omega
                have HIt : Hid (∃ it, il[k] = it) := Lib.hid ⟨_, rfl⟩
                obtain ⟨it, hit⟩ := HIt.out
                rw [hit] at r0 r1 hkm HSTI
                clear hit HIt
                obtain ⟨d', c'⟩ := it
                simp only at r0 r1 hkm
                have HBK : Hid (∃ Bk : Int → Bool, (il.take k).foldl (stepI d zj) B = Bk) := Lib.hid ⟨_, rfl⟩
                obtain ⟨Bk, hBk⟩ := HBK.out
                rw [hBk] at HGk HSTI
                have HS2 : Hid ((il.take (k + 1)).foldl (stepI d zj) B = fun y => if y = zj then Bk zj || d' == d || Bk d' else Bk y) := Lib.hid HSTI.out
                obtain ⟨p, hp, hpz, hix⟩ := HSP.out d' hkm.1.1
                have HIXk := Lib.hid (HIX.out (.slice (some ⟨b6, o6, none⟩) zs.length c6) d' wr (HI1.out wr hbk))
                rw [hix] at HIXk
                have g0 := rowZ_at HPZ2.out HGk.out
                have g1 := rowZ_at hpz HGk.out
                have f0 := HGk.out.free j
                have kp1 : (p : Int) < (zs.length : Int) := by omega
                have HPUT := Lib.hid (fun v => rowZ_put (v := v) HPZ2.out HSTR.out HGk.out)
                have LX2 := Lib.hid (fun v => LXk.out.other (p := ⟨w1.heap.size, j, none⟩) (by show g ≠ w1.heap.size; omega) v)
                have hb2 := fun (v : Value) => hbk.setCell (p := ⟨w1.heap.size, j, none⟩) (Nat.le_refl _) v
                have HB2 := Lib.hid hb2
                clear hBk HBK HSTI hkm hpz hix hb2
                generalize Bk zj = b0 at *
                generalize Bk d' = b2 at *
                cases b0
                · by_cases e : d' = d
                  · have eb : (d' == d) = true := by simpa using e
                    have HS3 : Hid ((il.take (k + 1)).foldl (stepI d zj) B = fun y => if y = zj then true else Bk y) := Lib.hid (by rw [HS2.out, eb]; simp)
                    clear e HS2
                    go_wp2_with fail
                    go_roundw
                    case rel => exact ⟨k + 1, by omega, by go_num, Lib.hid (by rw [HS3.out]; exact HPUT.out true), Lib.hid (LX2.out _), HB2.out _⟩
                    case measure => simp [intOf]; omega
                  · have eb : (d' == d) = false := by simpa using e
                    have HS3 : Hid ((il.take (k + 1)).foldl (stepI d zj) B = fun y => if y = zj then b2 else Bk y) := Lib.hid (by rw [HS2.out, eb]; simp)
                    clear e HS2
                    go_wp2_with fail
                    refine HIXk.out.mono ?_
                    rintro e w9 ⟨rfl, rfl⟩
                    go_wp2_with fail
                    go_roundw
                    case rel => exact ⟨k + 1, by omega, by go_num, Lib.hid (by rw [HS3.out]; exact HPUT.out b2), Lib.hid (LX2.out _), HB2.out _⟩
                    case measure => simp [intOf]; omega
                · have HS3 : Hid ((il.take (k + 1)).foldl (stepI d zj) B = fun y => if y = zj then true else Bk y) := Lib.hid (by rw [HS2.out]; simp)
                  clear HS2
                  go_wp2_with fail
                  go_roundw
                  case rel => exact ⟨k + 1, by omega, by go_num, Lib.hid (by rw [HS3.out]; exact HPUT.out true), Lib.hid (LX2.out _), HB2.out _⟩
                  case measure => simp [intOf]; omega
              · have hke : k = il.length := by omega
                have HG9 : Hid (Lies wr w1.heap.size 4 (rowB (zs.map (((chosenI xs zs q).take (j + 1)).foldl (stepR d) (inR xs zs q d n))))) := Lib.hid (by rw [HST3.out]; have := HGk.out; rwa [hke] at this)
                clear HGk
                subst hke
                have kl0 : ¬ (il.length : Int) < (il.length : Int) := by omega
                go_wp2_with fail
                go_roundw
                case rel => exact ⟨j + 1, by omega, by go_num, HG9, hbk⟩
                case measure => simp [intOf]; omega
        · have hje : j = zs.length := by omega
          have HG9 : Hid (Lies wr w1.heap.size 4 (rowB (zs.map (inR xs zs q d (n + 1))))) := Lib.hid (by have := HGj.out; rw [hje, ← hchl.out, List.take_length] at this; exact this)
          clear HGj
          subst hje
          have kl0 : ¬ (zs.length : Int) < (zs.length : Int) := by omega
          go_wp2_with fail
          go_roundw
          case rel => exact ⟨n + 1, by omega, by go_num, HG9, hbj⟩
          case measure => simp [intOf]; omega
    · have hne : n = zs.length := by omega
      have HSS : Hid (∃ B : Int → Bool, inR xs zs q d zs.length = B) := Lib.hid ⟨_, rfl⟩
      obtain ⟨B, hB⟩ := HSS.out
      rw [hne, hB] at HGn
      rw [hB] at HOV
      clear hB HSS HCALL HIT HDI HKI HZD HIX HSP
      subst hne
      have hbw : Below w.heap.size w wr := hbw1.trans (hbn.mono hs1)
      obtain ⟨wq, rfl⟩ : ∃ wq : World, wq = wr := ⟨_, rfl⟩
      have kn0 : ¬ (zs.length : Int) < (zs.length : Int) := by omega
      have hzq : w1.heap.size ≤ wq.heap.size := hzn
      have HGW := Lib.hid (fun W (hW : Below wq.heap.size wq W) => HGn.out.after hW)
      go_wp2_with fail
      go_loopw [13, 14] (fun v i wr => ∃ (k : Nat) (AO : Option Addr) (cO : Nat), k ≤ zs.length ∧ i = .int .i64 k ∧ v = .slice AO (aboveJ zs B k).length cO ∧ Hid (wr.ownsRow wq.heap.size 3 1 (.slice AO (aboveJ zs B k).length cO) (aboveJ zs B k).length (cellsN (aboveJ zs B k))) ∧ Below wq.heap.size wq wr) (fun _ i _ => zs.length - (intOf i).toNat)
      case atStart => exact ⟨0, none, 0, by omega, rfl, rfl, Lib.hid (World.ownsRow_nil _ _ _ _), Below.refl _ _⟩
      case round =>
        obtain ⟨k, AO, cO, hk, rfl, rfl, HO, hbk⟩ := hrel
        have hzk := hbk.size
        have hle := aboveJ_le zs B k
        by_cases hlt : k < zs.length
        · obtain rfl := HA6.out (by omega)
          have z0 := HC6.out wr (hbn.trans (hbk.mono hzq)) k hlt
          have g0 := rowZ_at ⟨hlt, rfl⟩ (HGW.out wr hbk)
          have HST := Lib.hid (aboveJ_step (B := B) hlt)
          have kl1 : (k : Int) < (zs.length : Int) := by omega
          generalize zs[k] = zk at *
          generalize B zk = bk at *
          generalize aboveJ zs B k = aj at *
          cases bk
          · have HST3 : Hid (aboveJ zs B (k + 1) = aj) := Lib.hid (by rw [HST.out]; simp)
            go_wp2_with fail
            go_roundw
            case rel => exact ⟨k + 1, AO, cO, by omega, by go_num, by rw [HST3.out], Lib.hid (by rw [HST3.out]; exact HO.out), hbk⟩
            case measure => simp [intOf]; omega
          · have HST3 : Hid (aboveJ zs B (k + 1) = aj ++ [zk]) := Lib.hid (by rw [HST.out]; simp)
            go_wp2_with (at_builtin; refine wpList_append_own _ rfl _ _ 29 rfl wq.heap.size 3 i0 (.int .i64 0) 1 8 Try.underlying29 hi0 hz0 hz1 hz2 rfl (by decide) _ _ _ rfl (HO.out.alloc _) ⟨_, 0, none⟩ 1 1 [.int .i64 zk] rfl rfl (World.news_of_block (cs := #[.int .i64 zk]) (t := 3) (fr := (0, 0)) (Lies.new (by simp))) (by simp [Value.oneCell']) (by unfold maxLen; omega) (by omega) (by simp; omega) ?_; intro v' w8 hown' hgrow _; have HB8 := Lib.hid (below_own (w0 := wq) (B := wq.heap.size) (by (repeat' (first | (with_reducible exact Below.refl _ _) | (with_reducible assumption) | (with_reducible refine Below.alloc ?_ ?_ _) | (with_reducible refine Below.setCell ?_ ?_ _) | (with_reducible refine below_row ?_ ?_ _) | (with_reducible refine Below.drew ?_) | (with_reducible refine below_drewN ?_ _) | (with_reducible refine Below.trans ?_ (Below.mono (by assumption) ?_)) | (first | exact Nat.le_refl _ | omega | (simp; done) | (simp; omega) | (exact Below.size (by assumption)))))) (HO.out.alloc (.cells #[.int .i64 zk] 3)) hgrow (Nat.le_refl _) (by simp; omega)); have HO8 := Lib.hid hown'; obtain ⟨A8, c8, g8, rfl, -⟩ := own_form hown'; clear hown' hgrow)
            go_roundw
            case rel => exact ⟨k + 1, A8, c8, by omega, by go_num, by rw [HST3.out]; simp, Lib.hid (by rw [HST3.out]; have := HO8.out; simpa [cellsN] using this), HB8.out⟩
            case measure => simp [intOf]; omega
        · have hke : k = zs.length := by omega
          subst hke
          have HI := Lib.hid (ints_of_own HO.out)
          rw [HOV.out] at HI ⊢
          have hbwk : Below w.heap.size w wr := hbw.trans (hbk.mono hbw.size)
          go_wp2_with fail
          go_ret
          exact ⟨.slice AO OL.length cO, rfl, HI.out, hbwk⟩

set_option maxRecDepth 100000 in
set_option maxHeartbeats 4000000 in
theorem rAbove_any {vI vL : Value} {xs : List Iss} {ls : List Int} {w : World} (d : Int) (h : RegAt w vI xs) (hL : IntsAt w vL ls) (hll : ls.length ≤ 9223372036854775807) :
    Calls Try.prog 41 #[.agg #[vI], vL, .int .i64 d] w (AboveP (aboveE xs ls d) w) := by
  have HAS := Lib.hid (fun W (hW : Below w.heap.size w W) => rAsked_any d (h.after hW) (hL.after hW) hll)
  unfold aboveE
  by_cases h0 : askE xs ls d = 0
  · obtain ⟨h1, h2, h3⟩ := askE_ok h0
    have K := kit_of h1 h2
    obtain ⟨A, c, b, off, vi, vd, rfl, hA, hc⟩ := h.at_.row
    have HPA := Lib.hid (fun W (hW : Below w.heap.size w W) => rOver_any d K (walkR_of h1 h2 K (h.after hW) hA (hc.after hW) (hL.after hW)) (numbers_strict (layE_ok h1).2.1) (layE_ok h1).2.2.1 (fun z hz => rk_len z hz))
    rw [if_neg (by simpa using h0)]
    rw [h0] at HAS
    have LR := Lib.hid (Lies.made w 24 #[.slice A xs.length c])
    obtain ⟨AL, cL, rfl⟩ := hL.slice
    clear h0 h1 h2 h3 K h hL hA hc
    generalize overL xs (numbersL xs) (qOf xs (numbersL xs) ls) d = OL at *
    go_enter Try.func41, Try.ntmps41
    go_wp2_with fail
    refine (HAS.out _ (by (repeat' (first | (with_reducible exact Below.refl _ _) | (with_reducible assumption) | (with_reducible refine Below.alloc ?_ ?_ _) | (with_reducible refine Below.setCell ?_ ?_ _) | (with_reducible refine below_row ?_ ?_ _) | (with_reducible refine Below.drew ?_) | (with_reducible refine below_drewN ?_ _) | (with_reducible refine Below.trans ?_ (Below.mono (by assumption) ?_)) | (first | exact Nat.le_refl _ | omega | (simp; done) | (simp; omega) | (exact Below.size (by assumption))))))).mono ?_
    rintro e w1 ⟨rfl, hb1⟩
    have s1 := hb1.size; try simp only [World.size_alloc, World.size_setCell, World.size_drew, setRow_size] at s1
    have hbw1 : Below w.heap.size w w1 := by (repeat' (first | (with_reducible exact Below.refl _ _) | (with_reducible assumption) | (with_reducible refine Below.alloc ?_ ?_ _) | (with_reducible refine Below.setCell ?_ ?_ _) | (with_reducible refine below_row ?_ ?_ _) | (with_reducible refine Below.drew ?_) | (with_reducible refine below_drewN ?_ _) | (with_reducible refine Below.trans ?_ (Below.mono (by assumption) ?_)) | (first | exact Nat.le_refl _ | omega | (simp; done) | (simp; omega) | (exact Below.size (by assumption)))))
    have LR1 := Lib.hid (LR.out.after hb1)
    have y0 := LR1.out.cell 0
    have zy := LR1.out.lt
    clear hb1
    go_wp2_with fail
    refine (HPA.out _ (by (repeat' (first | (with_reducible exact Below.refl _ _) | (with_reducible assumption) | (with_reducible refine Below.alloc ?_ ?_ _) | (with_reducible refine Below.setCell ?_ ?_ _) | (with_reducible refine below_row ?_ ?_ _) | (with_reducible refine Below.drew ?_) | (with_reducible refine below_drewN ?_ _) | (with_reducible refine Below.trans ?_ (Below.mono (by assumption) ?_)) | (first | exact Nat.le_refl _ | omega | (simp; done) | (simp; omega) | (exact Below.size (by assumption))))))).mono ?_
    rintro e w2 ⟨v, rfl, hi, hb2⟩
    have hbw2 : Below w.heap.size w w2 := by (repeat' (first | (with_reducible exact Below.refl _ _) | (with_reducible assumption) | (with_reducible refine Below.alloc ?_ ?_ _) | (with_reducible refine Below.setCell ?_ ?_ _) | (with_reducible refine below_row ?_ ?_ _) | (with_reducible refine Below.drew ?_) | (with_reducible refine below_drewN ?_ _) | (with_reducible refine Below.trans ?_ (Below.mono (by assumption) ?_)) | (first | exact Nat.le_refl _ | omega | (simp; done) | (simp; omega) | (exact Below.size (by assumption)))))
    have HI := Lib.hid hi
    obtain ⟨A5, c5, b5, o5, rfl, -⟩ := hi
    go_wp2_with fail
    go_ret2
    exact ⟨_, rfl, HI.out, hbw2⟩
  · rw [if_pos h0]
    have hne : (askE xs ls d != 0) = true := by simpa using h0
    obtain ⟨A, c, rfl⟩ := h.slice
    obtain ⟨AL, cL, rfl⟩ := hL.slice
    clear h0 h hL
    generalize askE xs ls d = ae at *
    go_enter Try.func41, Try.ntmps41
    go_wp2_with fail
    refine (HAS.out _ (by (repeat' (first | (with_reducible exact Below.refl _ _) | (with_reducible assumption) | (with_reducible refine Below.alloc ?_ ?_ _) | (with_reducible refine Below.setCell ?_ ?_ _) | (with_reducible refine below_row ?_ ?_ _) | (with_reducible refine Below.drew ?_) | (with_reducible refine below_drewN ?_ _) | (with_reducible refine Below.trans ?_ (Below.mono (by assumption) ?_)) | (first | exact Nat.le_refl _ | omega | (simp; done) | (simp; omega) | (exact Below.size (by assumption))))))).mono ?_
    rintro e w1 ⟨rfl, hb1⟩
    have s1 := hb1.size; try simp only [World.size_alloc, World.size_setCell, World.size_drew, setRow_size] at s1
    go_wp2_with fail
    go_ret2
    exact ⟨_, rfl, ints_nil _, by (repeat' (first | (with_reducible exact Below.refl _ _) | (with_reducible assumption) | (with_reducible refine Below.alloc ?_ ?_ _) | (with_reducible refine Below.setCell ?_ ?_ _) | (with_reducible refine below_row ?_ ?_ _) | (with_reducible refine Below.drew ?_) | (with_reducible refine below_drewN ?_ _) | (with_reducible refine Below.trans ?_ (Below.mono (by assumption) ?_)) | (first | exact Nat.le_refl _ | omega | (simp; done) | (simp; omega) | (exact Below.size (by assumption)))))⟩
end Go.Proofs.Ytnmcpkmiomknmaa
