/- SheetSized: the law's body. -/
import Derived.Test.YtmhlbdighceogaaRD
import Derived.Test.YtmhlbdighceogaaRE
import Derived.Test.YtmhlbdighceogaaHX
import Derived.Test.YtmhlbdighceogaaHB
import Derived.Test.YtmhlbdighceogaaVJ
namespace Go.Proofs.Ytmhlbdighceogaa
set_option linter.unusedVariables false
set_option linter.unusedSimpArgs false
open Go.RowKit

theorem own_cell5 {w : World} {base g m c : Nat} {rs : List (Iss × Value × Value)} (h : w.ownsRow base 45 5 (.slice (some ⟨g, 0, none⟩) m c) rs.length (cellsT rs)) {j t : Nat} (hj : j < rs.length) (ht : t < 5) : w.cell? ⟨g, j * 5 + t, none⟩ = (cellT rs[j])[t]? := by
  obtain ⟨A', c', g', e, hf⟩ := own_form h
  injection e with e1 e2 e3
  obtain ⟨-, e5, cur, hl, hcur⟩ := hf (by omega)
  rw [e5] at e1
  injection e1 with e1
  injection e1 with e1
  subst e1
  rw [hl.cell, hcur _ (by omega), cellsT_at hj ht]
set_option maxRecDepth 100000 in
set_option maxHeartbeats 16000000 in
theorem sized_ready {A : Option Addr} {c b off : Nat} {xs : List Iss} {vi vd : Nat → Value} (n : Nat) (dn dl du : Int) (w : World) (hn : n ≤ 255) (hm : xs.length ≤ 9223372036854775807) (hm2 : ∀ x ∈ xs, x.items.length ≤ 9223372036854775807 ∧ x.dims.length ≤ 9223372036854775807) (hA : 0 < xs.length → A = some ⟨b, off, none⟩) (hc : IssRow w b off xs vi vd) (hr1 : readyB xs = true) :
    Calls Try.prog 16 #[.agg #[.slice A xs.length c], .int .u8 (n : Int), .agg #[.int .i64 dn, .int .i64 dl, .int .i64 du]] w fun e w' => e = .returned (.bool true) ∧ Below w.heap.size w w' := by
  obtain ⟨hg1, h01⟩ := ready_parts hr1
  obtain ⟨hlen, hsml⟩ := great_no hg1
  have hpos := (layE_ok h01).1.1
  have hr : RegAt w (.slice A xs.length c) xs := ⟨⟨A, c, b, off, rfl, hA, fun i hi => ⟨vi i, vd i, hc i hi⟩⟩, by omega, fun x hx => ⟨by have := (hsml x hx).1; omega, by have := (hsml x hx).2; omega⟩⟩
  have HQ1 := Lib.hid (fun W (hW : Below w.heap.size w W) => ready_any A c b off xs vi vd W hm hm2 hA (hc.after hW))
  rw [hr1] at HQ1
  have HSZ := Lib.hid (fun x (hx : x ∈ xs) => sized_ok h01 hx)
  have HSL := Lib.hid (fun i (hi : i < xs.length) => sized_lay h01 hi (dn, dl, du))
  have HTW := Lib.hid (fun W (h1 : RegAt W (.slice A xs.length c) xs) => rTwinD_any h1)
  have HSM := Lib.hid hsml
  have HA0 := Lib.hid hA
  have HC0 := Lib.hid hc
  have LB_0 := Lib.hid ((Lies.made w 24 #[.slice A xs.length c]).alloc (.cells #[.int .i64 dn, .int .i64 dl, .int .i64 du] 54))
  have LD_0 := Lib.hid (Lies.made (w.alloc (.cells #[.slice A xs.length c] 24)) 54 #[.int .i64 dn, .int .i64 dl, .int .i64 du])
  have hb0 : Below w.heap.size w ((w.alloc (.cells #[.slice A xs.length c] 24)).alloc (.cells #[.int .i64 dn, .int .i64 dl, .int .i64 du] 54)) := by (repeat' (first | (with_reducible first | exact Below.refl _ _ | assumption | refine Below.alloc ?_ ?_ _ | refine Below.setCell ?_ ?_ _ | refine below_row ?_ ?_ _ | refine Below.drew ?_ | refine below_drewN ?_ _ | refine Below.trans ?_ (Below.mono (by assumption) ?_)) | exact Nat.le_refl _ | omega | (simp; done) | (simp; omega) | exact Below.size (by assumption)))
  have RA_0 := Lib.hid (hr.after hb0)
  have hs0 : (w.alloc (.cells #[.slice A xs.length c] 24)).heap.size = w.heap.size + 1 := by simp
  clear hA hc hm2 hm hsml hr hg1 h01 hr1
  go_enter Try.func16, Try.ntmps16
  go_wp2_with fail
  refine (alive_any _).mono ?_
  rintro e1 w1 ⟨rfl, hb⟩
  have hq1 : Below ((w.alloc (.cells #[.slice A xs.length c] 24)).alloc (.cells #[.int .i64 dn, .int .i64 dl, .int .i64 du] 54)).heap.size ((w.alloc (.cells #[.slice A xs.length c] 24)).alloc (.cells #[.int .i64 dn, .int .i64 dl, .int .i64 du] 54)) w1 := by (repeat' (first | (with_reducible first | exact Below.refl _ _ | assumption | refine Below.alloc ?_ ?_ _ | refine Below.setCell ?_ ?_ _ | refine below_row ?_ ?_ _ | refine Below.drew ?_ | refine below_drewN ?_ _ | refine Below.trans ?_ (Below.mono (by assumption) ?_)) | exact Nat.le_refl _ | omega | (simp; done) | (simp; omega) | exact Below.size (by assumption)))
  have LB_1 := Lib.hid (LB_0.out.after hq1)
  clear LB_0
  have LD_1 := Lib.hid (LD_0.out.after hq1)
  clear LD_0
  have RA_1 := Lib.hid (RA_0.out.after hq1)
  clear RA_0
  have hb1 : Below w.heap.size w w1 := hb0.trans (hq1.mono hb0.size)
  clear hb hq1
  have LBc := LB_1.out.cell 0
  have LBz := LB_1.out.lt
  go_wp2_with fail
  refine (HQ1.out _ (by (repeat' (first | (with_reducible first | exact Below.refl _ _ | assumption | refine Below.alloc ?_ ?_ _ | refine Below.setCell ?_ ?_ _ | refine below_row ?_ ?_ _ | refine Below.drew ?_ | refine below_drewN ?_ _ | refine Below.trans ?_ (Below.mono (by assumption) ?_)) | exact Nat.le_refl _ | omega | (simp; done) | (simp; omega) | exact Below.size (by assumption))))).mono ?_
  rintro e2 w2 ⟨rfl, hb⟩
  have hq2 : Below w1.heap.size w1 w2 := by (repeat' (first | (with_reducible first | exact Below.refl _ _ | assumption | refine Below.alloc ?_ ?_ _ | refine Below.setCell ?_ ?_ _ | refine below_row ?_ ?_ _ | refine Below.drew ?_ | refine below_drewN ?_ _ | refine Below.trans ?_ (Below.mono (by assumption) ?_)) | exact Nat.le_refl _ | omega | (simp; done) | (simp; omega) | exact Below.size (by assumption)))
  clear LBc LBz
  have LB_2 := Lib.hid (LB_1.out.after hq2)
  clear LB_1
  have LD_2 := Lib.hid (LD_1.out.after hq2)
  clear LD_1
  have RA_2 := Lib.hid (RA_1.out.after hq2)
  clear RA_1
  have hb2 : Below w.heap.size w w2 := hb1.trans (hq2.mono hb1.size)
  clear hb hq2
  rw [hs0] at LD_2
  have x2 := LB_2.out.cell 0
  have z2 := LB_2.out.lt
  go_wp2_with fail
  go_loopw [28] (fun i ws => ∃ jj : Nat, i = .int .i64 jj ∧ jj ≤ xs.length ∧ Below w2.heap.size w2 ws) (fun i _ => xs.length - (intOf i).toNat)
  case atStart => exact ⟨0, rfl, by omega, by (repeat' (first | (with_reducible first | exact Below.refl _ _ | assumption | refine Below.alloc ?_ ?_ _ | refine Below.setCell ?_ ?_ _ | refine below_row ?_ ?_ _ | refine Below.drew ?_ | refine below_drewN ?_ _ | refine Below.trans ?_ (Below.mono (by assumption) ?_)) | exact Nat.le_refl _ | omega | (simp; done) | (simp; omega) | exact Below.size (by assumption)))⟩
  case round =>
    obtain ⟨jj, rfl, hjj, hb⟩ := hrel
    have hbw : Below w.heap.size w wr := hb2.trans (hb.mono hb2.size)
    by_cases hjt : jj < xs.length
    · have kl0 : (jj : Int) < (xs.length : Int) := by omega
      obtain rfl := HA0.out (by omega)
      obtain ⟨c0, c1, c2, c3, c4, hkk, ⟨A3, c33, b3, o3, hvi, -⟩, hDT, -, -⟩ := HC0.out jj hjt
      have hD2 := hDT.after hbw
      obtain ⟨A4, c44, b4, o4, hvd, -⟩ := hDT
      rw [hvd] at c4 hD2
      rw [hvi] at c3
      have c0 := cell_keep hbw c0
      have c1 := cell_keep hbw c1
      have c2 := cell_keep hbw c2
      have c3 := cell_keep hbw c3
      have c4 := cell_keep hbw c4
      have HS2 := Lib.hid (HSZ.out _ (List.getElem_mem hjt))
      have hns := (HSM.out _ (List.getElem_mem hjt)).2
      obtain ⟨A', c', bD, oD, eD, hAD, hcD⟩ := hD2
      injection eD with e1 e2 e3
      subst e1 e3
      have HAD := Lib.hid hAD
      have HCD := Lib.hid hcD
      clear hAD hcD hvi hvd hkk
      generalize xs[jj] = y at *
      have hbs := hb.size
      obtain ⟨wA, hwA⟩ : ∃ W, W = wr.alloc (.cells #[.int .i64 y.d, .int .i64 y.l, .int .u8 y.k, .slice A3 y.items.length c33, .slice A4 y.dims.length c44] 45) := ⟨_, rfl⟩
      have HLY : Hid (Lies wA wr.heap.size 45 #[.int .i64 y.d, .int .i64 y.l, .int .u8 y.k, .slice A3 y.items.length c33, .slice A4 y.dims.length c44]) := Lib.hid (by rw [hwA]; exact Lies.made _ _ _)
      have hbA : Below w2.heap.size w2 wA := by rw [hwA]; exact hb.alloc hbs _
      have hrA : Below wr.heap.size wr wA := by rw [hwA]; exact (Below.refl _ _).alloc (Nat.le_refl _) _
      have HWA := Lib.hid hwA
      have s4 := (Lies.made wr 45 #[.int .i64 y.d, .int .i64 y.l, .int .u8 y.k, .slice A3 y.items.length c33, .slice A4 y.dims.length c44]).cell 4
      have sz := (Lies.made wr 45 #[.int .i64 y.d, .int .i64 y.l, .int .u8 y.k, .slice A3 y.items.length c33, .slice A4 y.dims.length c44]).lt
      clear hwA
      go_wp2_with fail
      rw [← HWA.out]
      clear s4 sz
      go_loopw [35] (fun i ws => ∃ kk : Nat, i = .int .i64 kk ∧ kk ≤ y.dims.length ∧ Below wA.heap.size wA ws) (fun i _ => y.dims.length - (intOf i).toNat)
      case atStart => exact ⟨0, rfl, by omega, Below.refl _ _⟩
      case round =>
        obtain ⟨kk, rfl, hkk, hbk⟩ := hrel
        by_cases hkt : kk < y.dims.length
        · have kl1 : (kk : Int) < (y.dims.length : Int) := by omega
          obtain rfl := HAD.out (by omega)
          have hrk := hrA.trans (hbk.mono hrA.size)
          have d0 := cell_keep hrk (HCD.out kk hkt).1
          have d1 := cell_keep hrk (HCD.out kk hkt).2.1
          have d2 := cell_keep hrk (HCD.out kk hkt).2.2
          obtain ⟨hok, hk1⟩ := HS2.out _ (List.getElem_mem hkt)
          have hkf : (y.k == 1) = false := by rw [beq_eq_false_iff_ne]; exact hk1
          have s2 := (HLY.out.after hbk).cell 2
          have sz := (HLY.out.after hbk).lt
          generalize y.dims[kk] = dd at *
          obtain ⟨p0, p1, p2⟩ := dd
          simp only at d0 d1 d2 hok
          go_wp2_with fail
          refine (Check_ok p0 p1 p2 _ hok).mono ?_
          rintro e5 w5 ⟨rfl, gb5⟩
          have hb5 : Below wA.heap.size wA w5 := (hbk.alloc hbk.size _).trans (gb5.mono (hbk.alloc hbk.size _).size)
          have s2 := (HLY.out.after hb5).cell 2
          have sz := (HLY.out.after hb5).lt
          clear gb5
          go_wp2_with fail
          go_roundw
          case rel => exact ⟨kk + 1, by go_num, by omega, hb5⟩
          case measure => simp [intOf]; omega
        · have kl1 : ¬ (kk : Int) < (y.dims.length : Int) := by omega
          have hbz := hbA.trans (hbk.mono hbA.size)
          go_wp2_with fail
          go_roundw
          case rel => exact ⟨jj + 1, by go_num, by omega, hbz⟩
          case measure => simp [intOf]; omega
    · have kl0 : ¬ (jj : Int) < (xs.length : Int) := by omega
      have x3 := (LB_2.out.after hb).cell 0
      have z3 := (LB_2.out.after hb).lt
      have htw := HTW.out _ (RA_2.out.after hb)
      have LD_3 := Lib.hid (LD_2.out.after hb)
      clear HA0 HC0 HSZ HTW LB_2 LD_2 RA_2 HQ1
      go_wp2_with fail
      refine htw.mono ?_
      rintro e4 w4 ⟨v, rs, rfl, ho, hmap, hap, gb4⟩
      have hbw4 : Below w.heap.size w w4 := hbw.trans (gb4.mono hbw.size)
      have hrl : rs.length = xs.length := by rw [← hmap, List.length_map]
      obtain ⟨AO, cO, g, hvv, hcap, hfo⟩ := ho.form
      obtain ⟨hgg, rfl, hrow⟩ := hfo (by omega)
      subst hvv
      rw [hrl] at hcap ⊢
      have hlt : n % xs.length < xs.length := Nat.mod_lt _ (by omega)
      have hmw := idx_wrap (i := n) (n := xs.length) (by omega) (by omega) (by omega)
      have k0 : IntKind.i64.wrap (n : Int) = (n : Int) := IntWalk.i64_in _ (by omega)
      have k2 : IntKind.i64.wrap ((n % xs.length : Nat) : Int) = ((n % xs.length : Nat) : Int) := IntWalk.i64_in _ (by omega)
      have hq2 : ((xs.length : Int) == 0) = false := by rw [beq_eq_false_iff_ne]; omega
      have hq3 : ¬ (xs.length : Int) = 0 := by omega
      have kj1 : ((n % xs.length : Nat) : Int) < (xs.length : Int) := by omega
      have o0 := (Lies.made w4 24 #[.slice (some ⟨g, 0, none⟩) xs.length cO]).cell 0
      have oz := (Lies.made w4 24 #[.slice (some ⟨g, 0, none⟩) xs.length cO]).lt
      have hnx : ¬ xs = [] := by rintro rfl; simp at hpos
      generalize n % xs.length = j at *
      go_upto_region 15 with fail
      refine wp_region_held_drew (S := fun W => W.cell? ⟨w4.heap.size, 0, none⟩ = some (.slice (some ⟨g, 0, none⟩) xs.length cO)) (by kernel_rfl) o0 (fun hHeld => ?_)
      refine take_at (i := 0) (v := ?_) rfl (by kernel_rfl) (by kernel_rfl) (by kernel_rfl) (fun _ _ _ h => h) (Or.inl ⟨by rfl, ?_⟩) (by assumption) ?_
      rotate_left
      · (intro w hSw; (try dsimp only at hSw); go_simp; (try with_reducible rfl))
      try simp only [Act.put, List.setIfInBounds_toArray, List.set_cons_zero, List.set_cons_succ]
      refine take_at (i := 1) (v := ?_) rfl (by kernel_rfl) (by kernel_rfl) (by kernel_rfl) (fun _ _ _ h => h) (Or.inl ⟨by rfl, ?_⟩) (by assumption) ?_
      rotate_left
      · (intro w hSw; (try dsimp only at hSw); go_simp; (try with_reducible rfl))
      try simp only [Act.put, List.setIfInBounds_toArray, List.set_cons_zero, List.set_cons_succ]
      refine take_at (i := 2) (v := ?_) rfl (by kernel_rfl) (by kernel_rfl) (by kernel_rfl) (fun _ _ _ h => h) (Or.inl ⟨by rfl, ?_⟩) (by assumption) ?_
      rotate_left
      · (intro w hSw; (try dsimp only at hSw); go_simp; (try with_reducible rfl))
      try simp only [Act.put, List.setIfInBounds_toArray, List.set_cons_zero, List.set_cons_succ]
      refine take_at (i := 3) (v := ?_) rfl (by kernel_rfl) (by kernel_rfl) (by kernel_rfl) (fun _ _ _ h => h) (Or.inl ⟨by rfl, ?_⟩) (by assumption) ?_
      rotate_left
      · (intro w hSw; (try dsimp only at hSw); go_simp; (try with_reducible rfl))
      try simp only [Act.put, List.setIfInBounds_toArray, List.set_cons_zero, List.set_cons_succ]
      refine take_at (i := 4) (v := ?_) rfl (by kernel_rfl) (by kernel_rfl) (by kernel_rfl) (fun _ _ _ h => h) (Or.inl ⟨by rfl, ?_⟩) (by assumption) ?_
      rotate_left
      · (intro w hSw; (try dsimp only at hSw); go_simp; (try with_reducible rfl))
      try simp only [Act.put, List.setIfInBounds_toArray, List.set_cons_zero, List.set_cons_succ]
      refine take_at (i := 5) (v := ?_) rfl (by kernel_rfl) (by kernel_rfl) (by kernel_rfl) (fun _ _ _ h => h) (Or.inl ⟨by rfl, ?_⟩) (by assumption) ?_
      rotate_left
      · (intro w hSw; (try dsimp only at hSw); go_simp; (try with_reducible rfl))
      try simp only [Act.put, List.setIfInBounds_toArray, List.set_cons_zero, List.set_cons_succ]
      refine take_at (i := 6) (v := ?_) rfl (by kernel_rfl) (by kernel_rfl) (by kernel_rfl) (fun _ _ _ h => h) (Or.inl ⟨by rfl, ?_⟩) (by assumption) ?_
      rotate_left
      · (intro w hSw; (try dsimp only at hSw); go_simp; (try with_reducible rfl))
      try simp only [Act.put, List.setIfInBounds_toArray, List.set_cons_zero, List.set_cons_succ]
      refine take_at (i := 7) (v := ?_) rfl (by kernel_rfl) (by kernel_rfl) (by kernel_rfl) (fun _ _ _ h => h) (Or.inl ⟨by rfl, ?_⟩) (by assumption) ?_
      rotate_left
      · (intro w hSw; (try dsimp only at hSw); go_simp; (try with_reducible rfl))
      try simp only [Act.put, List.setIfInBounds_toArray, List.set_cons_zero, List.set_cons_succ]
      refine take_at (i := 8) (v := ?_) rfl (by kernel_rfl) (by kernel_rfl) (by kernel_rfl) (fun _ _ _ h => h) (Or.inl ⟨by rfl, ?_⟩) (by assumption) ?_
      rotate_left
      · (intro w hSw; (try dsimp only at hSw); go_simp; (try with_reducible rfl))
      try simp only [Act.put, List.setIfInBounds_toArray, List.set_cons_zero, List.set_cons_succ]
      refine take_at (i := 9) (v := ?_) rfl (by kernel_rfl) (by kernel_rfl) (by kernel_rfl) (fun _ _ _ h => h) (Or.inl ⟨by rfl, ?_⟩) (by assumption) ?_
      rotate_left
      · (intro w hSw; (try dsimp only at hSw); go_simp; (try with_reducible rfl))
      try simp only [Act.put, List.setIfInBounds_toArray, List.set_cons_zero, List.set_cons_succ]
      refine wpAnyH_done (by kernel_rfl) ?_ _
      obtain ⟨j0, hj0, hy0, hy1, hy2⟩ := info_parts infoS
      have hjr : j < rs.length := by omega
      have hmem := List.getElem_mem hjr
      have ey : rs[j].1 = xs[j] := by
        have : (rs.map (·.1))[j]? = xs[j]? := by rw [hmap]
        simpa [hjr, hlt] using this
      obtain ⟨A4, c4, g4, e4, -⟩ := own_form (ho.2 _ hmem).2.2
      obtain ⟨A3, c3, g3, e3, -⟩ := own_form (ho.2 _ hmem).2.1
      have hns := (HSM.out _ (List.getElem_mem hlt)).2
      have hni := (HSM.out _ (List.getElem_mem hlt)).1
      have hgl := own_lt ho.1 g rfl
      have hsl := HSL.out j hlt
      rw [ey] at e4
      obtain ⟨wO, hwO⟩ : ∃ W, W = (w4.alloc (.cells #[.slice (some ⟨g, 0, none⟩) xs.length cO] 24)).drew := ⟨_, rfl⟩
      have hbO : Below w4.heap.size w4 wO.drew := by rw [hwO]; exact (((Below.refl _ _).alloc (Nat.le_refl _) _).drew).drew
      have hLO : Lies wO.drew w4.heap.size 24 #[.slice (some ⟨g, 0, none⟩) xs.length cO] := by rw [hwO]; exact (Lies.made w4 24 #[.slice (some ⟨g, 0, none⟩) xs.length cO])
      rw [← hwO]
      clear hwO o0 oz
      have ho2 := ho.after hbO
      have hDO := (ho2.2 _ hmem).2.2
      rw [e4, ey] at hDO
      have HLO := Lib.hid hLO
      have HDO := Lib.hid hDO
      have HOO := Lib.hid ho2
      have hbr : Below wr.heap.size wr wO.drew := gb4.trans (hbO.mono gb4.size)
      have HLD := Lib.hid (LD_3.out.after hbr)
      have d0 := HLD.out.cell 0
      have d1 := HLD.out.cell 1
      have d2 := HLD.out.cell 2
      have dz := HLD.out.lt
      have q4 : wO.drew.cell? ⟨g, j * 5 + 4, none⟩ = some (.slice A4 xs[j].dims.length c4) := by
        rw [own_cell5 ho2.1 hjr (by omega)]
        simp [cellT, e4]
      have q4a : (wO.alloc (.cells #[.int .i64 dn, .int .i64 dl, .int .i64 du] 54)).cell? ⟨g, j * 5 + 4, none⟩ = some (.slice A4 xs[j].dims.length c4) := keep_nw (w := wO) q4
      have hss := hbr.size
      have hss2 : wr.heap.size ≤ wO.heap.size := hss
      have HSL2 := Lib.hid hsl
      have HEY := Lib.hid ey
      have HE4 := Lib.hid e4
      have HAP := Lib.hid hap
      have HMP := Lib.hid hmap
      have HRL := Lib.hid hrl
      have HFZ : Hid (∀ w3 : World, (wO.drew.alloc (.cells #[.int .i64 dn, .int .i64 dl, .int .i64 du] 54)).grownBy w3 (Value.slice A4 xs[j].dims.length c4).ownBlock → w3.frozen? ⟨g, j * 5 + 4, none⟩ = false ∧ w3.cell? ⟨g, j * 5 + 4, none⟩ = some (.slice A4 xs[j].dims.length c4)) := Lib.hid (fun w3 hg => by
        have h1 := own_apart (HOO.out.1.alloc _) (HDO.out.alloc _) (by decide) hg
        refine ⟨?_, by rw [own_cell5 h1 hjr (by omega)]; simp [cellT, HE4.out]⟩
        rw [HRL.out] at h1
        exact h1.frozenAt _)
      clear ho ho2 hDO hLO hsl ey e4 hap hmap hmem hrow hfo HSL gb4 e3
      generalize xs[j] = y at *
      go_upto_region 16 with fail
      go_region_law (refine step_row2 (o := ⟨some 67, _, _, _, _, _⟩) (by rfl) (.tmp 64) (.tmp 66) 43 (by rfl) wr.heap.size 54 j0 (.agg #[.int .i64 0, .int .i64 0, .int .i64 0]) 3 24 Try.underlying43 hj0 hy0 hy1 hy2 rfl (by decide) (.slice A4 y.dims.length c4) y.dims.length (cellsS y.dims) (by rfl) ?_ (some ⟨_, 0, none⟩) 1 1 [.int .i64 dn, .int .i64 dl, .int .i64 du] (by rfl) (fun h => by cases h) (by rfl) ?_ (by simp [Value.oneCell']) (by unfold maxLen; omega) (by omega) (by first | omega | (simp; omega)) ?_; (focus (exact HDO.out.alloc _)); (focus (intro ad had; injection had with had; subst had; exact World.news_of_block (Lies.made _ _ _))); intro v3 w3 ho3 hap3 hbl3 hgr3; obtain ⟨f3, p3⟩ := HFZ.out w3 hgr3; have HO3 := Lib.hid ho3; have HGR : Hid ((wO.drew.alloc (.cells #[.int .i64 dn, .int .i64 dl, .int .i64 du] 54)).grownBy w3 (Value.slice A4 y.dims.length c4).ownBlock) := Lib.hid hgr3; have HL3 := Lib.hid (hap3 _ _ _ (by decide) (HLO.out.alloc _)); have hb3 := hbl3 wr (hbr.alloc hss _) (Nat.le_refl _); obtain ⟨A5, c5, g5, rfl, -⟩ := own_form ho3; clear ho3 hap3 hbl3 hgr3)
      all_goals
        have HR3 := Lib.hid (reg_more (v' := .slice A5 (y.dims.length + 1) c5) (HOO.out.after ((Below.refl _ _).alloc (Nat.le_refl _) (.cells #[.int .i64 dn, .int .i64 dl, .int .i64 du] 54))) HAP.out hjr (dn, dl, du) (by rw [HE4.out]; exact HGR.out) (by rw [HEY.out]; exact HO3.out) (by rw [HRL.out]))
        rw [HRL.out] at HR3
        have hbS := hb3.setCell (p := ⟨g, j * 5 + 4, none⟩) hgg (.slice A5 (y.dims.length + 1) c5)
        have HLS := Lib.hid (HL3.out.other (p := ⟨g, j * 5 + 4, none⟩) (by simp only; omega) (.slice A5 (y.dims.length + 1) c5))
        clear f3 p3 q4 q4a d0 d1 d2 dz HO3 HGR HL3 hb3 HOO HDO HLO HAP HFZ
        generalize w3.setCell ⟨g, j * 5 + 4, none⟩ (.slice A5 (y.dims.length + 1) c5) = wS at *
        have hmp : (rs.set j (more rs[j].1 (dn, dl, du), rs[j].2.1, .slice A5 (y.dims.length + 1) c5)).map (·.1) = xs.set j (more y (dn, dl, du)) := by rw [List.map_set, HMP.out, HEY.out]
        have hreg : RegAt wS (.slice (some ⟨g, 0, none⟩) xs.length cO) (xs.set j (more y (dn, dl, du))) := by
          rw [← hmp]
          refine HR3.out.reg (by rw [List.length_set]; omega) (fun x hx => ?_)
          rw [hmp] at hx
          rcases List.mem_or_eq_of_mem_set hx with h | rfl
          · have := HSM.out x h; omega
          · exact ⟨by show y.items.length ≤ 1000; omega, by simp [more]; omega⟩
        have p2 : wS.cell? ⟨g, j * 5 + 2, none⟩ = some (.int .u8 y.k) := by
          rw [own_cell5 HR3.out.1 (by simp; omega) (by omega)]
          simp [cellT, more, HEY.out]
        have p4 : wS.cell? ⟨g, j * 5 + 4, none⟩ = some (.slice A5 (y.dims.length + 1) c5) := by
          rw [own_cell5 HR3.out.1 (by simp; omega) (by omega)]
          simp [cellT]
        have HCK := Lib.hid (fun W (hW : Below wS.heap.size wS W) => sCheck_any (hreg.after hW))
        rw [HSL2.out] at HCK
        have HLD := Lib.hid (LD_3.out.after hbS)
        have d0 := HLD.out.cell 0
        have d1 := HLD.out.cell 1
        have d2 := HLD.out.cell 2
        have dz := HLD.out.lt
        have hbwS := hbw.trans (hbS.mono hbw.size)
        clear HR3 hmp hreg LD_3 HMP HSL2 hbS
        by_cases hok : okD dn dl du = true
        · by_cases hk : y.k = 1
          · have hkx : (y.k != 1) = false := by simp [hk]
            rw [if_neg (by simp [hk])] at HCK
            go_wp2_with fail
            refine (Check_ok dn dl du _ hok).mono ?_
            rintro e8 w8 ⟨rfl, gb8⟩
            have p2 := cell_keep gb8 p2
            have p4 := cell_keep gb8 p4
            have HL8 := Lib.hid (HLS.out.after gb8)
            have o0 := HL8.out.cell 0
            have oz := HL8.out.lt
            have hck := HCK.out w8 gb8
            have hb8 := hbwS.trans (gb8.mono hbwS.size)
            clear gb8 HCK d0 d1 d2 dz
            go_wp2_with fail
            refine hck.mono ?_
            rintro e9 w9 ⟨rfl, gb9⟩
            have hb9 := hb8.trans (gb9.mono hb8.size)
            clear gb9 hck
            go_wp2_with fail
            go_ret
            exact ⟨rfl, hb9⟩
          · have hkx : (y.k != 1) = true := by simp [hk]
            by_cases hl : y.dims.length + 1 ≤ 4
            · have hl1 : (y.dims.length : Int) + 1 ≤ 4 := by omega
              have hl2 : y.dims.length ≤ 3 := by omega
              rw [if_pos (by simp [hk, hok]; omega)] at HCK
              go_wp2_with fail
              refine (Check_ok dn dl du _ hok).mono ?_
              rintro e8 w8 ⟨rfl, gb8⟩
              have p2 := cell_keep gb8 p2
              have p4 := cell_keep gb8 p4
              have HL8 := Lib.hid (HLS.out.after gb8)
              have o0 := HL8.out.cell 0
              have oz := HL8.out.lt
              have hck := HCK.out w8 gb8
              have hb8 := hbwS.trans (gb8.mono hbwS.size)
              clear gb8 HCK d0 d1 d2 dz
              go_wp2_with fail
              refine hck.mono ?_
              rintro e9 w9 ⟨rfl, gb9⟩
              have hb9 := hb8.trans (gb9.mono hb8.size)
              clear gb9 hck
              go_wp2_with fail
              go_ret
              exact ⟨rfl, hb9⟩
            · have hl1 : ¬ (y.dims.length : Int) + 1 ≤ 4 := by omega
              have hl3 : decide ((y.dims.length : Int) + 1 ≤ 4) = false := decide_eq_false hl1
              rw [if_neg (by simp [hk, hok]; omega)] at HCK
              go_wp2_with fail
              refine (Check_ok dn dl du _ hok).mono ?_
              rintro e8 w8 ⟨rfl, gb8⟩
              have p2 := cell_keep gb8 p2
              have p4 := cell_keep gb8 p4
              have HL8 := Lib.hid (HLS.out.after gb8)
              have o0 := HL8.out.cell 0
              have oz := HL8.out.lt
              have hck := HCK.out w8 gb8
              have hb8 := hbwS.trans (gb8.mono hbwS.size)
              clear gb8 HCK d0 d1 d2 dz
              go_wp2_with fail
              refine hck.mono ?_
              rintro e9 w9 ⟨rfl, gb9⟩
              have hb9 := hb8.trans (gb9.mono hb8.size)
              clear gb9 hck
              go_wp2_with fail
              go_ret
              exact ⟨rfl, hb9⟩
        · have hok : okD dn dl du = false := by simpa using hok
          rw [if_neg (by simp [hok])] at HCK
          go_wp2_with fail
          refine (Check_no dn dl du _ hok).mono ?_
          rintro e8 w8 ⟨rfl, gb8⟩
          have p2 := cell_keep gb8 p2
          have p4 := cell_keep gb8 p4
          have HL8 := Lib.hid (HLS.out.after gb8)
          have o0 := HL8.out.cell 0
          have oz := HL8.out.lt
          have hck := HCK.out w8 gb8
          have hb8 := hbwS.trans (gb8.mono hbwS.size)
          clear gb8 HCK d0 d1 d2 dz
          go_wp2_with fail
          refine hck.mono ?_
          rintro e9 w9 ⟨rfl, gb9⟩
          have hb9 := hb8.trans (gb9.mono hb8.size)
          clear gb9 hck
          go_wp2_with fail
          go_ret
          exact ⟨rfl, hb9⟩
end Go.Proofs.Ytmhlbdighceogaa
