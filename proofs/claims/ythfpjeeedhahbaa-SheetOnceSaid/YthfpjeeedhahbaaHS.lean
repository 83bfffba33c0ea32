/- SheetOnce: the law's body. -/
import Derived.Test.YthfpjeeedhahbaaRD
import Derived.Test.YthfpjeeedhahbaaRE
import Derived.Test.YthfpjeeedhahbaaRF
import Derived.Test.YthfpjeeedhahbaaHO
import Derived.Test.YthfpjeeedhahbaaHR
namespace Go.Proofs.Ythfpjeeedhahbaa
set_option linter.unusedVariables false
set_option linter.unusedSimpArgs false
open Go.RowKit

theorem ready_v {vI : Value} {xs : List Iss} {w : World} (h : RegAt w vI xs) : Calls Try.prog 55 #[.agg #[vI]] w fun e w' => e = .returned (.bool (readyB xs)) ∧ Below w.heap.size w w' := by
 obtain ⟨A, c, b, off, vi, vd, rfl, hA, hc⟩ := h.at_.row
 exact ready_any A c b off xs vi vd w (by have := h.len; omega) (fun x hx => ⟨by have := (h.small x hx).1; omega, by have := (h.small x hx).2; omega⟩) hA hc
theorem ready_of {xs : List Iss} (h : layE xs = 0) : readyB xs = true := by
 have hg : greatB xs = false := by
  rw [← Bool.not_eq_true]
  intro e
  unfold greatB at e
  obtain ⟨⟨-, h1⟩, h2, -, h4, -⟩ := layE_ok h
  rw [Bool.or_eq_true, decide_eq_true_eq, List.any_eq_true] at e
  rcases e with e | ⟨x, hx, e⟩
  ·omega
  ·have h5 := (right_items h2 h4 hx).1
   obtain ⟨-, h6, h7⟩ := right_named h2 x hx
   unfold madeB at h6
   unfold bigB at e
   rw [Bool.or_eq_true, decide_eq_true_eq, decide_eq_true_eq] at e
   rcases e with e | e
   ·omega
   ·by_cases hk : x.k = 1
    ·rw [if_pos hk, Bool.and_eq_true] at h6
     unfold measuredB at h7
     simp [hk] at h7
     first | omega | (rw [h7] at e; simp at e)
    ·unfold measuredB at h7
     simp [hk] at h7
     omega
 unfold readyB
 rw [hg, h]
 rfl
theorem iss_at {W : World} {b off : Nat} {xs : List Iss} {vi vd : Nat → Value} (h : IssRow W b off xs vi vd) (k : Nat) (hk : k < xs.length) : ∃ A1 n1 A2 n2, W.cell? ⟨b, off + k * 5, none⟩ = some (.int .i64 (xs[k].d)) ∧ W.cell? ⟨b, off + k * 5 + 1, none⟩ = some (.int .i64 (xs[k].l)) ∧ W.cell? ⟨b, off + k * 5 + 2, none⟩ = some (.int .u8 xs[k].k) ∧ W.cell? ⟨b, off + k * 5 + 3, none⟩ = some (.slice A1 xs[k].items.length n1) ∧ W.cell? ⟨b, off + k * 5 + 4, none⟩ = some (.slice A2 xs[k].dims.length n2) ∧ ItemsAt W (.slice A1 xs[k].items.length n1) xs[k].items ∧ DimsAt W (.slice A2 xs[k].dims.length n2) xs[k].dims := by
 obtain ⟨h0, h1, h2, h3, h4, -, h5, h6, -, -⟩ := h k hk
 have h5' := h5
 have h6' := h6
 obtain ⟨A1, n1, b1, o1, e1, -⟩ := h5'
 obtain ⟨A2, n2, b2, o2, e2, -⟩ := h6'
 rw [e1] at h3 h5
 rw [e2] at h4 h6
 exact ⟨A1, n1, A2, n2, h0, h1, h2, h3, h4, h5, h6⟩
set_option maxRecDepth 100000 in
set_option maxHeartbeats 16000000 in
theorem once_ready {A B : Option Addr} {c b off e b2 off2 : Nat} {xs ys : List Iss} {vi vd ui ud : Nat → Value} (w : World) (hcA : CapOk (.slice A xs.length c)) (hcB : CapOk (.slice B ys.length e)) (hm : xs.length ≤ 9223372036854775807) (hm2 : ∀ x ∈ xs, x.items.length ≤ 9223372036854775807 ∧ x.dims.length ≤ 9223372036854775807) (hm3 : ys.length ≤ 9223372036854775807) (hm4 : ∀ x ∈ ys, x.items.length ≤ 9223372036854775807 ∧ x.dims.length ≤ 9223372036854775807) (hA : 0 < xs.length → A = some ⟨b, off, none⟩) (hB : 0 < ys.length → B = some ⟨b2, off2, none⟩) (hc : IssRow w b off xs vi vd) (hd : IssRow w b2 off2 ys ui ud) (hr1 : readyB xs = true) (hr2 : readyB ys = true) :
  Calls Try.prog 8 #[.agg #[.slice A xs.length c], .agg #[.slice B ys.length e]] w fun e w' => e = .returned (.bool true) ∧ Below w.heap.size w w' := by
 obtain ⟨hg1, h01⟩ := ready_parts hr1
 obtain ⟨hg2, h02⟩ := ready_parts hr2
 obtain ⟨hlen, hsml⟩ := great_no hg1
 obtain ⟨hlen2, hsml2⟩ := great_no hg2
 have hr : RegAt w (.slice A xs.length c) xs := ⟨⟨A, c, b, off, rfl, hA, fun i hi => ⟨vi i, vd i, hc i hi⟩⟩, by omega, fun x hx => ⟨by have := (hsml x hx).1; omega, by have := (hsml x hx).2; omega⟩⟩
 have hrr : RegAt w (.slice B ys.length e) ys := ⟨⟨B, e, b2, off2, rfl, hB, fun i hi => ⟨ui i, ud i, hd i hi⟩⟩, by omega, fun x hx => ⟨by have := (hsml2 x hx).1; omega, by have := (hsml2 x hx).2; omega⟩⟩
 have HQ1 := Lib.hid (fun W (hW : Below w.heap.size w W) => ready_any A c b off xs vi vd W hm hm2 hA (hc.after hW))
 have HQ2 := Lib.hid (fun W (hW : Below w.heap.size w W) => ready_any B e b2 off2 ys ui ud W hm3 hm4 hB (hd.after hW))
 rw [hr1] at HQ1
 rw [hr2] at HQ2
 have HCA := Lib.hid hcA
 have HCB := Lib.hid hcB
 have hbo : bothE xs ys = 0 := by unfold bothE; rw [if_neg (by simpa using h01)]; exact h02
 have HLE : Hid (clashE xs ys = (clashR xs ys xs.length, 0)) := Lib.hid (by unfold clashE; rw [if_neg (by simpa using hbo)])
 obtain ⟨hon, hoc⟩ := once_none h01 h02
 have hos := once_some h01 h02
 obtain ⟨z, g, hze⟩ : ∃ z g, mergeE xs ys = (z, g) := ⟨_, _, rfl⟩
 have hzl : z.length ≤ 160 := by have := merge_lenS xs ys; rw [hze] at this; simp only at this; omega
 rw [hze] at hon hoc hos
 simp only at hon hoc hos
 have HZE := Lib.hid hze
 have HON := Lib.hid hon
 have HOC := Lib.hid hoc
 have HOS := Lib.hid hos
 have hll : (clashR xs ys xs.length).length ≤ 80 := Nat.le_trans (clashR_le xs ys xs.length) hlen
 have HCS := Lib.hid (fun k (hk : k < xs.length) => com_step (ys := ys) hk)
 have hcl := fun k => com_le xs ys k
 have HCL := Lib.hid hcl
 have HCA2 := Lib.hid (fun k (hk : k < xs.length) hh => clash_at (ys := ys) hk hh)
 have HCN := Lib.hid (fun k (hk : k < xs.length) hh => clash_no (ys := ys) hk hh)
 have HCY := Lib.hid (fun k (hk : k < xs.length) hh => clash_yes (ys := ys) hk hh)
 have HCR := Lib.hid (fun k => clashR_le xs ys k)
 have HAI := Lib.hid (fun (x y : Iss) (ee : Int) (hx : x ∈ ys) (hq : AtQ ys x.d x.l y ee) => at_in h02 hx hq)
 have HAO := Lib.hid (fun (d l : Int) (y : Iss) (ee : Int) (hx : hasN ys d l = false) (hq : AtQ ys d l y ee) => at_out h02 hx hq)
 have HHN := Lib.hid (fun (x y : Iss) (hy : y ∈ ys) e1 e2 => hit_not h02 (x := x) hy e1 e2)
 have HHO := Lib.hid (fun (x : Iss) h => hit_none (ys := ys) (x := x) h)
 have HSM := Lib.hid (fun (x : Iss) (hx : x ∈ xs) => hsml x hx)
 have HSN := Lib.hid (fun (x : Iss) (hx : x ∈ ys) => hsml2 x hx)
 have HRW := Lib.hid (fun W (hW : Below w.heap.size w W) => And.intro (hc.after hW) (hd.after hW))
 have HA := Lib.hid hA
 have HB := Lib.hid hB
 have LA_0 := Lib.hid ((Lies.made w 24 #[.slice A xs.length c]).alloc (.cells #[.slice B ys.length e] 24))
 have LB_0 : Hid (Lies ((w.alloc (.cells #[.slice A xs.length c] 24)).alloc (.cells #[.slice B ys.length e] 24)) (w.heap.size + 1) 24 #[.slice B ys.length e]) := Lib.hid (Lies.new (by simp))
 have RA_0 := Lib.hid (hr.after (((Below.refl _ w).alloc (Nat.le_refl _) (.cells #[.slice A xs.length c] 24)).alloc (by simp) (.cells #[.slice B ys.length e] 24)))
 have RB_0 := Lib.hid (hrr.after (((Below.refl _ w).alloc (Nat.le_refl _) (.cells #[.slice A xs.length c] 24)).alloc (by simp) (.cells #[.slice B ys.length e] 24)))
 have hb0 : Below w.heap.size w ((w.alloc (.cells #[.slice A xs.length c] 24)).alloc (.cells #[.slice B ys.length e] 24)) := by (repeat' (first | (with_reducible first | exact Below.refl _ _ | assumption | refine Below.alloc ?_ ?_ _ | refine Below.setCell ?_ ?_ _ | refine below_row ?_ ?_ _ | refine Below.drew ?_ | refine below_drewN ?_ _ | refine Below.trans ?_ (Below.mono (by assumption) ?_)) | exact Nat.le_refl _ | omega | (simp; done) | (simp; omega) | exact Below.size (by assumption)))
 clear hA hB hc hd hm2 hm4 hm hm3 hsml hsml2 hr hrr hcA hcB hg1 hg2 h01 h02 hr1 hr2 hze hbo hon hoc hos hcl
 go_enter Try.func8, Try.ntmps8
 go_wp2_with fail
 refine (alive_any _).mono ?_
 rintro e1 w1 ⟨rfl, hb⟩
 have hq1 : Below ((w.alloc (.cells #[.slice A xs.length c] 24)).alloc (.cells #[.slice B ys.length e] 24)).heap.size ((w.alloc (.cells #[.slice A xs.length c] 24)).alloc (.cells #[.slice B ys.length e] 24)) w1 := by (repeat' (first | (with_reducible first | exact Below.refl _ _ | assumption | refine Below.alloc ?_ ?_ _ | refine Below.setCell ?_ ?_ _ | refine below_row ?_ ?_ _ | refine Below.drew ?_ | refine below_drewN ?_ _ | refine Below.trans ?_ (Below.mono (by assumption) ?_)) | exact Nat.le_refl _ | omega | (simp; done) | (simp; omega) | exact Below.size (by assumption)))
 have LA_1 := Lib.hid (LA_0.out.after hq1)
 clear LA_0
 have LB_1 := Lib.hid (LB_0.out.after hq1)
 clear LB_0
 have RA_1 := Lib.hid (RA_0.out.after hq1)
 clear RA_0
 have RB_1 := Lib.hid (RB_0.out.after hq1)
 clear RB_0
 have hb1 : Below w.heap.size w w1 := hb0.trans (hq1.mono hb0.size)
 clear hb hq1
 have LAc := LA_1.out.cell 0
 have LAz := LA_1.out.lt
 go_wp2_with fail
 refine (HQ1.out _ (by (repeat' (first | (with_reducible first | exact Below.refl _ _ | assumption | refine Below.alloc ?_ ?_ _ | refine Below.setCell ?_ ?_ _ | refine below_row ?_ ?_ _ | refine Below.drew ?_ | refine below_drewN ?_ _ | refine Below.trans ?_ (Below.mono (by assumption) ?_)) | exact Nat.le_refl _ | omega | (simp; done) | (simp; omega) | exact Below.size (by assumption))))).mono ?_
 rintro e2 w2 ⟨rfl, hb⟩
 have hq2 : Below w1.heap.size w1 w2 := by (repeat' (first | (with_reducible first | exact Below.refl _ _ | assumption | refine Below.alloc ?_ ?_ _ | refine Below.setCell ?_ ?_ _ | refine below_row ?_ ?_ _ | refine Below.drew ?_ | refine below_drewN ?_ _ | refine Below.trans ?_ (Below.mono (by assumption) ?_)) | exact Nat.le_refl _ | omega | (simp; done) | (simp; omega) | exact Below.size (by assumption)))
 clear LAc LAz
 have LA_2 := Lib.hid (LA_1.out.after hq2)
 clear LA_1
 have LB_2 := Lib.hid (LB_1.out.after hq2)
 clear LB_1
 have RA_2 := Lib.hid (RA_1.out.after hq2)
 clear RA_1
 have RB_2 := Lib.hid (RB_1.out.after hq2)
 clear RB_1
 have hb2 : Below w.heap.size w w2 := hb1.trans (hq2.mono hb1.size)
 clear hb hq2
 have LBc := LB_2.out.cell 0
 have LBz := LB_2.out.lt
 go_wp2_with fail
 refine (HQ2.out _ (by (repeat' (first | (with_reducible first | exact Below.refl _ _ | assumption | refine Below.alloc ?_ ?_ _ | refine Below.setCell ?_ ?_ _ | refine below_row ?_ ?_ _ | refine Below.drew ?_ | refine below_drewN ?_ _ | refine Below.trans ?_ (Below.mono (by assumption) ?_)) | exact Nat.le_refl _ | omega | (simp; done) | (simp; omega) | exact Below.size (by assumption))))).mono ?_
 rintro e3 w3 ⟨rfl, hb⟩
 have hq3 : Below w2.heap.size w2 w3 := by (repeat' (first | (with_reducible first | exact Below.refl _ _ | assumption | refine Below.alloc ?_ ?_ _ | refine Below.setCell ?_ ?_ _ | refine below_row ?_ ?_ _ | refine Below.drew ?_ | refine below_drewN ?_ _ | refine Below.trans ?_ (Below.mono (by assumption) ?_)) | exact Nat.le_refl _ | omega | (simp; done) | (simp; omega) | exact Below.size (by assumption)))
 clear LBc LBz
 have LA_3 := Lib.hid (LA_2.out.after hq3)
 clear LA_2
 have LB_3 := Lib.hid (LB_2.out.after hq3)
 clear LB_2
 have RA_3 := Lib.hid (RA_2.out.after hq3)
 clear RA_2
 have RB_3 := Lib.hid (RB_2.out.after hq3)
 clear RB_2
 have hb3 : Below w.heap.size w w3 := hb2.trans (hq3.mono hb2.size)
 clear hb hq3
 have hcs := clash_s RA_3.out RB_3.out
 rw [HLE.out] at hcs
 have LAc := LA_3.out.cell 0
 have LAz := LA_3.out.lt
 have LBc := LB_3.out.cell 0
 have LBz := LB_3.out.lt
 go_wp2_with fail
 refine (hcs).mono ?_
 rintro e4 w4 ⟨A4, c4, rfl, hr, hb⟩
 have hq4 : Below w3.heap.size w3 w4 := by (repeat' (first | (with_reducible first | exact Below.refl _ _ | assumption | refine Below.alloc ?_ ?_ _ | refine Below.setCell ?_ ?_ _ | refine below_row ?_ ?_ _ | refine Below.drew ?_ | refine below_drewN ?_ _ | refine Below.trans ?_ (Below.mono (by assumption) ?_)) | exact Nat.le_refl _ | omega | (simp; done) | (simp; omega) | exact Below.size (by assumption)))
 clear LAc LAz LBc LBz
 have LA_4 := Lib.hid (LA_3.out.after hq4)
 clear LA_3
 have LB_4 := Lib.hid (LB_3.out.after hq4)
 clear LB_3
 have RA_4 := Lib.hid (RA_3.out.after hq4)
 clear RA_3
 have RB_4 := Lib.hid (RB_3.out.after hq4)
 clear RB_3
 have CL_4 := Lib.hid hr
 have hb4 : Below w.heap.size w w4 := hb3.trans (hq4.mono hb3.size)
 clear hr hb hcs hq4
 generalize hlc : clashR xs ys xs.length = lc at *
 have HLC := Lib.hid hlc
 clear hlc
 have LAc := LA_4.out.cell 0
 have LAz := LA_4.out.lt
 have LBc := LB_4.out.cell 0
 have LBz := LB_4.out.lt
 go_wp2_with fail
 refine (merge_s RA_4.out RB_4.out HCA.out HCB.out HZE.out (by omega)).mono ?_
 rintro e5 w5 ⟨A5, c5, rfl, hr, hcx, hb⟩
 have hq5 : Below w4.heap.size w4 w5 := by (repeat' (first | (with_reducible first | exact Below.refl _ _ | assumption | refine Below.alloc ?_ ?_ _ | refine Below.setCell ?_ ?_ _ | refine below_row ?_ ?_ _ | refine Below.drew ?_ | refine below_drewN ?_ _ | refine Below.trans ?_ (Below.mono (by assumption) ?_)) | exact Nat.le_refl _ | omega | (simp; done) | (simp; omega) | exact Below.size (by assumption)))
 clear LAc LAz LBc LBz
 have LA_5 := Lib.hid (LA_4.out.after hq5)
 clear LA_4
 have LB_5 := Lib.hid (LB_4.out.after hq5)
 clear LB_4
 have RA_5 := Lib.hid (RA_4.out.after hq5)
 clear RA_4
 have RB_5 := Lib.hid (RB_4.out.after hq5)
 clear RB_4
 have CL_5 := Lib.hid (CL_4.out.after hq5)
 clear CL_4
 have RX_5 := Lib.hid hr
 have hb5 : Below w.heap.size w w5 := hb4.trans (hq5.mono hb4.size)
 clear hr hb hq5
 have LX5 := Lib.hid (Lies.made w5 24 #[.slice A5 z.length c5])
 obtain ⟨wB, hwB⟩ : ∃ W, W = w5.alloc (.cells #[.slice A5 z.length c5] 24) := ⟨_, rfl⟩
 have hbB5 : Below w5.heap.size w5 wB := by rw [hwB]; exact (Below.refl _ _).alloc (Nat.le_refl _) _
 have hbB : Below w.heap.size w wB := hb5.trans (hbB5.mono hb5.size)
 rw [← hwB] at LX5
 have HBX := Lib.hid (fun W (hW : Below wB.heap.size wB W) => And.intro (LA_5.out.after (hbB5.trans (hW.mono hbB5.size))) (And.intro (LB_5.out.after (hbB5.trans (hW.mono hbB5.size))) (LX5.out.after hW)))
 have HRX := Lib.hid (fun W (hW : Below wB.heap.size wB W) => And.intro (RA_5.out.after (hbB5.trans (hW.mono hbB5.size))) (And.intro (RB_5.out.after (hbB5.trans (hW.mono hbB5.size))) (RX_5.out.after (hbB5.trans (hW.mono hbB5.size)))))
 have HCLC := Lib.hid (CL_5.out.after hbB5)
 have HWB := Lib.hid hwB
 clear hwB LA_5 LB_5 RA_5 RB_5 RX_5 CL_5 LX5 HQ1 HQ2 HLE HZE
 go_upto_region 6 with fail
 rw [← HWB.out]
 go_cut [57] (fun s57 wx => s57 = .bool false ∧ Below wB.heap.size wB wx)
 case first =>
  by_cases hl0 : lc.length = 0
  ·have hg : ¬ g = 23 := fun h => by have := HON.out.1 h; omega
   have hg2 : (g == 23) = false := by rw [beq_eq_false_iff_ne]; exact hg
   have hl2 : ¬ (0 : Int) < (lc.length : Int) := by omega
   have hl3 : ¬ 0 < lc.length := by omega
   clear hl0
   go_wp2_with fail
   go_meet
   exact ⟨rfl, Below.refl _ _⟩
  ·have hg : g = 23 := HON.out.2 (by omega)
   have hg2 : (g == 23) = true := by simp [hg]
   have hl2 : (0 : Int) < (lc.length : Int) := by omega
   have hl3 : 0 < lc.length := by omega
   clear hg
   go_wp2_with fail
   go_meet
   exact ⟨rfl, Below.refl _ _⟩
 case rest =>
  obtain ⟨rfl, hbx⟩ := hcut
  obtain ⟨wx, rfl⟩ : ∃ wx : World, wx = wc := ⟨_, rfl⟩
  have hal := HBX.out wx hbx
  have a0 := hal.1.cell 0
  have za := hal.1.lt
  clear hal
  go_wp2_with fail
  go_loopw [10, 11, 61] (fun cm df kk wr => ∃ k : Nat, cm = .int .i64 ((comL xs ys k).length : Nat) ∧ df = .int .i64 ((clashR xs ys k).length : Nat) ∧ kk = .int .i64 k ∧ k ≤ xs.length ∧ Below wB.heap.size wB wr) (fun _ _ kk _ => xs.length - (intOf kk).toNat)
  case atStart => exact ⟨0, rfl, rfl, rfl, by omega, hbx⟩
  case round =>
   obtain ⟨k, rfl, rfl, rfl, hk, hb⟩ := hrel
   by_cases hlt : k < xs.length
   ·have kl1 : (k : Int) < (xs.length : Int) := by omega
    obtain rfl := HA.out (by omega)
    have hwr := hbB.trans (hb.mono hbB.size)
    obtain ⟨A1, n1, A2, n2, i0, i1, i2, i3, i4, hi1, hi2⟩ := iss_at (HRW.out wr hwr).1 k hlt
    have hcs := HCS.out k hlt
    have hca := HCA2.out k hlt
    have HCN2 := Lib.hid (HCN.out k hlt)
    have HCY2 := Lib.hid (HCY.out k hlt)
    have hsx := HSM.out _ (List.getElem_mem hlt)
    have hcl1 := HCL.out k
    have hcr1 := HCR.out k
    have HCS2 := Lib.hid hcs
    have HCA3 := Lib.hid hca
    have HI1 := Lib.hid hi1
    have HI2 := Lib.hid hi2
    clear hcs hca hi1 hi2
    generalize xs[k] = x at *
    generalize hcom : (comL xs ys k).length = cn at *
    generalize hclk : (clashR xs ys k).length = dn at *
    have HCOM := Lib.hid hcom
    have HCLK := Lib.hid hclk
    clear hcom hclk
    go_upto_region 12 with fail
    have hss := hb.size
    have r0 := (Lies.made wr 45 #[.int .i64 x.d, .int .i64 x.l, .int .u8 x.k, .slice A1 x.items.length n1, .slice A2 x.dims.length n2])
    have hbq : Below wB.heap.size wB (wr.alloc (.cells #[.int .i64 x.d, .int .i64 x.l, .int .u8 x.k, .slice A1 x.items.length n1, .slice A2 x.dims.length n2] 45)) := hb.alloc hss _
    have hrq : Below wr.heap.size wr (wr.alloc (.cells #[.int .i64 x.d, .int .i64 x.l, .int .u8 x.k, .slice A1 x.items.length n1, .slice A2 x.dims.length n2] 45)) := (Below.refl _ _).alloc (Nat.le_refl _) _
    generalize hwq : wr.alloc (.cells #[.int .i64 x.d, .int .i64 x.l, .int .u8 x.k, .slice A1 x.items.length n1, .slice A2 x.dims.length n2] 45) = wq at *
    have LXQ := Lib.hid r0
    have HI3 := Lib.hid (HI1.out.after hrq)
    have HI4 := Lib.hid (HI2.out.after hrq)
    have r0a := r0.cell 0
    have r0b := r0.cell 1
    have r0c := r0.cell 2
    have r0d := r0.cell 3
    have r0e := r0.cell 4
    have x0 := (HBX.out wq hbq).2.1.cell 0
    clear r0
    go_cut [14, 15] (fun s14 s15 wy => ∃ (g2 : Nat) (y : Iss) (ee : Int) (A3 : Option Addr) (c3 : Nat) (A4 : Option Addr) (c4 : Nat), s14 = .pointer (some ⟨g2, 0, none⟩) ∧ s15 = .int .i64 ee ∧ Hid (Lies wy g2 45 #[.int .i64 y.d, .int .i64 y.l, .int .u8 y.k, .slice A3 y.items.length c3, .slice A4 y.dims.length c4]) ∧ Hid (ItemsAt wy (.slice A3 y.items.length c3) y.items) ∧ Hid (DimsAt wy (.slice A4 y.dims.length c4) y.dims) ∧ AtQ ys x.d x.l y ee ∧ (y.items.length ≤ 1000 ∧ y.dims.length ≤ 1000) ∧ Below wq.heap.size wq wy)
    case first =>
     refine wp_region_held_drew (S := fun W => W.cell? ⟨w.heap.size + 1, 0, none⟩ = some (.slice B ys.length e) ∧ W.cell? ⟨wr.heap.size, 0, none⟩ = some (.int .i64 x.d) ∧ W.cell? ⟨wr.heap.size, 1, none⟩ = some (.int .i64 x.l) ∧ W.cell? ⟨wr.heap.size, 2, none⟩ = some (.int .u8 x.k) ∧ W.cell? ⟨wr.heap.size, 3, none⟩ = some (.slice A1 x.items.length n1) ∧ W.cell? ⟨wr.heap.size, 4, none⟩ = some (.slice A2 x.dims.length n2)) (by kernel_rfl) ⟨x0, r0a, r0b, r0c, r0d, r0e⟩ (fun hHeld => ?_)
     have hvd : Below wq.heap.size wq wq.drew := (Below.refl _ _).drew
     have xd : wq.drew.cell? ⟨w.heap.size + 1, 0, none⟩ = some (.slice B ys.length e) := x0
     have rda : wq.drew.cell? ⟨wr.heap.size, 0, none⟩ = some (.int .i64 x.d) := r0a
     have rdb : wq.drew.cell? ⟨wr.heap.size, 1, none⟩ = some (.int .i64 x.l) := r0b
     have rdc : wq.drew.cell? ⟨wr.heap.size, 2, none⟩ = some (.int .u8 x.k) := r0c
     have rdd : wq.drew.cell? ⟨wr.heap.size, 3, none⟩ = some (.slice A1 x.items.length n1) := r0d
     have rde : wq.drew.cell? ⟨wr.heap.size, 4, none⟩ = some (.slice A2 x.dims.length n2) := r0e
     generalize hwd : wq.drew = wd at *
     refine take_at (i := 0) (v := ?_) rfl (by kernel_rfl) (by kernel_rfl) (by kernel_rfl) (fun _ _ _ h => h) (Or.inl ⟨by rfl, ?_⟩) (by assumption) ?_
     rotate_left
     ·(intro w hSw; (try dsimp only at hSw); go_simp; (try with_reducible rfl))
     try simp only [Act.put, List.setIfInBounds_toArray, List.set_cons_zero, List.set_cons_succ]
     refine take_at (i := 1) (v := ?_) rfl (by kernel_rfl) (by kernel_rfl) (by kernel_rfl) (fun _ _ _ h => h) (Or.inl ⟨by rfl, ?_⟩) (by assumption) ?_
     rotate_left
     ·(intro w hSw; (try dsimp only at hSw); go_simp; (try with_reducible rfl))
     try simp only [Act.put, List.setIfInBounds_toArray, List.set_cons_zero, List.set_cons_succ]
     refine wpAnyH_ready (rs := [2, 7]) (by kernel_rfl) (by simp) ?_
     refine cons_at rfl (fun K hK => ?_) (cons_at rfl (fun K hK => ?_) AllReadyH.nil)
     ·have hvd := hvd
      (first | (go_at_call 56; refine (refOf_s _ _ _ _ _ _).mono ?_; rintro e101 w101 ⟨rfl, gb⟩) | (go_simp; go_at_call 56; refine (refOf_s _ _ _ _ _ _).mono ?_; rintro e101 w101 ⟨rfl, gb⟩))
      have hv101 : Below wq.heap.size wq w101 := hvd.trans (gb.mono hvd.size)
      have x101 := cell_keep gb xd
      have r101a := cell_keep gb rda
      have r101b := cell_keep gb rdb
      have r101c := cell_keep gb rdc
      have r101d := cell_keep gb rdd
      have r101e := cell_keep gb rde
      refine hK.out _ _ ?_ (fun hHeld => ?_)
      ·exact ⟨x101, r101a, r101b, r101c, r101d, r101e⟩
      clear hK K gb hvd
      try simp only [Act.put, List.setIfInBounds_toArray, List.set_cons_zero, List.set_cons_succ]
      refine wpAnyH_ready (rs := [3, 7]) (by kernel_rfl) (by simp) ?_
      refine cons_at rfl (fun K hK => ?_) (cons_at rfl (fun K hK => ?_) AllReadyH.nil)
      ·have hvd := hv101
       (first | (go_at_call 26; refine (at_g ((HRX.out _ (hbq.trans (hvd.mono hbq.size))).2.1)).mono ?_; rintro e102 w102 ⟨y, ee, A3, c3, g3, A4, c4, g4, rfl, hi, hj, hg3, hg4, haq, hys, gb⟩) | (go_simp; go_at_call 26; refine (at_g ((HRX.out _ (hbq.trans (hvd.mono hbq.size))).2.1)).mono ?_; rintro e102 w102 ⟨y, ee, A3, c3, g3, A4, c4, g4, rfl, hi, hj, hg3, hg4, haq, hys, gb⟩))
       have hv102 : Below wq.heap.size wq w102 := hvd.trans (gb.mono hvd.size)
       have x102 := cell_keep gb x101
       have r102a := cell_keep gb r101a
       have r102b := cell_keep gb r101b
       have r102c := cell_keep gb r101c
       have r102d := cell_keep gb r101d
       have r102e := cell_keep gb r101e
       have HI102 := Lib.hid hi
       have HJ102 := Lib.hid hj
       have HG3 := Lib.hid hg3
       have HG4 := Lib.hid hg4
       have HGG102 := Lib.hid (fun h => (hg3 h).2)
       have HGH102 := Lib.hid (fun h => (hg4 h).2)
       refine hK.out _ _ ?_ (fun hHeld => ?_)
       ·exact ⟨x102, r102a, r102b, r102c, r102d, r102e⟩
       clear hK K gb hvd
       try simp only [Act.put, List.setIfInBounds_toArray, List.set_cons_zero, List.set_cons_succ]
       refine take_at (i := 4) (v := ?_) rfl (by kernel_rfl) (by kernel_rfl) (by kernel_rfl) (fun _ _ _ h => h) (Or.inl ⟨by rfl, ?_⟩) (by assumption) ?_
       rotate_left
       ·(intro w hSw; (try dsimp only at hSw); go_simp; (try with_reducible rfl))
       try simp only [Act.put, List.setIfInBounds_toArray, List.set_cons_zero, List.set_cons_succ]
       refine take_at (i := 5) (v := ?_) rfl (by kernel_rfl) (by kernel_rfl) (by kernel_rfl) (fun _ _ _ h => h) (Or.inl ⟨by rfl, ?_⟩) (by assumption) ?_
       rotate_left
       ·(intro w hSw; (try dsimp only at hSw); go_simp; (try with_reducible rfl))
       try simp only [Act.put, List.setIfInBounds_toArray, List.set_cons_zero, List.set_cons_succ]
       refine take_at (i := 6) (v := ?_) rfl (by kernel_rfl) (by kernel_rfl) (by kernel_rfl) (fun _ _ _ h => h) (Or.inl ⟨by rfl, ?_⟩) (by assumption) ?_
       rotate_left
       ·(intro w hSw; (try dsimp only at hSw); go_simp; (try with_reducible rfl))
       try simp only [Act.put, List.setIfInBounds_toArray, List.set_cons_zero, List.set_cons_succ]
       refine wpAnyH_ready (rs := [7]) (by kernel_rfl) (by simp) ?_
       refine cons_at rfl (fun K hK => ?_) AllReadyH.nil
       go_simp
       refine hK.out _ _ ?_ (fun hHeld => ?_)
       ·exact ⟨keep_nw x102, keep_nw r102a, keep_nw r102b, keep_nw r102c, keep_nw r102d, keep_nw r102e⟩
       clear hK K
       try simp only [Act.put, List.setIfInBounds_toArray, List.set_cons_zero, List.set_cons_succ]
       have x103 := keep_nw (o := .cells #[.int .i64 0, .int .i64 0, .int .u8 0, .slice none 0 0, .slice none 0 0] 45) x102
       have r103a := keep_nw (o := .cells #[.int .i64 0, .int .i64 0, .int .u8 0, .slice none 0 0, .slice none 0 0] 45) r102a
       have r103b := keep_nw (o := .cells #[.int .i64 0, .int .i64 0, .int .u8 0, .slice none 0 0, .slice none 0 0] 45) r102b
       have r103c := keep_nw (o := .cells #[.int .i64 0, .int .i64 0, .int .u8 0, .slice none 0 0, .slice none 0 0] 45) r102c
       have r103d := keep_nw (o := .cells #[.int .i64 0, .int .i64 0, .int .u8 0, .slice none 0 0, .slice none 0 0] 45) r102d
       have r103e := keep_nw (o := .cells #[.int .i64 0, .int .i64 0, .int .u8 0, .slice none 0 0, .slice none 0 0] 45) r102e
       have hv103 : Below wq.heap.size wq (w102.alloc (.cells #[.int .i64 0, .int .i64 0, .int .u8 0, .slice none 0 0, .slice none 0 0] 45)) := hv102.alloc hv102.size _
       have LZ103 := Lib.hid (Lies.made w102 45 #[.int .i64 0, .int .i64 0, .int .u8 0, .slice none 0 0, .slice none 0 0])
       have hg103 : wq.heap.size ≤ w102.heap.size := hv102.size
       have HI103 := Lib.hid (HI102.out.after ((Below.refl _ w102).alloc (Nat.le_refl _) (.cells #[.int .i64 0, .int .i64 0, .int .u8 0, .slice none 0 0, .slice none 0 0] 45)))
       have HJ103 := Lib.hid (HJ102.out.after ((Below.refl _ w102).alloc (Nat.le_refl _) (.cells #[.int .i64 0, .int .i64 0, .int .u8 0, .slice none 0 0, .slice none 0 0] 45)))
       have HGG103 := Lib.hid (fun h => (HGG102.out h).imp fun _ e => e.alloc (.cells #[.int .i64 0, .int .i64 0, .int .u8 0, .slice none 0 0, .slice none 0 0] 45))
       have HGH103 := Lib.hid (fun h => (HGH102.out h).imp fun _ e => e.alloc (.cells #[.int .i64 0, .int .i64 0, .int .u8 0, .slice none 0 0, .slice none 0 0] 45))
       generalize hw103 : (w102.alloc (.cells #[.int .i64 0, .int .i64 0, .int .u8 0, .slice none 0 0, .slice none 0 0] 45)) = w103 at *
       refine wpAnyH_ready (rs := [8]) (by kernel_rfl) (by simp) ?_
       refine cons_at rfl (fun K hK => ?_) AllReadyH.nil
       have y0 := LZ103.out.cell 0
       have f0 := LZ103.out.free 0
       have y1 := LZ103.out.cell 1
       have f1 := LZ103.out.free 1
       have y2 := LZ103.out.cell 2
       have f2 := LZ103.out.free 2
       have y3 := LZ103.out.cell 3
       have f3 := LZ103.out.free 3
       have y4 := LZ103.out.cell 4
       have f4 := LZ103.out.free 4
       go_simp
       refine hK.out _ _ ?_ (fun hHeld => ?_)
       ·exact ⟨(cell_five _ _ _ _ _ (by simp only; have := hg103; have := World.block_lt_of_cell? wq _ x0; simp only at this; omega)).trans x103, (cell_five _ _ _ _ _ (by simp only; have := hg103; have := World.block_lt_of_cell? wq _ r0a; simp only at this; omega)).trans r103a, (cell_five _ _ _ _ _ (by simp only; have := hg103; have := World.block_lt_of_cell? wq _ r0b; simp only at this; omega)).trans r103b, (cell_five _ _ _ _ _ (by simp only; have := hg103; have := World.block_lt_of_cell? wq _ r0c; simp only at this; omega)).trans r103c, (cell_five _ _ _ _ _ (by simp only; have := hg103; have := World.block_lt_of_cell? wq _ r0d; simp only at this; omega)).trans r103d, (cell_five _ _ _ _ _ (by simp only; have := hg103; have := World.block_lt_of_cell? wq _ r0e; simp only at this; omega)).trans r103e⟩
       clear hK K
       try simp only [Act.put, List.setIfInBounds_toArray, List.set_cons_zero, List.set_cons_succ]
       refine take_at (i := 9) (v := ?_) rfl (by kernel_rfl) (by kernel_rfl) (by kernel_rfl) (fun _ _ _ h => h) (Or.inl ⟨by rfl, ?_⟩) (by assumption) ?_
       rotate_left
       ·(intro w hSw; (try dsimp only at hSw); go_simp; (try with_reducible rfl))
       try simp only [Act.put, List.setIfInBounds_toArray, List.set_cons_zero, List.set_cons_succ]
       refine wpAnyH_done (by kernel_rfl) ?_ _
       go_wp2_with fail
       go_meet
       exact ⟨_, y, ee, A3, c3, A4, c4, rfl, rfl, Lib.hid (lies_five LZ103.out _ _ _ _ _), Lib.hid (items_five HI103.out (fun h => (HG3.out h).1) (fun h => lies_apart2 LZ103.out (HGG103.out h).choose_spec (by decide)) _ _ _ _ _), Lib.hid (dims_five HJ103.out (fun h => (HG4.out h).1) (fun h => lies_apart2 LZ103.out (HGH103.out h).choose_spec (by decide)) _ _ _ _ _), haq, hys, below_5s hv103 hg103 _ _ _ _ _⟩
      ·go_simp
       refine hK.out _ _ ?_ (fun hHeld => ?_)
       ·exact ⟨keep_nw x101, keep_nw r101a, keep_nw r101b, keep_nw r101c, keep_nw r101d, keep_nw r101e⟩
       clear hK K
       try simp only [Act.put, List.setIfInBounds_toArray, List.set_cons_zero, List.set_cons_succ]
       have x105 := keep_nw (o := .cells #[.int .i64 0, .int .i64 0, .int .u8 0, .slice none 0 0, .slice none 0 0] 45) x101
       have r105a := keep_nw (o := .cells #[.int .i64 0, .int .i64 0, .int .u8 0, .slice none 0 0, .slice none 0 0] 45) r101a
       have r105b := keep_nw (o := .cells #[.int .i64 0, .int .i64 0, .int .u8 0, .slice none 0 0, .slice none 0 0] 45) r101b
       have r105c := keep_nw (o := .cells #[.int .i64 0, .int .i64 0, .int .u8 0, .slice none 0 0, .slice none 0 0] 45) r101c
       have r105d := keep_nw (o := .cells #[.int .i64 0, .int .i64 0, .int .u8 0, .slice none 0 0, .slice none 0 0] 45) r101d
       have r105e := keep_nw (o := .cells #[.int .i64 0, .int .i64 0, .int .u8 0, .slice none 0 0, .slice none 0 0] 45) r101e
       have hv105 : Below wq.heap.size wq (w101.alloc (.cells #[.int .i64 0, .int .i64 0, .int .u8 0, .slice none 0 0, .slice none 0 0] 45)) := hv101.alloc hv101.size _
       have LZ105 := Lib.hid (Lies.made w101 45 #[.int .i64 0, .int .i64 0, .int .u8 0, .slice none 0 0, .slice none 0 0])
       have hg105 : wq.heap.size ≤ w101.heap.size := hv101.size
       generalize hw105 : (w101.alloc (.cells #[.int .i64 0, .int .i64 0, .int .u8 0, .slice none 0 0, .slice none 0 0] 45)) = w105 at *
       refine wpAnyH_ready (rs := [3]) (by kernel_rfl) (by simp) ?_
       refine cons_at rfl (fun K hK => ?_) AllReadyH.nil
       have hvd := hv105
       (first | (go_at_call 26; refine (at_g ((HRX.out _ (hbq.trans (hvd.mono hbq.size))).2.1)).mono ?_; rintro e106 w106 ⟨y, ee, A3, c3, g3, A4, c4, g4, rfl, hi, hj, hg3, hg4, haq, hys, gb⟩) | (go_simp; go_at_call 26; refine (at_g ((HRX.out _ (hbq.trans (hvd.mono hbq.size))).2.1)).mono ?_; rintro e106 w106 ⟨y, ee, A3, c3, g3, A4, c4, g4, rfl, hi, hj, hg3, hg4, haq, hys, gb⟩))
       have hv106 : Below wq.heap.size wq w106 := hvd.trans (gb.mono hvd.size)
       have x106 := cell_keep gb x105
       have r106a := cell_keep gb r105a
       have r106b := cell_keep gb r105b
       have r106c := cell_keep gb r105c
       have r106d := cell_keep gb r105d
       have r106e := cell_keep gb r105e
       have LZ106 := Lib.hid (LZ105.out.after gb)
       have hg106 := hg105
       have HI106 := Lib.hid hi
       have HJ106 := Lib.hid hj
       have HG3 := Lib.hid hg3
       have HG4 := Lib.hid hg4
       have HGG106 := Lib.hid (fun h => (hg3 h).2)
       have HGH106 := Lib.hid (fun h => (hg4 h).2)
       refine hK.out _ _ ?_ (fun hHeld => ?_)
       ·exact ⟨x106, r106a, r106b, r106c, r106d, r106e⟩
       clear hK K gb hvd
       try simp only [Act.put, List.setIfInBounds_toArray, List.set_cons_zero, List.set_cons_succ]
       refine take_at (i := 4) (v := ?_) rfl (by kernel_rfl) (by kernel_rfl) (by kernel_rfl) (fun _ _ _ h => h) (Or.inl ⟨by rfl, ?_⟩) (by assumption) ?_
       rotate_left
       ·(intro w hSw; (try dsimp only at hSw); go_simp; (try with_reducible rfl))
       try simp only [Act.put, List.setIfInBounds_toArray, List.set_cons_zero, List.set_cons_succ]
       refine take_at (i := 5) (v := ?_) rfl (by kernel_rfl) (by kernel_rfl) (by kernel_rfl) (fun _ _ _ h => h) (Or.inl ⟨by rfl, ?_⟩) (by assumption) ?_
       rotate_left
       ·(intro w hSw; (try dsimp only at hSw); go_simp; (try with_reducible rfl))
       try simp only [Act.put, List.setIfInBounds_toArray, List.set_cons_zero, List.set_cons_succ]
       refine take_at (i := 6) (v := ?_) rfl (by kernel_rfl) (by kernel_rfl) (by kernel_rfl) (fun _ _ _ h => h) (Or.inl ⟨by rfl, ?_⟩) (by assumption) ?_
       rotate_left
       ·(intro w hSw; (try dsimp only at hSw); go_simp; (try with_reducible rfl))
       try simp only [Act.put, List.setIfInBounds_toArray, List.set_cons_zero, List.set_cons_succ]
       refine wpAnyH_ready (rs := [8]) (by kernel_rfl) (by simp) ?_
       refine cons_at rfl (fun K hK => ?_) AllReadyH.nil
       have y0 := LZ106.out.cell 0
       have f0 := LZ106.out.free 0
       have y1 := LZ106.out.cell 1
       have f1 := LZ106.out.free 1
       have y2 := LZ106.out.cell 2
       have f2 := LZ106.out.free 2
       have y3 := LZ106.out.cell 3
       have f3 := LZ106.out.free 3
       have y4 := LZ106.out.cell 4
       have f4 := LZ106.out.free 4
       go_simp
       refine hK.out _ _ ?_ (fun hHeld => ?_)
       ·exact ⟨(cell_five _ _ _ _ _ (by simp only; have := hg106; have := World.block_lt_of_cell? wq _ x0; simp only at this; omega)).trans x106, (cell_five _ _ _ _ _ (by simp only; have := hg106; have := World.block_lt_of_cell? wq _ r0a; simp only at this; omega)).trans r106a, (cell_five _ _ _ _ _ (by simp only; have := hg106; have := World.block_lt_of_cell? wq _ r0b; simp only at this; omega)).trans r106b, (cell_five _ _ _ _ _ (by simp only; have := hg106; have := World.block_lt_of_cell? wq _ r0c; simp only at this; omega)).trans r106c, (cell_five _ _ _ _ _ (by simp only; have := hg106; have := World.block_lt_of_cell? wq _ r0d; simp only at this; omega)).trans r106d, (cell_five _ _ _ _ _ (by simp only; have := hg106; have := World.block_lt_of_cell? wq _ r0e; simp only at this; omega)).trans r106e⟩
       clear hK K
       try simp only [Act.put, List.setIfInBounds_toArray, List.set_cons_zero, List.set_cons_succ]
       refine take_at (i := 9) (v := ?_) rfl (by kernel_rfl) (by kernel_rfl) (by kernel_rfl) (fun _ _ _ h => h) (Or.inl ⟨by rfl, ?_⟩) (by assumption) ?_
       rotate_left
       ·(intro w hSw; (try dsimp only at hSw); go_simp; (try with_reducible rfl))
       try simp only [Act.put, List.setIfInBounds_toArray, List.set_cons_zero, List.set_cons_succ]
       refine wpAnyH_done (by kernel_rfl) ?_ _
       go_wp2_with fail
       go_meet
       exact ⟨_, y, ee, A3, c3, A4, c4, rfl, rfl, Lib.hid (lies_five LZ106.out _ _ _ _ _), Lib.hid (items_five HI106.out (fun h => (HG3.out h).1) (fun h => lies_apart2 LZ106.out (HGG106.out h).choose_spec (by decide)) _ _ _ _ _), Lib.hid (dims_five HJ106.out (fun h => (HG4.out h).1) (fun h => lies_apart2 LZ106.out (HGH106.out h).choose_spec (by decide)) _ _ _ _ _), haq, hys, below_5s hv106 hg106 _ _ _ _ _⟩
     ·go_simp
      refine hK.out _ _ ?_ (fun hHeld => ?_)
      ·exact ⟨keep_nw xd, keep_nw rda, keep_nw rdb, keep_nw rdc, keep_nw rdd, keep_nw rde⟩
      clear hK K
      try simp only [Act.put, List.setIfInBounds_toArray, List.set_cons_zero, List.set_cons_succ]
      have x108 := keep_nw (o := .cells #[.int .i64 0, .int .i64 0, .int .u8 0, .slice none 0 0, .slice none 0 0] 45) xd
      have r108a := keep_nw (o := .cells #[.int .i64 0, .int .i64 0, .int .u8 0, .slice none 0 0, .slice none 0 0] 45) rda
      have r108b := keep_nw (o := .cells #[.int .i64 0, .int .i64 0, .int .u8 0, .slice none 0 0, .slice none 0 0] 45) rdb
      have r108c := keep_nw (o := .cells #[.int .i64 0, .int .i64 0, .int .u8 0, .slice none 0 0, .slice none 0 0] 45) rdc
      have r108d := keep_nw (o := .cells #[.int .i64 0, .int .i64 0, .int .u8 0, .slice none 0 0, .slice none 0 0] 45) rdd
      have r108e := keep_nw (o := .cells #[.int .i64 0, .int .i64 0, .int .u8 0, .slice none 0 0, .slice none 0 0] 45) rde
      have hv108 : Below wq.heap.size wq (wd.alloc (.cells #[.int .i64 0, .int .i64 0, .int .u8 0, .slice none 0 0, .slice none 0 0] 45)) := hvd.alloc hvd.size _
      have LZ108 := Lib.hid (Lies.made wd 45 #[.int .i64 0, .int .i64 0, .int .u8 0, .slice none 0 0, .slice none 0 0])
      have hg108 : wq.heap.size ≤ wd.heap.size := hvd.size
      generalize hw108 : (wd.alloc (.cells #[.int .i64 0, .int .i64 0, .int .u8 0, .slice none 0 0, .slice none 0 0] 45)) = w108 at *
      refine wpAnyH_ready (rs := [2]) (by kernel_rfl) (by simp) ?_
      refine cons_at rfl (fun K hK => ?_) AllReadyH.nil
      have hvd := hv108
      (first | (go_at_call 56; refine (refOf_s _ _ _ _ _ _).mono ?_; rintro e109 w109 ⟨rfl, gb⟩) | (go_simp; go_at_call 56; refine (refOf_s _ _ _ _ _ _).mono ?_; rintro e109 w109 ⟨rfl, gb⟩))
      have hv109 : Below wq.heap.size wq w109 := hvd.trans (gb.mono hvd.size)
      have x109 := cell_keep gb x108
      have r109a := cell_keep gb r108a
      have r109b := cell_keep gb r108b
      have r109c := cell_keep gb r108c
      have r109d := cell_keep gb r108d
      have r109e := cell_keep gb r108e
      have LZ109 := Lib.hid (LZ108.out.after gb)
      have hg109 := hg108
      refine hK.out _ _ ?_ (fun hHeld => ?_)
      ·exact ⟨x109, r109a, r109b, r109c, r109d, r109e⟩
      clear hK K gb hvd
      try simp only [Act.put, List.setIfInBounds_toArray, List.set_cons_zero, List.set_cons_succ]
      refine wpAnyH_ready (rs := [3]) (by kernel_rfl) (by simp) ?_
      refine cons_at rfl (fun K hK => ?_) AllReadyH.nil
      have hvd := hv109
      (first | (go_at_call 26; refine (at_g ((HRX.out _ (hbq.trans (hvd.mono hbq.size))).2.1)).mono ?_; rintro e110 w110 ⟨y, ee, A3, c3, g3, A4, c4, g4, rfl, hi, hj, hg3, hg4, haq, hys, gb⟩) | (go_simp; go_at_call 26; refine (at_g ((HRX.out _ (hbq.trans (hvd.mono hbq.size))).2.1)).mono ?_; rintro e110 w110 ⟨y, ee, A3, c3, g3, A4, c4, g4, rfl, hi, hj, hg3, hg4, haq, hys, gb⟩))
      have hv110 : Below wq.heap.size wq w110 := hvd.trans (gb.mono hvd.size)
      have x110 := cell_keep gb x109
      have r110a := cell_keep gb r109a
      have r110b := cell_keep gb r109b
      have r110c := cell_keep gb r109c
      have r110d := cell_keep gb r109d
      have r110e := cell_keep gb r109e
      have LZ110 := Lib.hid (LZ109.out.after gb)
      have hg110 := hg109
      have HI110 := Lib.hid hi
      have HJ110 := Lib.hid hj
      have HG3 := Lib.hid hg3
      have HG4 := Lib.hid hg4
      have HGG110 := Lib.hid (fun h => (hg3 h).2)
      have HGH110 := Lib.hid (fun h => (hg4 h).2)
      refine hK.out _ _ ?_ (fun hHeld => ?_)
      ·exact ⟨x110, r110a, r110b, r110c, r110d, r110e⟩
      clear hK K gb hvd
      try simp only [Act.put, List.setIfInBounds_toArray, List.set_cons_zero, List.set_cons_succ]
      refine take_at (i := 4) (v := ?_) rfl (by kernel_rfl) (by kernel_rfl) (by kernel_rfl) (fun _ _ _ h => h) (Or.inl ⟨by rfl, ?_⟩) (by assumption) ?_
      rotate_left
      ·(intro w hSw; (try dsimp only at hSw); go_simp; (try with_reducible rfl))
      try simp only [Act.put, List.setIfInBounds_toArray, List.set_cons_zero, List.set_cons_succ]
      refine take_at (i := 5) (v := ?_) rfl (by kernel_rfl) (by kernel_rfl) (by kernel_rfl) (fun _ _ _ h => h) (Or.inl ⟨by rfl, ?_⟩) (by assumption) ?_
      rotate_left
      ·(intro w hSw; (try dsimp only at hSw); go_simp; (try with_reducible rfl))
      try simp only [Act.put, List.setIfInBounds_toArray, List.set_cons_zero, List.set_cons_succ]
      refine take_at (i := 6) (v := ?_) rfl (by kernel_rfl) (by kernel_rfl) (by kernel_rfl) (fun _ _ _ h => h) (Or.inl ⟨by rfl, ?_⟩) (by assumption) ?_
      rotate_left
      ·(intro w hSw; (try dsimp only at hSw); go_simp; (try with_reducible rfl))
      try simp only [Act.put, List.setIfInBounds_toArray, List.set_cons_zero, List.set_cons_succ]
      refine wpAnyH_ready (rs := [8]) (by kernel_rfl) (by simp) ?_
      refine cons_at rfl (fun K hK => ?_) AllReadyH.nil
      have y0 := LZ110.out.cell 0
      have f0 := LZ110.out.free 0
      have y1 := LZ110.out.cell 1
      have f1 := LZ110.out.free 1
      have y2 := LZ110.out.cell 2
      have f2 := LZ110.out.free 2
      have y3 := LZ110.out.cell 3
      have f3 := LZ110.out.free 3
      have y4 := LZ110.out.cell 4
      have f4 := LZ110.out.free 4
      go_simp
      refine hK.out _ _ ?_ (fun hHeld => ?_)
      ·exact ⟨(cell_five _ _ _ _ _ (by simp only; have := hg110; have := World.block_lt_of_cell? wq _ x0; simp only at this; omega)).trans x110, (cell_five _ _ _ _ _ (by simp only; have := hg110; have := World.block_lt_of_cell? wq _ r0a; simp only at this; omega)).trans r110a, (cell_five _ _ _ _ _ (by simp only; have := hg110; have := World.block_lt_of_cell? wq _ r0b; simp only at this; omega)).trans r110b, (cell_five _ _ _ _ _ (by simp only; have := hg110; have := World.block_lt_of_cell? wq _ r0c; simp only at this; omega)).trans r110c, (cell_five _ _ _ _ _ (by simp only; have := hg110; have := World.block_lt_of_cell? wq _ r0d; simp only at this; omega)).trans r110d, (cell_five _ _ _ _ _ (by simp only; have := hg110; have := World.block_lt_of_cell? wq _ r0e; simp only at this; omega)).trans r110e⟩
      clear hK K
      try simp only [Act.put, List.setIfInBounds_toArray, List.set_cons_zero, List.set_cons_succ]
      refine take_at (i := 9) (v := ?_) rfl (by kernel_rfl) (by kernel_rfl) (by kernel_rfl) (fun _ _ _ h => h) (Or.inl ⟨by rfl, ?_⟩) (by assumption) ?_
      rotate_left
      ·(intro w hSw; (try dsimp only at hSw); go_simp; (try with_reducible rfl))
      try simp only [Act.put, List.setIfInBounds_toArray, List.set_cons_zero, List.set_cons_succ]
      refine wpAnyH_done (by kernel_rfl) ?_ _
      go_wp2_with fail
      go_meet
      exact ⟨_, y, ee, A3, c3, A4, c4, rfl, rfl, Lib.hid (lies_five LZ110.out _ _ _ _ _), Lib.hid (items_five HI110.out (fun h => (HG3.out h).1) (fun h => lies_apart2 LZ110.out (HGG110.out h).choose_spec (by decide)) _ _ _ _ _), Lib.hid (dims_five HJ110.out (fun h => (HG4.out h).1) (fun h => lies_apart2 LZ110.out (HGH110.out h).choose_spec (by decide)) _ _ _ _ _), haq, hys, below_5s hv110 hg110 _ _ _ _ _⟩
    case rest =>
     obtain ⟨g2, y, ee, A3, c3, A4, c4, rfl, rfl, LY, HJ3, HJ4, haq, hys, hby⟩ := hcut
     obtain ⟨wy, rfl⟩ : ∃ wx : World, wx = wc := ⟨_, rfl⟩
     have hbw : Below wB.heap.size wB wy := hbq.trans (hby.mono hbq.size)
     by_cases hhn : hasN ys x.d x.l = true
     ·obtain ⟨y', hy', e1, e2⟩ := hasN_iff.1 hhn
      obtain ⟨rfl, rfl⟩ := HAI.out y' y ee hy' (by rw [e1, e2]; exact haq)
      have hit := HHN.out x y hy' e1 e2
      clear e1 e2
      have kc1 : IntKind.i64.wrap ((cn : Int) + 1) = (cn : Int) + 1 := IntWalk.i64_in _ (by omega)
      have HCM : Hid ((comL xs ys (k + 1)).length = cn + 1) := Lib.hid (by rw [HCS2.out, if_pos hhn])
      have hls := LXQ.out.after hby
      have s0 := hls.cell 0
      have s1 := hls.cell 1
      have s2 := hls.cell 2
      have s3 := hls.cell 3
      have s4 := hls.cell 4
      have sz := hls.lt
      have t0 := LY.out.cell 0
      have t1 := LY.out.cell 1
      have t2 := LY.out.cell 2
      have t3 := LY.out.cell 3
      have t4 := LY.out.cell 4
      have tz := LY.out.lt
      have hsi := rSameIssue_any x y (.slice A1 x.items.length n1) (.slice A2 x.dims.length n2) (.slice A3 y.items.length c3) (.slice A4 y.dims.length c4) wy (by omega) (by omega) (by omega) (by omega) (HI3.out.after hby) HJ3.out (HI4.out.after hby) HJ4.out
      by_cases hxy : x = y
      ·have hh : hitB ys x = false := by rw [hit]; simp [hxy]
       have HCD : Hid ((clashR xs ys (k + 1)).length = dn) := Lib.hid (by rw [HCN2.out hh, HCLK.out])
       rw [sameI_iff.2 hxy] at hsi
       clear hh hit hxy haq hhn
       go_wp2_with fail
       refine hsi.mono ?_
       rintro e16 w16 ⟨rfl, gb16⟩
       have hb16 : Below wB.heap.size wB w16 := hbw.trans (gb16.mono hbw.size)
       clear gb16 hsi
       go_wp2_with fail
       go_roundw
       case rel => exact ⟨k + 1, by rw [HCM.out]; go_num, by rw [HCD.out], by go_num, by omega, hb16⟩
       case measure => simp [intOf]; omega
      ·have hh : hitB ys x = true := by rw [hit]; simp [hxy]
       have HCD : Hid ((clashR xs ys (k + 1)).length = dn + 1) := Lib.hid (HCY2.out hh)
       have hca := HCA3.out hh
       have hsf : sameI x y = false := by rw [← Bool.not_eq_true, sameI_iff]; exact hxy
       rw [hsf] at hsi
       obtain ⟨hdn, hde⟩ := List.getElem?_eq_some_iff.1 hca
       have kd1 : IntKind.i64.wrap ((dn : Int) + 1) = (dn : Int) + 1 := IntWalk.i64_in _ (by omega)
       have kd2 : (dn : Int) < (lc.length : Int) := by omega
       have kd3 : ¬ lc.length ≤ dn := by omega
       have kd4 : ¬ (lc.length : Int) ≤ (dn : Int) := by omega
       have kd5 : decide ((lc.length : Int) ≤ (dn : Int)) = false := by simp; omega
       obtain ⟨A', c', bL, oL, eL, hAL, hcL⟩ := HCLC.out
       injection eL with e3 e4 e5
       subst e3 e5
       obtain rfl := hAL (by omega)
       obtain ⟨l0, l1⟩ := hcL dn hdn
       rw [hde] at l0 l1
       simp only at l0 l1
       have l0 := cell_keep hbw l0
       have l1 := cell_keep hbw l1
       clear hh hit hxy haq hhn hca hde hAL hcL hsf
       go_wp2_with fail
       refine hsi.mono ?_
       rintro e16 w16 ⟨rfl, gb16⟩
       have l0 := cell_keep gb16 l0
       have l1 := cell_keep gb16 l1
       have s0 := cell_keep gb16 s0
       have s1 := cell_keep gb16 s1
       have s2 := cell_keep gb16 s2
       have s3 := cell_keep gb16 s3
       have s4 := cell_keep gb16 s4
       have hb16 : Below wB.heap.size wB w16 := hbw.trans (gb16.mono hbw.size)
       clear gb16 hsi t0 t1 t2 t3 t4 tz sz
       go_upto_region 16 with fail
       refine wp_region_held_drew (S := fun W => W.cell? ⟨bL, oL + dn * 2, none⟩ = some (.int .i64 x.d) ∧ W.cell? ⟨bL, oL + dn * 2 + 1, none⟩ = some (.int .i64 x.l) ∧ W.cell? ⟨wr.heap.size, 0, none⟩ = some (.int .i64 x.d) ∧ W.cell? ⟨wr.heap.size, 1, none⟩ = some (.int .i64 x.l) ∧ W.cell? ⟨wr.heap.size, 2, none⟩ = some (.int .u8 x.k) ∧ W.cell? ⟨wr.heap.size, 3, none⟩ = some (.slice A1 x.items.length n1) ∧ W.cell? ⟨wr.heap.size, 4, none⟩ = some (.slice A2 x.dims.length n2)) (by kernel_rfl) ⟨l0, l1, s0, s1, s2, s3, s4⟩ (fun hHeld => ?_)
       refine take_at (i := 0) (v := ?_) rfl (by kernel_rfl) (by kernel_rfl) (by kernel_rfl) (fun _ _ _ h => h) (Or.inl ⟨by rfl, ?_⟩) (by assumption) ?_
       rotate_left
       ·(intro w hSw; (try dsimp only at hSw); go_simp; (try with_reducible rfl))
       try simp only [Act.put, List.setIfInBounds_toArray, List.set_cons_zero, List.set_cons_succ]
       refine take_at (i := 1) (v := ?_) rfl (by kernel_rfl) (by kernel_rfl) (by kernel_rfl) (fun _ _ _ h => h) (Or.inl ⟨by rfl, ?_⟩) (by assumption) ?_
       rotate_left
       ·(intro w hSw; (try dsimp only at hSw); go_simp; (try with_reducible rfl))
       try simp only [Act.put, List.setIfInBounds_toArray, List.set_cons_zero, List.set_cons_succ]
       refine take_at (i := 2) (v := ?_) rfl (by kernel_rfl) (by kernel_rfl) (by kernel_rfl) (fun _ _ _ h => h) (Or.inl ⟨by rfl, ?_⟩) (by assumption) ?_
       rotate_left
       ·(intro w hSw; (try dsimp only at hSw); go_simp; (try with_reducible rfl))
       try simp only [Act.put, List.setIfInBounds_toArray, List.set_cons_zero, List.set_cons_succ]
       refine take_at (i := 3) (v := ?_) rfl (by kernel_rfl) (by kernel_rfl) (by kernel_rfl) (fun _ _ _ h => h) (Or.inl ⟨by rfl, ?_⟩) (by assumption) ?_
       rotate_left
       ·(intro w hSw; (try dsimp only at hSw); go_simp; (try with_reducible rfl))
       try simp only [Act.put, List.setIfInBounds_toArray, List.set_cons_zero, List.set_cons_succ]
       refine take_at (i := 4) (v := ?_) rfl (by kernel_rfl) (by kernel_rfl) (by kernel_rfl) (fun _ _ _ h => h) (Or.inl ⟨by rfl, ?_⟩) (by assumption) ?_
       rotate_left
       ·(intro w hSw; (try dsimp only at hSw); go_simp; (try with_reducible rfl))
       try simp only [Act.put, List.setIfInBounds_toArray, List.set_cons_zero, List.set_cons_succ]
       refine take_at (i := 5) (v := ?_) rfl (by kernel_rfl) (by kernel_rfl) (by kernel_rfl) (fun _ _ _ h => h) (Or.inl ⟨by rfl, ?_⟩) (by assumption) ?_
       rotate_left
       ·(intro w hSw; (try dsimp only at hSw); go_simp; (try with_reducible rfl))
       try simp only [Act.put, List.setIfInBounds_toArray, List.set_cons_zero, List.set_cons_succ]
       refine take_at (i := 6) (v := ?_) rfl (by kernel_rfl) (by kernel_rfl) (by kernel_rfl) (fun _ _ _ h => h) (Or.inl ⟨by rfl, ?_⟩) (by assumption) ?_
       rotate_left
       ·(intro w hSw; (try dsimp only at hSw); go_simp; (try with_reducible rfl))
       try simp only [Act.put, List.setIfInBounds_toArray, List.set_cons_zero, List.set_cons_succ]
       refine take_at (i := 7) (v := ?_) rfl (by kernel_rfl) (by kernel_rfl) (by kernel_rfl) (fun _ _ _ h => h) (Or.inl ⟨by rfl, ?_⟩) (by assumption) ?_
       rotate_left
       ·(intro w hSw; (try dsimp only at hSw); go_simp; (try with_reducible rfl))
       try simp only [Act.put, List.setIfInBounds_toArray, List.set_cons_zero, List.set_cons_succ]
       refine take_at (i := 8) (v := ?_) rfl (by kernel_rfl) (by kernel_rfl) (by kernel_rfl) (fun _ _ _ h => h) (Or.inl ⟨by rfl, ?_⟩) (by assumption) ?_
       rotate_left
       ·(intro w hSw; (try dsimp only at hSw); go_simp; (try with_reducible rfl))
       try simp only [Act.put, List.setIfInBounds_toArray, List.set_cons_zero, List.set_cons_succ]
       refine take_at (i := 9) (v := ?_) rfl (by kernel_rfl) (by kernel_rfl) (by kernel_rfl) (fun _ _ _ h => h) (Or.inl ⟨by rfl, ?_⟩) (by assumption) ?_
       rotate_left
       ·(intro w hSw; (try dsimp only at hSw); go_simp; (try with_reducible rfl))
       try simp only [Act.put, List.setIfInBounds_toArray, List.set_cons_zero, List.set_cons_succ]
       refine wpAnyH_ready (rs := [10]) (by kernel_rfl) (by simp) ?_
       refine cons_at rfl (fun K hK => ?_) AllReadyH.nil
       (first | (go_at_call 56; refine (refOf_s _ _ _ _ _ _).mono ?_; rintro e17 w17 ⟨rfl, gb17⟩; skip) | (go_simp; go_at_call 56; refine (refOf_s _ _ _ _ _ _).mono ?_; rintro e17 w17 ⟨rfl, gb17⟩; skip))
       refine hK.out _ _ ?_ (fun hHeld => ?_)
       ·exact ⟨cell_keep gb17 l0, cell_keep gb17 l1, cell_keep gb17 s0, cell_keep gb17 s1, cell_keep gb17 s2, cell_keep gb17 s3, cell_keep gb17 s4⟩
       clear hK K
       try simp only [Act.put, List.setIfInBounds_toArray, List.set_cons_zero, List.set_cons_succ]
       refine take_at (i := 11) (v := ?_) rfl (by kernel_rfl) (by kernel_rfl) (by kernel_rfl) (fun _ _ _ h => h) (Or.inl ⟨by rfl, ?_⟩) (by assumption) ?_
       rotate_left
       ·(intro w hSw; (try dsimp only at hSw); go_simp; (try with_reducible rfl))
       try simp only [Act.put, List.setIfInBounds_toArray, List.set_cons_zero, List.set_cons_succ]
       refine take_at (i := 12) (v := ?_) rfl (by kernel_rfl) (by kernel_rfl) (by kernel_rfl) (fun _ _ _ h => h) (Or.inl ⟨by rfl, ?_⟩) (by assumption) ?_
       rotate_left
       ·(intro w hSw; (try dsimp only at hSw); go_simp; (try with_reducible rfl))
       try simp only [Act.put, List.setIfInBounds_toArray, List.set_cons_zero, List.set_cons_succ]
       refine wpAnyH_done (by kernel_rfl) ?_ _
       have hb17 : Below wB.heap.size wB w17 := hb16.drew.trans (gb17.mono hb16.drew.size)
       go_wp2_with fail
       go_roundw
       case rel => exact ⟨k + 1, by rw [HCM.out]; go_num, by rw [HCD.out]; go_num, by go_num, by omega, hb17⟩
       case measure => simp [intOf]; omega
     ·have hee := HAO.out x.d x.l y ee (by simpa using hhn) haq
      have HCM : Hid ((comL xs ys (k + 1)).length = cn) := Lib.hid (by rw [HCS2.out, if_neg hhn]; rfl)
      have HCD : Hid ((clashR xs ys (k + 1)).length = dn) := Lib.hid (by rw [HCN2.out (HHO.out x (by simpa using hhn)), HCLK.out])
      subst hee
      clear haq hhn
      go_wp2_with fail
      go_roundw
      case rel => exact ⟨k + 1, by rw [HCM.out], by rw [HCD.out], by go_num, by omega, hbw⟩
      case measure => simp [intOf]; omega
   ·have hke : k = xs.length := by omega
    subst hke
    have kl1 : ¬ (xs.length : Int) < (xs.length : Int) := by omega
    rw [HLC.out]
    generalize hcn : (comL xs ys xs.length).length = cn at *
    clear hcn HCS HCA2 HCN HCY HAI HAO HHN HHO HCLC a0 za
    have hss := hb.size
    have hcc := HCL.out xs.length
    obtain ⟨wr2, rfl⟩ : ∃ z, z = wr := ⟨_, rfl⟩
    have hb2 : Below wB.heap.size wB wr2 := hb
    have hbw2 : Below w.heap.size w wr2 := hbB.trans (hb2.mono hbB.size)
    by_cases hg0 : g = 0
    ·obtain ⟨hz1, hz2, hz3⟩ := HOS.out hg0
     have HZ2 := Lib.hid hz2
     have HZ1 := Lib.hid hz1
     subst hg0
     have hal := HBX.out wr2 hb2
     have p0 := hal.1.cell 0
     have p1 := hal.1.lt
     have p2 := hal.2.1.cell 0
     have p3 := hal.2.1.lt
     have p4 := hal.2.2.cell 0
     have p5 := hal.2.2.lt
     have hck := sCheck_any (HRX.out wr2 hb2).2.2
     rw [hz1] at hck
     have hzl2 : z.length ≤ 60 := (layE_ok hz1).1.2
     clear hal hz1 hz2 HOS HON HOC
     go_wp2_with fail
     refine hck.mono ?_
     rintro e20 w20 ⟨rfl, gb20⟩
     have hb20 : Below wB.heap.size wB w20 := hb2.trans (gb20.mono hb2.size)
     have hal := HBX.out w20 hb20
     have p0 := hal.1.cell 0
     have p1 := hal.1.lt
     have p2 := hal.2.1.cell 0
     have p3 := hal.2.1.lt
     have p4 := hal.2.2.cell 0
     have p5 := hal.2.2.lt
     have hrd := ready_v (HRX.out w20 hb20).2.2
     rw [ready_of HZ1.out] at hrd
     clear hal hck gb20
     go_wp2_with fail
     refine hrd.mono ?_
     rintro e21 w21 ⟨rfl, gb21⟩
     have hb21 : Below wB.heap.size wB w21 := hb20.trans (gb21.mono hb20.size)
     have hal := HBX.out w21 hb21
     have p0 := hal.1.cell 0
     have p1 := hal.1.lt
     have p2 := hal.2.1.cell 0
     have p3 := hal.2.1.lt
     have p4 := hal.2.2.cell 0
     have p5 := hal.2.2.lt
     have kz1 : IntKind.i64.wrap ((xs.length : Int) + (ys.length : Int)) = (xs.length : Int) + (ys.length : Int) := IntWalk.i64_in _ (by omega)
     have kz2 : IntKind.i64.wrap ((xs.length : Int) + (ys.length : Int) - (cn : Int)) = (z.length : Int) := by rw [IntWalk.i64_in _ (by omega)]; omega
     have kz3 : ((z.length : Int) != (z.length : Int)) = false := by simp
     clear hal hrd gb21 hz3
     have hs21 := hb21.size
     have LD0 := Lies.made w21 24 #[.slice A xs.length c, .slice B ys.length e]
     obtain ⟨wD, hwD⟩ : ∃ W, W = w21.alloc (.cells #[.slice A xs.length c, .slice B ys.length e] 24) := ⟨_, rfl⟩
     have hbD : Below wB.heap.size wB wD := by rw [hwD]; exact hb21.alloc hs21 _
     rw [← hwD] at LD0
     have LD := Lib.hid LD0
     have HWD := Lib.hid hwD
     have hbwD : Below w.heap.size w wD := hbB.trans (hbD.mono hbB.size)
     clear hwD LD0
     go_wp2_with fail
     rw [← HWD.out]
     go_loopw [141] (fun q wr => ∃ qq : Nat, q = .int .i64 qq ∧ qq ≤ 2 ∧ Below wD.heap.size wD wr) (fun q _ => 2 - (intOf q).toNat)
     case atStart => exact ⟨0, rfl, by omega, Below.refl _ _⟩
     case round =>
      obtain ⟨qq, rfl, hq, hbe⟩ := hrel
      by_cases hq2 : qq < 2
      ·obtain ⟨us, AU, cU, bU, oU, viU, vdU, hcell, hAU, hrow, hmem, hul, husm⟩ : ∃ (us : List Iss) (AU : Option Addr) (cU bU oU : Nat) (viU vdU : Nat → Value), wr.cell? ⟨w21.heap.size, qq, none⟩ = some (.slice AU us.length cU) ∧ (0 < us.length → AU = some ⟨bU, oU, none⟩) ∧ (∀ W, Below w.heap.size w W → IssRow W bU oU us viU vdU) ∧ (∀ x ∈ us, x ∈ z) ∧ us.length ≤ 80 ∧ ∀ x ∈ us, x.items.length ≤ 16 ∧ x.dims.length ≤ 8 := by
        have h0 := (LD.out.after hbe).cell 0
        have h1 := (LD.out.after hbe).cell 1
        rcases (show qq = 0 ∨ qq = 1 by omega) with rfl | rfl
        ·exact ⟨xs, A, c, b, off, vi, vd, h0, HA.out, fun W hW => (HRW.out W hW).1, fun x hx => HZ2.out x (.inl hx), hlen, HSM.out⟩
        ·exact ⟨ys, B, e, b2, off2, ui, ud, h1, HB.out, fun W hW => (HRW.out W hW).2, fun x hx => HZ2.out x (.inr hx), hlen2, HSN.out⟩
       have HAU := Lib.hid hAU
       have HRU := Lib.hid hrow
       have HMU := Lib.hid hmem
       have HSU := Lib.hid husm
       have kq1 : (qq : Int) < 2 := by omega
       have kq2 : qq < 2 := hq2
       have zd := (LD.out.after hbe).lt
       have hse := hbe.size
       have LE0 := Lies.made wr 24 #[.slice AU us.length cU]
       obtain ⟨wE, hwE⟩ : ∃ W, W = wr.alloc (.cells #[.slice AU us.length cU] 24) := ⟨_, rfl⟩
       have hbE : Below wD.heap.size wD wE := by rw [hwE]; exact hbe.alloc hse _
       have hbwE : Below w.heap.size w wE := hbwD.trans (hbE.mono hbwD.size)
       have hbBE : Below wB.heap.size wB wE := hbD.trans (hbE.mono hbD.size)
       have HWE := Lib.hid hwE
       clear hAU hrow hmem husm hwE LE0
       obtain ⟨wo, rfl⟩ : ∃ z, z = wr := ⟨_, rfl⟩
       go_wp2_with fail
       rw [← HWE.out]
       go_loopw [148] (fun k ws => ∃ kk : Nat, k = .int .i64 kk ∧ kk ≤ us.length ∧ Below wE.heap.size wE ws) (fun k _ => us.length - (intOf k).toNat)
       case atStart => exact ⟨0, rfl, by omega, Below.refl _ _⟩
       case round =>
        obtain ⟨kk, rfl, hkk, hbf⟩ := hrel
        have hbwf : Below w.heap.size w wr := hbwE.trans (hbf.mono hbwE.size)
        have hbBf : Below wB.heap.size wB wr := hbBE.trans (hbf.mono hbBE.size)
        by_cases hlt : kk < us.length
        ·have kl1 : (kk : Int) < (us.length : Int) := by omega
         obtain rfl := HAU.out (by omega)
         obtain ⟨A1, n1, A2, n2, i0, i1, i2, i3, i4, hi1, hi2⟩ := iss_at (HRU.out wr hbwf) kk hlt
         have hxz := HMU.out _ (List.getElem_mem hlt)
         have hsx := HSU.out _ (List.getElem_mem hlt)
         have HI1 := Lib.hid hi1
         have HI2 := Lib.hid hi2
         clear hi1 hi2
         generalize us[kk] = x at *
         go_upto_region 32 with fail
         have hss := hbf.size
         have r0 := (Lies.made wr 45 #[.int .i64 x.d, .int .i64 x.l, .int .u8 x.k, .slice A1 x.items.length n1, .slice A2 x.dims.length n2])
         have hbq : Below wB.heap.size wB (wr.alloc (.cells #[.int .i64 x.d, .int .i64 x.l, .int .u8 x.k, .slice A1 x.items.length n1, .slice A2 x.dims.length n2] 45)) := hbBf.alloc hbBf.size _
         have hbg : Below wE.heap.size wE (wr.alloc (.cells #[.int .i64 x.d, .int .i64 x.l, .int .u8 x.k, .slice A1 x.items.length n1, .slice A2 x.dims.length n2] 45)) := hbf.alloc hss _
         have hrq : Below wr.heap.size wr (wr.alloc (.cells #[.int .i64 x.d, .int .i64 x.l, .int .u8 x.k, .slice A1 x.items.length n1, .slice A2 x.dims.length n2] 45)) := (Below.refl _ _).alloc (Nat.le_refl _) _
         generalize hwq : wr.alloc (.cells #[.int .i64 x.d, .int .i64 x.l, .int .u8 x.k, .slice A1 x.items.length n1, .slice A2 x.dims.length n2] 45) = wq at *
         have LXQ := Lib.hid r0
         have HI3 := Lib.hid (HI1.out.after hrq)
         have HI4 := Lib.hid (HI2.out.after hrq)
         have r0a := r0.cell 0
         have r0b := r0.cell 1
         have r0c := r0.cell 2
         have r0d := r0.cell 3
         have r0e := r0.cell 4
         have x0 := (HBX.out wq hbq).2.2.cell 0
         clear r0
         go_cut [20, 21] (fun s14 s15 wy => ∃ (g2 : Nat) (y : Iss) (ee : Int) (A3 : Option Addr) (c3 : Nat) (A4 : Option Addr) (c4 : Nat), s14 = .pointer (some ⟨g2, 0, none⟩) ∧ s15 = .int .i64 ee ∧ Hid (Lies wy g2 45 #[.int .i64 y.d, .int .i64 y.l, .int .u8 y.k, .slice A3 y.items.length c3, .slice A4 y.dims.length c4]) ∧ Hid (ItemsAt wy (.slice A3 y.items.length c3) y.items) ∧ Hid (DimsAt wy (.slice A4 y.dims.length c4) y.dims) ∧ AtQ z x.d x.l y ee ∧ (y.items.length ≤ 1000 ∧ y.dims.length ≤ 1000) ∧ Below wq.heap.size wq wy)
         case first =>
          refine wp_region_held_drew (S := fun W => W.cell? ⟨w5.heap.size, 0, none⟩ = some (.slice A5 z.length c5) ∧ W.cell? ⟨wr.heap.size, 0, none⟩ = some (.int .i64 x.d) ∧ W.cell? ⟨wr.heap.size, 1, none⟩ = some (.int .i64 x.l) ∧ W.cell? ⟨wr.heap.size, 2, none⟩ = some (.int .u8 x.k) ∧ W.cell? ⟨wr.heap.size, 3, none⟩ = some (.slice A1 x.items.length n1) ∧ W.cell? ⟨wr.heap.size, 4, none⟩ = some (.slice A2 x.dims.length n2)) (by kernel_rfl) ⟨x0, r0a, r0b, r0c, r0d, r0e⟩ (fun hHeld => ?_)
          have hvd : Below wq.heap.size wq wq.drew := (Below.refl _ _).drew
          have xd : wq.drew.cell? ⟨w5.heap.size, 0, none⟩ = some (.slice A5 z.length c5) := x0
          have rda : wq.drew.cell? ⟨wr.heap.size, 0, none⟩ = some (.int .i64 x.d) := r0a
          have rdb : wq.drew.cell? ⟨wr.heap.size, 1, none⟩ = some (.int .i64 x.l) := r0b
          have rdc : wq.drew.cell? ⟨wr.heap.size, 2, none⟩ = some (.int .u8 x.k) := r0c
          have rdd : wq.drew.cell? ⟨wr.heap.size, 3, none⟩ = some (.slice A1 x.items.length n1) := r0d
          have rde : wq.drew.cell? ⟨wr.heap.size, 4, none⟩ = some (.slice A2 x.dims.length n2) := r0e
          generalize hwd : wq.drew = wd at *
          refine take_at (i := 0) (v := ?_) rfl (by kernel_rfl) (by kernel_rfl) (by kernel_rfl) (fun _ _ _ h => h) (Or.inl ⟨by rfl, ?_⟩) (by assumption) ?_
          rotate_left
          ·(intro w hSw; (try dsimp only at hSw); go_simp; (try with_reducible rfl))
          try simp only [Act.put, List.setIfInBounds_toArray, List.set_cons_zero, List.set_cons_succ]
          refine take_at (i := 1) (v := ?_) rfl (by kernel_rfl) (by kernel_rfl) (by kernel_rfl) (fun _ _ _ h => h) (Or.inl ⟨by rfl, ?_⟩) (by assumption) ?_
          rotate_left
          ·(intro w hSw; (try dsimp only at hSw); go_simp; (try with_reducible rfl))
          try simp only [Act.put, List.setIfInBounds_toArray, List.set_cons_zero, List.set_cons_succ]
          refine wpAnyH_ready (rs := [2, 7]) (by kernel_rfl) (by simp) ?_
          refine cons_at rfl (fun K hK => ?_) (cons_at rfl (fun K hK => ?_) AllReadyH.nil)
          ·have hvd := hvd
           (first | (go_at_call 56; refine (refOf_s _ _ _ _ _ _).mono ?_; rintro e201 w201 ⟨rfl, gb⟩) | (go_simp; go_at_call 56; refine (refOf_s _ _ _ _ _ _).mono ?_; rintro e201 w201 ⟨rfl, gb⟩))
           have hv201 : Below wq.heap.size wq w201 := hvd.trans (gb.mono hvd.size)
           have x201 := cell_keep gb xd
           have r201a := cell_keep gb rda
           have r201b := cell_keep gb rdb
           have r201c := cell_keep gb rdc
           have r201d := cell_keep gb rdd
           have r201e := cell_keep gb rde
           refine hK.out _ _ ?_ (fun hHeld => ?_)
           ·exact ⟨x201, r201a, r201b, r201c, r201d, r201e⟩
           clear hK K gb hvd
           try simp only [Act.put, List.setIfInBounds_toArray, List.set_cons_zero, List.set_cons_succ]
           refine wpAnyH_ready (rs := [3, 7]) (by kernel_rfl) (by simp) ?_
           refine cons_at rfl (fun K hK => ?_) (cons_at rfl (fun K hK => ?_) AllReadyH.nil)
           ·have hvd := hv201
            (first | (go_at_call 26; refine (at_g ((HRX.out _ (hbq.trans (hvd.mono hbq.size))).2.2)).mono ?_; rintro e202 w202 ⟨y, ee, A3, c3, g3, A4, c4, g4, rfl, hi, hj, hg3, hg4, haq, hys, gb⟩) | (go_simp; go_at_call 26; refine (at_g ((HRX.out _ (hbq.trans (hvd.mono hbq.size))).2.2)).mono ?_; rintro e202 w202 ⟨y, ee, A3, c3, g3, A4, c4, g4, rfl, hi, hj, hg3, hg4, haq, hys, gb⟩))
            have hv202 : Below wq.heap.size wq w202 := hvd.trans (gb.mono hvd.size)
            have x202 := cell_keep gb x201
            have r202a := cell_keep gb r201a
            have r202b := cell_keep gb r201b
            have r202c := cell_keep gb r201c
            have r202d := cell_keep gb r201d
            have r202e := cell_keep gb r201e
            have HI202 := Lib.hid hi
            have HJ202 := Lib.hid hj
            have HG3 := Lib.hid hg3
            have HG4 := Lib.hid hg4
            have HGG202 := Lib.hid (fun h => (hg3 h).2)
            have HGH202 := Lib.hid (fun h => (hg4 h).2)
            refine hK.out _ _ ?_ (fun hHeld => ?_)
            ·exact ⟨x202, r202a, r202b, r202c, r202d, r202e⟩
            clear hK K gb hvd
            try simp only [Act.put, List.setIfInBounds_toArray, List.set_cons_zero, List.set_cons_succ]
            refine take_at (i := 4) (v := ?_) rfl (by kernel_rfl) (by kernel_rfl) (by kernel_rfl) (fun _ _ _ h => h) (Or.inl ⟨by rfl, ?_⟩) (by assumption) ?_
            rotate_left
            ·(intro w hSw; (try dsimp only at hSw); go_simp; (try with_reducible rfl))
            try simp only [Act.put, List.setIfInBounds_toArray, List.set_cons_zero, List.set_cons_succ]
            refine take_at (i := 5) (v := ?_) rfl (by kernel_rfl) (by kernel_rfl) (by kernel_rfl) (fun _ _ _ h => h) (Or.inl ⟨by rfl, ?_⟩) (by assumption) ?_
            rotate_left
            ·(intro w hSw; (try dsimp only at hSw); go_simp; (try with_reducible rfl))
            try simp only [Act.put, List.setIfInBounds_toArray, List.set_cons_zero, List.set_cons_succ]
            refine take_at (i := 6) (v := ?_) rfl (by kernel_rfl) (by kernel_rfl) (by kernel_rfl) (fun _ _ _ h => h) (Or.inl ⟨by rfl, ?_⟩) (by assumption) ?_
            rotate_left
            ·(intro w hSw; (try dsimp only at hSw); go_simp; (try with_reducible rfl))
            try simp only [Act.put, List.setIfInBounds_toArray, List.set_cons_zero, List.set_cons_succ]
            refine wpAnyH_ready (rs := [7]) (by kernel_rfl) (by simp) ?_
            refine cons_at rfl (fun K hK => ?_) AllReadyH.nil
            go_simp
            refine hK.out _ _ ?_ (fun hHeld => ?_)
            ·exact ⟨keep_nw x202, keep_nw r202a, keep_nw r202b, keep_nw r202c, keep_nw r202d, keep_nw r202e⟩
            clear hK K
            try simp only [Act.put, List.setIfInBounds_toArray, List.set_cons_zero, List.set_cons_succ]
            have x203 := keep_nw (o := .cells #[.int .i64 0, .int .i64 0, .int .u8 0, .slice none 0 0, .slice none 0 0] 45) x202
            have r203a := keep_nw (o := .cells #[.int .i64 0, .int .i64 0, .int .u8 0, .slice none 0 0, .slice none 0 0] 45) r202a
            have r203b := keep_nw (o := .cells #[.int .i64 0, .int .i64 0, .int .u8 0, .slice none 0 0, .slice none 0 0] 45) r202b
            have r203c := keep_nw (o := .cells #[.int .i64 0, .int .i64 0, .int .u8 0, .slice none 0 0, .slice none 0 0] 45) r202c
            have r203d := keep_nw (o := .cells #[.int .i64 0, .int .i64 0, .int .u8 0, .slice none 0 0, .slice none 0 0] 45) r202d
            have r203e := keep_nw (o := .cells #[.int .i64 0, .int .i64 0, .int .u8 0, .slice none 0 0, .slice none 0 0] 45) r202e
            have hv203 : Below wq.heap.size wq (w202.alloc (.cells #[.int .i64 0, .int .i64 0, .int .u8 0, .slice none 0 0, .slice none 0 0] 45)) := hv202.alloc hv202.size _
            have LZ203 := Lib.hid (Lies.made w202 45 #[.int .i64 0, .int .i64 0, .int .u8 0, .slice none 0 0, .slice none 0 0])
            have hg203 : wq.heap.size ≤ w202.heap.size := hv202.size
            have HI203 := Lib.hid (HI202.out.after ((Below.refl _ w202).alloc (Nat.le_refl _) (.cells #[.int .i64 0, .int .i64 0, .int .u8 0, .slice none 0 0, .slice none 0 0] 45)))
            have HJ203 := Lib.hid (HJ202.out.after ((Below.refl _ w202).alloc (Nat.le_refl _) (.cells #[.int .i64 0, .int .i64 0, .int .u8 0, .slice none 0 0, .slice none 0 0] 45)))
            have HGG203 := Lib.hid (fun h => (HGG202.out h).imp fun _ e => e.alloc (.cells #[.int .i64 0, .int .i64 0, .int .u8 0, .slice none 0 0, .slice none 0 0] 45))
            have HGH203 := Lib.hid (fun h => (HGH202.out h).imp fun _ e => e.alloc (.cells #[.int .i64 0, .int .i64 0, .int .u8 0, .slice none 0 0, .slice none 0 0] 45))
            generalize hw203 : (w202.alloc (.cells #[.int .i64 0, .int .i64 0, .int .u8 0, .slice none 0 0, .slice none 0 0] 45)) = w203 at *
            refine wpAnyH_ready (rs := [8]) (by kernel_rfl) (by simp) ?_
            refine cons_at rfl (fun K hK => ?_) AllReadyH.nil
            have y0 := LZ203.out.cell 0
            have f0 := LZ203.out.free 0
            have y1 := LZ203.out.cell 1
            have f1 := LZ203.out.free 1
            have y2 := LZ203.out.cell 2
            have f2 := LZ203.out.free 2
            have y3 := LZ203.out.cell 3
            have f3 := LZ203.out.free 3
            have y4 := LZ203.out.cell 4
            have f4 := LZ203.out.free 4
            go_simp
            refine hK.out _ _ ?_ (fun hHeld => ?_)
            ·exact ⟨(cell_five _ _ _ _ _ (by simp only; have := hg203; have := World.block_lt_of_cell? wq _ x0; simp only at this; omega)).trans x203, (cell_five _ _ _ _ _ (by simp only; have := hg203; have := World.block_lt_of_cell? wq _ r0a; simp only at this; omega)).trans r203a, (cell_five _ _ _ _ _ (by simp only; have := hg203; have := World.block_lt_of_cell? wq _ r0b; simp only at this; omega)).trans r203b, (cell_five _ _ _ _ _ (by simp only; have := hg203; have := World.block_lt_of_cell? wq _ r0c; simp only at this; omega)).trans r203c, (cell_five _ _ _ _ _ (by simp only; have := hg203; have := World.block_lt_of_cell? wq _ r0d; simp only at this; omega)).trans r203d, (cell_five _ _ _ _ _ (by simp only; have := hg203; have := World.block_lt_of_cell? wq _ r0e; simp only at this; omega)).trans r203e⟩
            clear hK K
            try simp only [Act.put, List.setIfInBounds_toArray, List.set_cons_zero, List.set_cons_succ]
            refine take_at (i := 9) (v := ?_) rfl (by kernel_rfl) (by kernel_rfl) (by kernel_rfl) (fun _ _ _ h => h) (Or.inl ⟨by rfl, ?_⟩) (by assumption) ?_
            rotate_left
            ·(intro w hSw; (try dsimp only at hSw); go_simp; (try with_reducible rfl))
            try simp only [Act.put, List.setIfInBounds_toArray, List.set_cons_zero, List.set_cons_succ]
            refine wpAnyH_done (by kernel_rfl) ?_ _
            go_wp2_with fail
            go_meet
            exact ⟨_, y, ee, A3, c3, A4, c4, rfl, rfl, Lib.hid (lies_five LZ203.out _ _ _ _ _), Lib.hid (items_five HI203.out (fun h => (HG3.out h).1) (fun h => lies_apart2 LZ203.out (HGG203.out h).choose_spec (by decide)) _ _ _ _ _), Lib.hid (dims_five HJ203.out (fun h => (HG4.out h).1) (fun h => lies_apart2 LZ203.out (HGH203.out h).choose_spec (by decide)) _ _ _ _ _), haq, hys, below_5s hv203 hg203 _ _ _ _ _⟩
           ·go_simp
            refine hK.out _ _ ?_ (fun hHeld => ?_)
            ·exact ⟨keep_nw x201, keep_nw r201a, keep_nw r201b, keep_nw r201c, keep_nw r201d, keep_nw r201e⟩
            clear hK K
            try simp only [Act.put, List.setIfInBounds_toArray, List.set_cons_zero, List.set_cons_succ]
            have x205 := keep_nw (o := .cells #[.int .i64 0, .int .i64 0, .int .u8 0, .slice none 0 0, .slice none 0 0] 45) x201
            have r205a := keep_nw (o := .cells #[.int .i64 0, .int .i64 0, .int .u8 0, .slice none 0 0, .slice none 0 0] 45) r201a
            have r205b := keep_nw (o := .cells #[.int .i64 0, .int .i64 0, .int .u8 0, .slice none 0 0, .slice none 0 0] 45) r201b
            have r205c := keep_nw (o := .cells #[.int .i64 0, .int .i64 0, .int .u8 0, .slice none 0 0, .slice none 0 0] 45) r201c
            have r205d := keep_nw (o := .cells #[.int .i64 0, .int .i64 0, .int .u8 0, .slice none 0 0, .slice none 0 0] 45) r201d
            have r205e := keep_nw (o := .cells #[.int .i64 0, .int .i64 0, .int .u8 0, .slice none 0 0, .slice none 0 0] 45) r201e
            have hv205 : Below wq.heap.size wq (w201.alloc (.cells #[.int .i64 0, .int .i64 0, .int .u8 0, .slice none 0 0, .slice none 0 0] 45)) := hv201.alloc hv201.size _
            have LZ205 := Lib.hid (Lies.made w201 45 #[.int .i64 0, .int .i64 0, .int .u8 0, .slice none 0 0, .slice none 0 0])
            have hg205 : wq.heap.size ≤ w201.heap.size := hv201.size
            generalize hw205 : (w201.alloc (.cells #[.int .i64 0, .int .i64 0, .int .u8 0, .slice none 0 0, .slice none 0 0] 45)) = w205 at *
            refine wpAnyH_ready (rs := [3]) (by kernel_rfl) (by simp) ?_
            refine cons_at rfl (fun K hK => ?_) AllReadyH.nil
            have hvd := hv205
            (first | (go_at_call 26; refine (at_g ((HRX.out _ (hbq.trans (hvd.mono hbq.size))).2.2)).mono ?_; rintro e206 w206 ⟨y, ee, A3, c3, g3, A4, c4, g4, rfl, hi, hj, hg3, hg4, haq, hys, gb⟩) | (go_simp; go_at_call 26; refine (at_g ((HRX.out _ (hbq.trans (hvd.mono hbq.size))).2.2)).mono ?_; rintro e206 w206 ⟨y, ee, A3, c3, g3, A4, c4, g4, rfl, hi, hj, hg3, hg4, haq, hys, gb⟩))
            have hv206 : Below wq.heap.size wq w206 := hvd.trans (gb.mono hvd.size)
            have x206 := cell_keep gb x205
            have r206a := cell_keep gb r205a
            have r206b := cell_keep gb r205b
            have r206c := cell_keep gb r205c
            have r206d := cell_keep gb r205d
            have r206e := cell_keep gb r205e
            have LZ206 := Lib.hid (LZ205.out.after gb)
            have hg206 := hg205
            have HI206 := Lib.hid hi
            have HJ206 := Lib.hid hj
            have HG3 := Lib.hid hg3
            have HG4 := Lib.hid hg4
            have HGG206 := Lib.hid (fun h => (hg3 h).2)
            have HGH206 := Lib.hid (fun h => (hg4 h).2)
            refine hK.out _ _ ?_ (fun hHeld => ?_)
            ·exact ⟨x206, r206a, r206b, r206c, r206d, r206e⟩
            clear hK K gb hvd
            try simp only [Act.put, List.setIfInBounds_toArray, List.set_cons_zero, List.set_cons_succ]
            refine take_at (i := 4) (v := ?_) rfl (by kernel_rfl) (by kernel_rfl) (by kernel_rfl) (fun _ _ _ h => h) (Or.inl ⟨by rfl, ?_⟩) (by assumption) ?_
            rotate_left
            ·(intro w hSw; (try dsimp only at hSw); go_simp; (try with_reducible rfl))
            try simp only [Act.put, List.setIfInBounds_toArray, List.set_cons_zero, List.set_cons_succ]
            refine take_at (i := 5) (v := ?_) rfl (by kernel_rfl) (by kernel_rfl) (by kernel_rfl) (fun _ _ _ h => h) (Or.inl ⟨by rfl, ?_⟩) (by assumption) ?_
            rotate_left
            ·(intro w hSw; (try dsimp only at hSw); go_simp; (try with_reducible rfl))
            try simp only [Act.put, List.setIfInBounds_toArray, List.set_cons_zero, List.set_cons_succ]
            refine take_at (i := 6) (v := ?_) rfl (by kernel_rfl) (by kernel_rfl) (by kernel_rfl) (fun _ _ _ h => h) (Or.inl ⟨by rfl, ?_⟩) (by assumption) ?_
            rotate_left
            ·(intro w hSw; (try dsimp only at hSw); go_simp; (try with_reducible rfl))
            try simp only [Act.put, List.setIfInBounds_toArray, List.set_cons_zero, List.set_cons_succ]
            refine wpAnyH_ready (rs := [8]) (by kernel_rfl) (by simp) ?_
            refine cons_at rfl (fun K hK => ?_) AllReadyH.nil
            have y0 := LZ206.out.cell 0
            have f0 := LZ206.out.free 0
            have y1 := LZ206.out.cell 1
            have f1 := LZ206.out.free 1
            have y2 := LZ206.out.cell 2
            have f2 := LZ206.out.free 2
            have y3 := LZ206.out.cell 3
            have f3 := LZ206.out.free 3
            have y4 := LZ206.out.cell 4
            have f4 := LZ206.out.free 4
            go_simp
            refine hK.out _ _ ?_ (fun hHeld => ?_)
            ·exact ⟨(cell_five _ _ _ _ _ (by simp only; have := hg206; have := World.block_lt_of_cell? wq _ x0; simp only at this; omega)).trans x206, (cell_five _ _ _ _ _ (by simp only; have := hg206; have := World.block_lt_of_cell? wq _ r0a; simp only at this; omega)).trans r206a, (cell_five _ _ _ _ _ (by simp only; have := hg206; have := World.block_lt_of_cell? wq _ r0b; simp only at this; omega)).trans r206b, (cell_five _ _ _ _ _ (by simp only; have := hg206; have := World.block_lt_of_cell? wq _ r0c; simp only at this; omega)).trans r206c, (cell_five _ _ _ _ _ (by simp only; have := hg206; have := World.block_lt_of_cell? wq _ r0d; simp only at this; omega)).trans r206d, (cell_five _ _ _ _ _ (by simp only; have := hg206; have := World.block_lt_of_cell? wq _ r0e; simp only at this; omega)).trans r206e⟩
            clear hK K
            try simp only [Act.put, List.setIfInBounds_toArray, List.set_cons_zero, List.set_cons_succ]
            refine take_at (i := 9) (v := ?_) rfl (by kernel_rfl) (by kernel_rfl) (by kernel_rfl) (fun _ _ _ h => h) (Or.inl ⟨by rfl, ?_⟩) (by assumption) ?_
            rotate_left
            ·(intro w hSw; (try dsimp only at hSw); go_simp; (try with_reducible rfl))
            try simp only [Act.put, List.setIfInBounds_toArray, List.set_cons_zero, List.set_cons_succ]
            refine wpAnyH_done (by kernel_rfl) ?_ _
            go_wp2_with fail
            go_meet
            exact ⟨_, y, ee, A3, c3, A4, c4, rfl, rfl, Lib.hid (lies_five LZ206.out _ _ _ _ _), Lib.hid (items_five HI206.out (fun h => (HG3.out h).1) (fun h => lies_apart2 LZ206.out (HGG206.out h).choose_spec (by decide)) _ _ _ _ _), Lib.hid (dims_five HJ206.out (fun h => (HG4.out h).1) (fun h => lies_apart2 LZ206.out (HGH206.out h).choose_spec (by decide)) _ _ _ _ _), haq, hys, below_5s hv206 hg206 _ _ _ _ _⟩
          ·go_simp
           refine hK.out _ _ ?_ (fun hHeld => ?_)
           ·exact ⟨keep_nw xd, keep_nw rda, keep_nw rdb, keep_nw rdc, keep_nw rdd, keep_nw rde⟩
           clear hK K
           try simp only [Act.put, List.setIfInBounds_toArray, List.set_cons_zero, List.set_cons_succ]
           have x208 := keep_nw (o := .cells #[.int .i64 0, .int .i64 0, .int .u8 0, .slice none 0 0, .slice none 0 0] 45) xd
           have r208a := keep_nw (o := .cells #[.int .i64 0, .int .i64 0, .int .u8 0, .slice none 0 0, .slice none 0 0] 45) rda
           have r208b := keep_nw (o := .cells #[.int .i64 0, .int .i64 0, .int .u8 0, .slice none 0 0, .slice none 0 0] 45) rdb
           have r208c := keep_nw (o := .cells #[.int .i64 0, .int .i64 0, .int .u8 0, .slice none 0 0, .slice none 0 0] 45) rdc
           have r208d := keep_nw (o := .cells #[.int .i64 0, .int .i64 0, .int .u8 0, .slice none 0 0, .slice none 0 0] 45) rdd
           have r208e := keep_nw (o := .cells #[.int .i64 0, .int .i64 0, .int .u8 0, .slice none 0 0, .slice none 0 0] 45) rde
           have hv208 : Below wq.heap.size wq (wd.alloc (.cells #[.int .i64 0, .int .i64 0, .int .u8 0, .slice none 0 0, .slice none 0 0] 45)) := hvd.alloc hvd.size _
           have LZ208 := Lib.hid (Lies.made wd 45 #[.int .i64 0, .int .i64 0, .int .u8 0, .slice none 0 0, .slice none 0 0])
           have hg208 : wq.heap.size ≤ wd.heap.size := hvd.size
           generalize hw208 : (wd.alloc (.cells #[.int .i64 0, .int .i64 0, .int .u8 0, .slice none 0 0, .slice none 0 0] 45)) = w208 at *
           refine wpAnyH_ready (rs := [2]) (by kernel_rfl) (by simp) ?_
           refine cons_at rfl (fun K hK => ?_) AllReadyH.nil
           have hvd := hv208
           (first | (go_at_call 56; refine (refOf_s _ _ _ _ _ _).mono ?_; rintro e209 w209 ⟨rfl, gb⟩) | (go_simp; go_at_call 56; refine (refOf_s _ _ _ _ _ _).mono ?_; rintro e209 w209 ⟨rfl, gb⟩))
           have hv209 : Below wq.heap.size wq w209 := hvd.trans (gb.mono hvd.size)
           have x209 := cell_keep gb x208
           have r209a := cell_keep gb r208a
           have r209b := cell_keep gb r208b
           have r209c := cell_keep gb r208c
           have r209d := cell_keep gb r208d
           have r209e := cell_keep gb r208e
           have LZ209 := Lib.hid (LZ208.out.after gb)
           have hg209 := hg208
           refine hK.out _ _ ?_ (fun hHeld => ?_)
           ·exact ⟨x209, r209a, r209b, r209c, r209d, r209e⟩
           clear hK K gb hvd
           try simp only [Act.put, List.setIfInBounds_toArray, List.set_cons_zero, List.set_cons_succ]
           refine wpAnyH_ready (rs := [3]) (by kernel_rfl) (by simp) ?_
           refine cons_at rfl (fun K hK => ?_) AllReadyH.nil
           have hvd := hv209
           (first | (go_at_call 26; refine (at_g ((HRX.out _ (hbq.trans (hvd.mono hbq.size))).2.2)).mono ?_; rintro e210 w210 ⟨y, ee, A3, c3, g3, A4, c4, g4, rfl, hi, hj, hg3, hg4, haq, hys, gb⟩) | (go_simp; go_at_call 26; refine (at_g ((HRX.out _ (hbq.trans (hvd.mono hbq.size))).2.2)).mono ?_; rintro e210 w210 ⟨y, ee, A3, c3, g3, A4, c4, g4, rfl, hi, hj, hg3, hg4, haq, hys, gb⟩))
           have hv210 : Below wq.heap.size wq w210 := hvd.trans (gb.mono hvd.size)
           have x210 := cell_keep gb x209
           have r210a := cell_keep gb r209a
           have r210b := cell_keep gb r209b
           have r210c := cell_keep gb r209c
           have r210d := cell_keep gb r209d
           have r210e := cell_keep gb r209e
           have LZ210 := Lib.hid (LZ209.out.after gb)
           have hg210 := hg209
           have HI210 := Lib.hid hi
           have HJ210 := Lib.hid hj
           have HG3 := Lib.hid hg3
           have HG4 := Lib.hid hg4
           have HGG210 := Lib.hid (fun h => (hg3 h).2)
           have HGH210 := Lib.hid (fun h => (hg4 h).2)
           refine hK.out _ _ ?_ (fun hHeld => ?_)
           ·exact ⟨x210, r210a, r210b, r210c, r210d, r210e⟩
           clear hK K gb hvd
           try simp only [Act.put, List.setIfInBounds_toArray, List.set_cons_zero, List.set_cons_succ]
           refine take_at (i := 4) (v := ?_) rfl (by kernel_rfl) (by kernel_rfl) (by kernel_rfl) (fun _ _ _ h => h) (Or.inl ⟨by rfl, ?_⟩) (by assumption) ?_
           rotate_left
           ·(intro w hSw; (try dsimp only at hSw); go_simp; (try with_reducible rfl))
           try simp only [Act.put, List.setIfInBounds_toArray, List.set_cons_zero, List.set_cons_succ]
           refine take_at (i := 5) (v := ?_) rfl (by kernel_rfl) (by kernel_rfl) (by kernel_rfl) (fun _ _ _ h => h) (Or.inl ⟨by rfl, ?_⟩) (by assumption) ?_
           rotate_left
           ·(intro w hSw; (try dsimp only at hSw); go_simp; (try with_reducible rfl))
           try simp only [Act.put, List.setIfInBounds_toArray, List.set_cons_zero, List.set_cons_succ]
           refine take_at (i := 6) (v := ?_) rfl (by kernel_rfl) (by kernel_rfl) (by kernel_rfl) (fun _ _ _ h => h) (Or.inl ⟨by rfl, ?_⟩) (by assumption) ?_
           rotate_left
           ·(intro w hSw; (try dsimp only at hSw); go_simp; (try with_reducible rfl))
           try simp only [Act.put, List.setIfInBounds_toArray, List.set_cons_zero, List.set_cons_succ]
           refine wpAnyH_ready (rs := [8]) (by kernel_rfl) (by simp) ?_
           refine cons_at rfl (fun K hK => ?_) AllReadyH.nil
           have y0 := LZ210.out.cell 0
           have f0 := LZ210.out.free 0
           have y1 := LZ210.out.cell 1
           have f1 := LZ210.out.free 1
           have y2 := LZ210.out.cell 2
           have f2 := LZ210.out.free 2
           have y3 := LZ210.out.cell 3
           have f3 := LZ210.out.free 3
           have y4 := LZ210.out.cell 4
           have f4 := LZ210.out.free 4
           go_simp
           refine hK.out _ _ ?_ (fun hHeld => ?_)
           ·exact ⟨(cell_five _ _ _ _ _ (by simp only; have := hg210; have := World.block_lt_of_cell? wq _ x0; simp only at this; omega)).trans x210, (cell_five _ _ _ _ _ (by simp only; have := hg210; have := World.block_lt_of_cell? wq _ r0a; simp only at this; omega)).trans r210a, (cell_five _ _ _ _ _ (by simp only; have := hg210; have := World.block_lt_of_cell? wq _ r0b; simp only at this; omega)).trans r210b, (cell_five _ _ _ _ _ (by simp only; have := hg210; have := World.block_lt_of_cell? wq _ r0c; simp only at this; omega)).trans r210c, (cell_five _ _ _ _ _ (by simp only; have := hg210; have := World.block_lt_of_cell? wq _ r0d; simp only at this; omega)).trans r210d, (cell_five _ _ _ _ _ (by simp only; have := hg210; have := World.block_lt_of_cell? wq _ r0e; simp only at this; omega)).trans r210e⟩
           clear hK K
           try simp only [Act.put, List.setIfInBounds_toArray, List.set_cons_zero, List.set_cons_succ]
           refine take_at (i := 9) (v := ?_) rfl (by kernel_rfl) (by kernel_rfl) (by kernel_rfl) (fun _ _ _ h => h) (Or.inl ⟨by rfl, ?_⟩) (by assumption) ?_
           rotate_left
           ·(intro w hSw; (try dsimp only at hSw); go_simp; (try with_reducible rfl))
           try simp only [Act.put, List.setIfInBounds_toArray, List.set_cons_zero, List.set_cons_succ]
           refine wpAnyH_done (by kernel_rfl) ?_ _
           go_wp2_with fail
           go_meet
           exact ⟨_, y, ee, A3, c3, A4, c4, rfl, rfl, Lib.hid (lies_five LZ210.out _ _ _ _ _), Lib.hid (items_five HI210.out (fun h => (HG3.out h).1) (fun h => lies_apart2 LZ210.out (HGG210.out h).choose_spec (by decide)) _ _ _ _ _), Lib.hid (dims_five HJ210.out (fun h => (HG4.out h).1) (fun h => lies_apart2 LZ210.out (HGH210.out h).choose_spec (by decide)) _ _ _ _ _), haq, hys, below_5s hv210 hg210 _ _ _ _ _⟩
         case rest =>
          obtain ⟨g2, y, ee, A3, c3, A4, c4, rfl, rfl, LY, HJ3, HJ4, haq, hys, hby⟩ := hcut
          obtain ⟨wy, rfl⟩ : ∃ wx : World, wx = wc := ⟨_, rfl⟩
          have hbw3 : Below wE.heap.size wE wy := hbg.trans (hby.mono hbg.size)
          obtain ⟨rfl, rfl⟩ := at_in HZ1.out hxz haq
          have hls := LXQ.out.after hby
          have s0 := hls.cell 0
          have s1 := hls.cell 1
          have s2 := hls.cell 2
          have s3 := hls.cell 3
          have s4 := hls.cell 4
          have sz := hls.lt
          have t0 := LY.out.cell 0
          have t1 := LY.out.cell 1
          have t2 := LY.out.cell 2
          have t3 := LY.out.cell 3
          have t4 := LY.out.cell 4
          have tz := LY.out.lt
          have hsi := rSameIssue_any y y (.slice A1 y.items.length n1) (.slice A2 y.dims.length n2) (.slice A3 y.items.length c3) (.slice A4 y.dims.length c4) wy (by omega) (by omega) (by omega) (by omega) (HI3.out.after hby) HJ3.out (HI4.out.after hby) HJ4.out
          rw [sameI_iff.2 rfl] at hsi
          clear haq
          go_wp2_with fail
          refine hsi.mono ?_
          rintro e36 w36 ⟨rfl, gb36⟩
          have hb36 : Below wE.heap.size wE w36 := hbw3.trans (gb36.mono hbw3.size)
          clear gb36 hsi
          go_wp2_with fail
          go_roundw
          case rel => exact ⟨kk + 1, by go_num, by omega, hb36⟩
          case measure => simp [intOf]; omega
        ·have kl1 : ¬ (kk : Int) < (us.length : Int) := by omega
         have hbh : Below wD.heap.size wD wr := hbE.trans (hbf.mono hbE.size)
         go_wp2_with fail
         go_roundw
         case rel => exact ⟨qq + 1, by go_num, by omega, hbh⟩
         case measure => simp [intOf]; omega
      ·have kq1 : ¬ (qq : Int) < 2 := by omega
       go_wp2_with fail
       go_ret
       exact ⟨rfl, hbwD.trans (hbe.mono hbwD.size)⟩
    ·have hoc := HOC.out hg0
     have hg1 : (g != 0) = true := by simpa using hg0
     clear HOS HON HOC
     rcases hoc with rfl | rfl | rfl
     all_goals
      go_wp2_with fail
      go_ret
      exact ⟨rfl, hbw2⟩
end Go.Proofs.Ythfpjeeedhahbaa
