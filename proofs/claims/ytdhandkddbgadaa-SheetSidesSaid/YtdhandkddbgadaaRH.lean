/- SheetSides: the law's body. -/
import Derived.Test.YtdhandkddbgadaaRD
import Derived.Test.YtdhandkddbgadaaRE
import Derived.Test.YtdhandkddbgadaaRF
import Derived.Test.YtdhandkddbgadaaRG
namespace Go.Proofs.Ytdhandkddbgadaa
set_option linter.unusedVariables false
set_option linter.unusedSimpArgs false
open Go.RowKit

theorem clash_s {vI vJ : Value} {xs ys : List Iss} {w : World} (h : RegAt w vI xs) (h2 : RegAt w vJ ys) : Calls Try.prog 46 #[.agg #[vI], .agg #[vJ]] w fun e w' => ∃ A c, e = .returned (.tuple #[.slice A (clashE xs ys).1.length c, .int .i64 ((clashE xs ys).2)]) ∧ RefsAt w' (.slice A (clashE xs ys).1.length c) (clashE xs ys).1 ∧ Below w.heap.size w w' := by
  refine (sClash_any h h2).mono ?_
  rintro e w' ⟨v, rfl, hr, hb⟩
  obtain ⟨A, c, rfl⟩ := hr.slice
  exact ⟨A, c, rfl, hr, hb⟩
theorem merge_lenS (xs ys : List Iss) : (mergeE xs ys).1.length ≤ xs.length + ys.length := by
  unfold mergeE
  split
  · simp
  · split
    · simp
    · split
      · simp
      · exact joinL_len xs ys
theorem merge_smallS {xs ys : List Iss} {n : Nat} (hx : ∀ x ∈ xs, x.items.length ≤ n ∧ x.dims.length ≤ n) (hy : ∀ x ∈ ys, x.items.length ≤ n ∧ x.dims.length ≤ n) : ∀ x ∈ (mergeE xs ys).1, x.items.length ≤ n ∧ x.dims.length ≤ n := by
  unfold mergeE
  split
  · intro x h; cases h
  · split
    · intro x h; cases h
    · split
      · intro x h; cases h
      · exact join_small hx hy
theorem merge_s {vI vJ : Value} {xs ys z : List Iss} {g : Int} {w : World} (h : RegAt w vI xs) (h2 : RegAt w vJ ys) (c1 : CapOk vI) (c2 : CapOk vJ) (he : mergeE xs ys = (z, g)) (hl : xs.length + ys.length ≤ 1000) : Calls Try.prog 48 #[.agg #[vI], .agg #[vJ]] w fun e w' => ∃ A c, e = .returned (.tuple #[.agg #[.slice A z.length c], .int .i64 g]) ∧ RegAt w' (.slice A z.length c) z ∧ CapOk (.slice A z.length c) ∧ Below w.heap.size w w' := by
  have hln := merge_lenS xs ys
  have hsm := merge_smallS h.small h2.small
  have h3 := sMerge_any h h2 c1 c2
  rw [he] at h3 hln hsm
  refine h3.mono ?_
  rintro e w' ⟨v, rs, rfl, ho, hm, hb⟩
  simp only at hm hln hsm
  have hlen : rs.length = z.length := by rw [← hm, List.length_map]
  have hr := ho.reg (by omega) (by rw [hm]; exact hsm)
  rw [hm] at hr
  obtain ⟨A, c, g, rfl, hc, -⟩ := ho.form
  rw [hlen] at hr hc ⊢
  exact ⟨A, c, rfl, hr, capOfx hc, hb⟩
set_option maxRecDepth 100000 in
set_option maxHeartbeats 16000000 in
theorem sides_ready {A B : Option Addr} {c b off e b2 off2 : Nat} {xs ys : List Iss} {vi vd ui ud : Nat → Value} (w : World) (hcA : CapOk (.slice A xs.length c)) (hcB : CapOk (.slice B ys.length e)) (hm : xs.length ≤ 9223372036854775807) (hm2 : ∀ x ∈ xs, x.items.length ≤ 9223372036854775807 ∧ x.dims.length ≤ 9223372036854775807) (hm3 : ys.length ≤ 9223372036854775807) (hm4 : ∀ x ∈ ys, x.items.length ≤ 9223372036854775807 ∧ x.dims.length ≤ 9223372036854775807) (hA : 0 < xs.length → A = some ⟨b, off, none⟩) (hB : 0 < ys.length → B = some ⟨b2, off2, none⟩) (hc : IssRow w b off xs vi vd) (hd : IssRow w b2 off2 ys ui ud) (hr1 : readyB xs = true) (hr2 : readyB ys = true) :
    Calls Try.prog 9 #[.agg #[.slice A xs.length c], .agg #[.slice B ys.length e]] w fun e w' => e = .returned (.bool true) ∧ Below w.heap.size w w' := by
  obtain ⟨hg1, h01⟩ := ready_parts hr1
  obtain ⟨hg2, h02⟩ := ready_parts hr2
  obtain ⟨hlen, hsml⟩ := great_no hg1
  obtain ⟨hlen2, hsml2⟩ := great_no hg2
  have hr : RegAt w (.slice A xs.length c) xs := ⟨⟨A, c, b, off, rfl, hA, fun i hi => ⟨vi i, vd i, hc i hi⟩⟩, by omega, fun x hx => ⟨by have := (hsml x hx).1; omega, by have := (hsml x hx).2; omega⟩⟩
  have hrr : RegAt w (.slice B ys.length e) ys := ⟨⟨B, e, b2, off2, rfl, hB, fun i hi => ⟨ui i, ud i, hd i hi⟩⟩, by omega, fun x hx => ⟨by have := (hsml2 x hx).1; omega, by have := (hsml2 x hx).2; omega⟩⟩
  have HQ1 := Lib.hid (fun W (hW : Below w.heap.size w W) => ready_any A c b off xs vi vd W hm hm2 hA (hc.after hW))
  have HQ2 := Lib.hid (fun W (hW : Below w.heap.size w W) => ready_any B e b2 off2 ys ui ud W hm3 hm4 hB (hd.after hW))
  rw [hr1] at HQ1
  rw [hr2] at HQ2
  have HCA := Lib.hid hcA
  have HCB := Lib.hid hcB
  have hcl := clashE_comm h01 h02
  have hmc := merge_comm h01 h02
  have HMS := Lib.hid (merge_self h01)
  have hbo : bothE xs ys = 0 := by unfold bothE; rw [if_neg (by simpa using h01)]; exact h02
  have HCE : Hid ((clashE xs ys).2 = 0) := Lib.hid (by unfold clashE; rw [if_neg (by simpa using hbo)])
  clear hbo
  obtain ⟨l, q, hle⟩ : ∃ l q, clashE xs ys = (l, q) := ⟨_, _, rfl⟩
  obtain ⟨z, g, hze⟩ : ∃ z g, mergeE xs ys = (z, g) := ⟨_, _, rfl⟩
  have hzl : z.length ≤ 160 := by have := merge_lenS xs ys; rw [hze] at this; simp only at this; omega
  have hll : l.length ≤ 1000 := by have : (clashE xs ys).1.length ≤ xs.length := by { unfold clashE; split; simp; exact clashR_le xs ys xs.length }
                                   rw [hle] at this; simp only at this; omega
  have HAG := Lib.hid (fun hg0 : g = 0 => merge_again (xs := xs) (ys := ys) (z := z) (by rw [hze, hg0]) h01 h02)
  obtain rfl : q = 0 := by have := HCE.out; rw [hle] at this; exact this
  rw [hle] at hcl
  rw [hze] at hmc
  have HLE := Lib.hid hle
  have HCL := Lib.hid hcl
  have HZE := Lib.hid hze
  have HMC := Lib.hid hmc
  have LA_0 := Lib.hid ((Lies.made w 24 #[.slice A xs.length c]).alloc (.cells #[.slice B ys.length e] 24))
  have LB_0 : Hid (Lies ((w.alloc (.cells #[.slice A xs.length c] 24)).alloc (.cells #[.slice B ys.length e] 24)) (w.heap.size + 1) 24 #[.slice B ys.length e]) := Lib.hid (Lies.new (by simp))
  have RA_0 := Lib.hid (hr.after (((Below.refl _ w).alloc (Nat.le_refl _) (.cells #[.slice A xs.length c] 24)).alloc (by simp) (.cells #[.slice B ys.length e] 24)))
  have RB_0 := Lib.hid (hrr.after (((Below.refl _ w).alloc (Nat.le_refl _) (.cells #[.slice A xs.length c] 24)).alloc (by simp) (.cells #[.slice B ys.length e] 24)))
  have hb0 : Below w.heap.size w ((w.alloc (.cells #[.slice A xs.length c] 24)).alloc (.cells #[.slice B ys.length e] 24)) := by (repeat' (first | (with_reducible exact Below.refl _ _) | (with_reducible assumption) | (with_reducible refine Below.alloc ?_ ?_ _) | (with_reducible refine Below.setCell ?_ ?_ _) | (with_reducible refine below_row ?_ ?_ _) | (with_reducible refine Below.drew ?_) | (with_reducible refine below_drewN ?_ _) | (with_reducible refine Below.trans ?_ (Below.mono (by assumption) ?_)) | (first | exact Nat.le_refl _ | omega | (simp; done) | (simp; omega) | (exact Below.size (by assumption)))))
  clear hA hB hc hd hm2 hm4 hm hm3 hsml hsml2 hr hrr hcA hcB hg1 hg2 h01 h02 hr1 hr2 hcl hmc hle hze HCE
  go_enter Try.func9, Try.ntmps9
  go_wp2_with fail
  refine (alive_any _).mono ?_
  rintro e1 w1 ⟨rfl, hb⟩
  have hq1 : Below ((w.alloc (.cells #[.slice A xs.length c] 24)).alloc (.cells #[.slice B ys.length e] 24)).heap.size ((w.alloc (.cells #[.slice A xs.length c] 24)).alloc (.cells #[.slice B ys.length e] 24)) w1 := by (repeat' (first | (with_reducible exact Below.refl _ _) | (with_reducible assumption) | (with_reducible refine Below.alloc ?_ ?_ _) | (with_reducible refine Below.setCell ?_ ?_ _) | (with_reducible refine below_row ?_ ?_ _) | (with_reducible refine Below.drew ?_) | (with_reducible refine below_drewN ?_ _) | (with_reducible refine Below.trans ?_ (Below.mono (by assumption) ?_)) | (first | exact Nat.le_refl _ | omega | (simp; done) | (simp; omega) | (exact Below.size (by assumption)))))
  have LA_1 := Lib.hid (LA_0.out.after hq1)
  clear LA_0
  have LB_1 := Lib.hid (LB_0.out.after hq1)
  clear LB_0
  have RA_1 := Lib.hid (RA_0.out.after hq1)
  clear RA_0
  have RB_1 := Lib.hid (RB_0.out.after hq1)
  clear RB_0
  have hb1 : Below w.heap.size w w1 := hb0.trans (hq1.mono hb0.size)
  clear hb hq1
  have LAc := LA_1.out.cell 0
  have LAz := LA_1.out.lt
  go_wp2_with fail
  refine (HQ1.out _ (by (repeat' (first | (with_reducible exact Below.refl _ _) | (with_reducible assumption) | (with_reducible refine Below.alloc ?_ ?_ _) | (with_reducible refine Below.setCell ?_ ?_ _) | (with_reducible refine below_row ?_ ?_ _) | (with_reducible refine Below.drew ?_) | (with_reducible refine below_drewN ?_ _) | (with_reducible refine Below.trans ?_ (Below.mono (by assumption) ?_)) | (first | exact Nat.le_refl _ | omega | (simp; done) | (simp; omega) | (exact Below.size (by assumption))))))).mono ?_
  rintro e2 w2 ⟨rfl, hb⟩
  have hq2 : Below w1.heap.size w1 w2 := by (repeat' (first | (with_reducible exact Below.refl _ _) | (with_reducible assumption) | (with_reducible refine Below.alloc ?_ ?_ _) | (with_reducible refine Below.setCell ?_ ?_ _) | (with_reducible refine below_row ?_ ?_ _) | (with_reducible refine Below.drew ?_) | (with_reducible refine below_drewN ?_ _) | (with_reducible refine Below.trans ?_ (Below.mono (by assumption) ?_)) | (first | exact Nat.le_refl _ | omega | (simp; done) | (simp; omega) | (exact Below.size (by assumption)))))
  clear LAc LAz
  have LA_2 := Lib.hid (LA_1.out.after hq2)
  clear LA_1
  have LB_2 := Lib.hid (LB_1.out.after hq2)
  clear LB_1
  have RA_2 := Lib.hid (RA_1.out.after hq2)
  clear RA_1
  have RB_2 := Lib.hid (RB_1.out.after hq2)
  clear RB_1
  have hb2 : Below w.heap.size w w2 := hb1.trans (hq2.mono hb1.size)
  clear hb hq2
  have LBc := LB_2.out.cell 0
  have LBz := LB_2.out.lt
  go_wp2_with fail
  refine (HQ2.out _ (by (repeat' (first | (with_reducible exact Below.refl _ _) | (with_reducible assumption) | (with_reducible refine Below.alloc ?_ ?_ _) | (with_reducible refine Below.setCell ?_ ?_ _) | (with_reducible refine below_row ?_ ?_ _) | (with_reducible refine Below.drew ?_) | (with_reducible refine below_drewN ?_ _) | (with_reducible refine Below.trans ?_ (Below.mono (by assumption) ?_)) | (first | exact Nat.le_refl _ | omega | (simp; done) | (simp; omega) | (exact Below.size (by assumption))))))).mono ?_
  rintro e3 w3 ⟨rfl, hb⟩
  have hq3 : Below w2.heap.size w2 w3 := by (repeat' (first | (with_reducible exact Below.refl _ _) | (with_reducible assumption) | (with_reducible refine Below.alloc ?_ ?_ _) | (with_reducible refine Below.setCell ?_ ?_ _) | (with_reducible refine below_row ?_ ?_ _) | (with_reducible refine Below.drew ?_) | (with_reducible refine below_drewN ?_ _) | (with_reducible refine Below.trans ?_ (Below.mono (by assumption) ?_)) | (first | exact Nat.le_refl _ | omega | (simp; done) | (simp; omega) | (exact Below.size (by assumption)))))
  clear LBc LBz
  have LA_3 := Lib.hid (LA_2.out.after hq3)
  clear LA_2
  have LB_3 := Lib.hid (LB_2.out.after hq3)
  clear LB_2
  have RA_3 := Lib.hid (RA_2.out.after hq3)
  clear RA_2
  have RB_3 := Lib.hid (RB_2.out.after hq3)
  clear RB_2
  have hb3 : Below w.heap.size w w3 := hb2.trans (hq3.mono hb2.size)
  clear hb hq3
  have hcs := clash_s RA_3.out RB_3.out
  rw [HLE.out] at hcs
  have LAc := LA_3.out.cell 0
  have LAz := LA_3.out.lt
  have LBc := LB_3.out.cell 0
  have LBz := LB_3.out.lt
  go_wp2_with fail
  refine (hcs).mono ?_
  rintro e4 w4 ⟨A1, c1, rfl, hr, hb⟩
  have hq4 : Below w3.heap.size w3 w4 := by (repeat' (first | (with_reducible exact Below.refl _ _) | (with_reducible assumption) | (with_reducible refine Below.alloc ?_ ?_ _) | (with_reducible refine Below.setCell ?_ ?_ _) | (with_reducible refine below_row ?_ ?_ _) | (with_reducible refine Below.drew ?_) | (with_reducible refine below_drewN ?_ _) | (with_reducible refine Below.trans ?_ (Below.mono (by assumption) ?_)) | (first | exact Nat.le_refl _ | omega | (simp; done) | (simp; omega) | (exact Below.size (by assumption)))))
  clear LAc LAz LBc LBz
  have LA_4 := Lib.hid (LA_3.out.after hq4)
  clear LA_3
  have LB_4 := Lib.hid (LB_3.out.after hq4)
  clear LB_3
  have RA_4 := Lib.hid (RA_3.out.after hq4)
  clear RA_3
  have RB_4 := Lib.hid (RB_3.out.after hq4)
  clear RB_3
  have HL_4 := Lib.hid hr
  have hb4 : Below w.heap.size w w4 := hb3.trans (hq4.mono hb3.size)
  clear hr hb hcs hq4
  have hcs := clash_s RB_4.out RA_4.out
  rw [HCL.out] at hcs
  have LAc := LA_4.out.cell 0
  have LAz := LA_4.out.lt
  have LBc := LB_4.out.cell 0
  have LBz := LB_4.out.lt
  go_wp2_with fail
  refine (hcs).mono ?_
  rintro e5 w5 ⟨A2, c2, rfl, hr, hb⟩
  have hq5 : Below w4.heap.size w4 w5 := by (repeat' (first | (with_reducible exact Below.refl _ _) | (with_reducible assumption) | (with_reducible refine Below.alloc ?_ ?_ _) | (with_reducible refine Below.setCell ?_ ?_ _) | (with_reducible refine below_row ?_ ?_ _) | (with_reducible refine Below.drew ?_) | (with_reducible refine below_drewN ?_ _) | (with_reducible refine Below.trans ?_ (Below.mono (by assumption) ?_)) | (first | exact Nat.le_refl _ | omega | (simp; done) | (simp; omega) | (exact Below.size (by assumption)))))
  clear LAc LAz LBc LBz
  have LA_5 := Lib.hid (LA_4.out.after hq5)
  clear LA_4
  have LB_5 := Lib.hid (LB_4.out.after hq5)
  clear LB_4
  have RA_5 := Lib.hid (RA_4.out.after hq5)
  clear RA_4
  have RB_5 := Lib.hid (RB_4.out.after hq5)
  clear RB_4
  have HL_5 := Lib.hid (HL_4.out.after hq5)
  clear HL_4
  have HK_5 := Lib.hid hr
  have hb5 : Below w.heap.size w w5 := hb4.trans (hq5.mono hb4.size)
  clear hr hb hcs hq5
  have LAc := LA_5.out.cell 0
  have LAz := LA_5.out.lt
  have LBc := LB_5.out.cell 0
  have LBz := LB_5.out.lt
  go_wp2_with fail
  refine (merge_s RA_5.out RB_5.out HCA.out HCB.out HZE.out (by omega)).mono ?_
  rintro e6 w6 ⟨A3, c3, rfl, hr, hcx, hb⟩
  have hq6 : Below w5.heap.size w5 w6 := by (repeat' (first | (with_reducible exact Below.refl _ _) | (with_reducible assumption) | (with_reducible refine Below.alloc ?_ ?_ _) | (with_reducible refine Below.setCell ?_ ?_ _) | (with_reducible refine below_row ?_ ?_ _) | (with_reducible refine Below.drew ?_) | (with_reducible refine below_drewN ?_ _) | (with_reducible refine Below.trans ?_ (Below.mono (by assumption) ?_)) | (first | exact Nat.le_refl _ | omega | (simp; done) | (simp; omega) | (exact Below.size (by assumption)))))
  clear LAc LAz LBc LBz
  have LA_6 := Lib.hid (LA_5.out.after hq6)
  clear LA_5
  have LB_6 := Lib.hid (LB_5.out.after hq6)
  clear LB_5
  have RA_6 := Lib.hid (RA_5.out.after hq6)
  clear RA_5
  have RB_6 := Lib.hid (RB_5.out.after hq6)
  clear RB_5
  have HL_6 := Lib.hid (HL_5.out.after hq6)
  clear HL_5
  have HK_6 := Lib.hid (HK_5.out.after hq6)
  clear HK_5
  have RX_6 := Lib.hid hr
  have hb6 : Below w.heap.size w w6 := hb5.trans (hq6.mono hb5.size)
  clear hr hb hq6
  have LAc := LA_6.out.cell 0
  have LAz := LA_6.out.lt
  have LBc := LB_6.out.cell 0
  have LBz := LB_6.out.lt
  go_wp2_with fail
  refine (merge_s (RB_6.out.after ((Below.refl _ w6).alloc (Nat.le_refl _) _)) (RA_6.out.after ((Below.refl _ w6).alloc (Nat.le_refl _) _)) HCB.out HCA.out HMC.out (by omega)).mono ?_
  rintro e7 w7 ⟨A4, c4, rfl, hr, hcy, hb⟩
  have hq7 : Below w6.heap.size w6 w7 := by (repeat' (first | (with_reducible exact Below.refl _ _) | (with_reducible assumption) | (with_reducible refine Below.alloc ?_ ?_ _) | (with_reducible refine Below.setCell ?_ ?_ _) | (with_reducible refine below_row ?_ ?_ _) | (with_reducible refine Below.drew ?_) | (with_reducible refine below_drewN ?_ _) | (with_reducible refine Below.trans ?_ (Below.mono (by assumption) ?_)) | (first | exact Nat.le_refl _ | omega | (simp; done) | (simp; omega) | (exact Below.size (by assumption)))))
  clear LAc LAz LBc LBz
  have LA_7 := Lib.hid (LA_6.out.after hq7)
  clear LA_6
  have LB_7 := Lib.hid (LB_6.out.after hq7)
  clear LB_6
  have RA_7 := Lib.hid (RA_6.out.after hq7)
  clear RA_6
  have RB_7 := Lib.hid (RB_6.out.after hq7)
  clear RB_6
  have HL_7 := Lib.hid (HL_6.out.after hq7)
  clear HL_6
  have HK_7 := Lib.hid (HK_6.out.after hq7)
  clear HK_6
  have RX_7 := Lib.hid (RX_6.out.after hq7)
  clear RX_6
  have RY_7 := Lib.hid hr
  have LX_7 := Lib.hid ((Lies.made w6 24 #[.slice A3 z.length c3]).after hb)
  have hb7 : Below w.heap.size w w7 := hb6.trans (hq7.mono hb6.size)
  clear hr hb hq7
  have LAc := LA_7.out.cell 0
  have LAz := LA_7.out.lt
  go_wp2_with fail
  refine (merge_s (RA_7.out.after ((Below.refl _ w7).alloc (Nat.le_refl _) _)) (RA_7.out.after ((Below.refl _ w7).alloc (Nat.le_refl _) _)) HCA.out HCA.out HMS.out (by omega)).mono ?_
  rintro e8 w8 ⟨A5, c5, rfl, hr, hcz, hb⟩
  have hq8 : Below w7.heap.size w7 w8 := by (repeat' (first | (with_reducible exact Below.refl _ _) | (with_reducible assumption) | (with_reducible refine Below.alloc ?_ ?_ _) | (with_reducible refine Below.setCell ?_ ?_ _) | (with_reducible refine below_row ?_ ?_ _) | (with_reducible refine Below.drew ?_) | (with_reducible refine below_drewN ?_ _) | (with_reducible refine Below.trans ?_ (Below.mono (by assumption) ?_)) | (first | exact Nat.le_refl _ | omega | (simp; done) | (simp; omega) | (exact Below.size (by assumption)))))
  clear LAc LAz
  have LA_8 := Lib.hid (LA_7.out.after hq8)
  clear LA_7
  have LB_8 := Lib.hid (LB_7.out.after hq8)
  clear LB_7
  have RA_8 := Lib.hid (RA_7.out.after hq8)
  clear RA_7
  have RB_8 := Lib.hid (RB_7.out.after hq8)
  clear RB_7
  have HL_8 := Lib.hid (HL_7.out.after hq8)
  clear HL_7
  have HK_8 := Lib.hid (HK_7.out.after hq8)
  clear HK_7
  have RX_8 := Lib.hid (RX_7.out.after hq8)
  clear RX_7
  have RY_8 := Lib.hid (RY_7.out.after hq8)
  clear RY_7
  have LX_8 := Lib.hid (LX_7.out.after hq8)
  clear LX_7
  have RZ_8 := Lib.hid hr
  have LY_8 := Lib.hid ((Lies.made w7 24 #[.slice A4 z.length c4]).after hb)
  have hb8 : Below w.heap.size w w8 := hb7.trans (hq8.mono hb7.size)
  clear hr hb hq8
  go_wp2_with fail
  refine (rSameRefs_t (HL_8.out.after ((Below.refl _ w8).alloc (Nat.le_refl _) _)) (HK_8.out.after ((Below.refl _ w8).alloc (Nat.le_refl _) _)) hll).mono ?_
  rintro e9 w9 ⟨rfl, hb⟩
  have hq9 : Below w8.heap.size w8 w9 := by (repeat' (first | (with_reducible exact Below.refl _ _) | (with_reducible assumption) | (with_reducible refine Below.alloc ?_ ?_ _) | (with_reducible refine Below.setCell ?_ ?_ _) | (with_reducible refine below_row ?_ ?_ _) | (with_reducible refine Below.drew ?_) | (with_reducible refine below_drewN ?_ _) | (with_reducible refine Below.trans ?_ (Below.mono (by assumption) ?_)) | (first | exact Nat.le_refl _ | omega | (simp; done) | (simp; omega) | (exact Below.size (by assumption)))))
  have LA_9 := Lib.hid (LA_8.out.after hq9)
  clear LA_8
  have LB_9 := Lib.hid (LB_8.out.after hq9)
  clear LB_8
  have RA_9 := Lib.hid (RA_8.out.after hq9)
  clear RA_8
  have RB_9 := Lib.hid (RB_8.out.after hq9)
  clear RB_8
  have HL_9 := Lib.hid (HL_8.out.after hq9)
  clear HL_8
  have HK_9 := Lib.hid (HK_8.out.after hq9)
  clear HK_8
  have RX_9 := Lib.hid (RX_8.out.after hq9)
  clear RX_8
  have RY_9 := Lib.hid (RY_8.out.after hq9)
  clear RY_8
  have LX_9 := Lib.hid (LX_8.out.after hq9)
  clear LX_8
  have RZ_9 := Lib.hid (RZ_8.out.after hq9)
  clear RZ_8
  have LY_9 := Lib.hid (LY_8.out.after hq9)
  clear LY_8
  have LZ_9 := Lib.hid ((Lies.made w8 24 #[.slice A5 xs.length c5]).after hb)
  have hb9 : Below w.heap.size w w9 := hb8.trans (hq9.mono hb8.size)
  clear hb hq9
  clear HL_9
  clear HK_9
  have hgg : (g != g) = false := by simp
  have LXc := LX_9.out.cell 0
  have LXz := LX_9.out.lt
  have LYc := LY_9.out.cell 0
  have LYz := LY_9.out.lt
  go_wp2_with fail
  refine (rSame_x RX_9.out RY_9.out).mono ?_
  rintro e10 w10 ⟨rfl, hb⟩
  have hq10 : Below w9.heap.size w9 w10 := by (repeat' (first | (with_reducible exact Below.refl _ _) | (with_reducible assumption) | (with_reducible refine Below.alloc ?_ ?_ _) | (with_reducible refine Below.setCell ?_ ?_ _) | (with_reducible refine below_row ?_ ?_ _) | (with_reducible refine Below.drew ?_) | (with_reducible refine below_drewN ?_ _) | (with_reducible refine Below.trans ?_ (Below.mono (by assumption) ?_)) | (first | exact Nat.le_refl _ | omega | (simp; done) | (simp; omega) | (exact Below.size (by assumption)))))
  clear LXc LXz LYc LYz
  have LA_10 := Lib.hid (LA_9.out.after hq10)
  clear LA_9
  have LB_10 := Lib.hid (LB_9.out.after hq10)
  clear LB_9
  have RA_10 := Lib.hid (RA_9.out.after hq10)
  clear RA_9
  have RB_10 := Lib.hid (RB_9.out.after hq10)
  clear RB_9
  have RX_10 := Lib.hid (RX_9.out.after hq10)
  clear RX_9
  have RY_10 := Lib.hid (RY_9.out.after hq10)
  clear RY_9
  have LX_10 := Lib.hid (LX_9.out.after hq10)
  clear LX_9
  have RZ_10 := Lib.hid (RZ_9.out.after hq10)
  clear RZ_9
  have LY_10 := Lib.hid (LY_9.out.after hq10)
  clear LY_9
  have LZ_10 := Lib.hid (LZ_9.out.after hq10)
  clear LZ_9
  have hb10 : Below w.heap.size w w10 := hb9.trans (hq10.mono hb9.size)
  clear hb hq10
  clear RY_10
  clear LY_10
  have LZc := LZ_10.out.cell 0
  have LZz := LZ_10.out.lt
  have LAc := LA_10.out.cell 0
  have LAz := LA_10.out.lt
  go_wp2_with fail
  refine (rSame_x RZ_10.out RA_10.out).mono ?_
  rintro e11 w11 ⟨rfl, hb⟩
  have hq11 : Below w10.heap.size w10 w11 := by (repeat' (first | (with_reducible exact Below.refl _ _) | (with_reducible assumption) | (with_reducible refine Below.alloc ?_ ?_ _) | (with_reducible refine Below.setCell ?_ ?_ _) | (with_reducible refine below_row ?_ ?_ _) | (with_reducible refine Below.drew ?_) | (with_reducible refine below_drewN ?_ _) | (with_reducible refine Below.trans ?_ (Below.mono (by assumption) ?_)) | (first | exact Nat.le_refl _ | omega | (simp; done) | (simp; omega) | (exact Below.size (by assumption)))))
  clear LZc LZz LAc LAz
  have LA_11 := Lib.hid (LA_10.out.after hq11)
  clear LA_10
  have LB_11 := Lib.hid (LB_10.out.after hq11)
  clear LB_10
  have RA_11 := Lib.hid (RA_10.out.after hq11)
  clear RA_10
  have RB_11 := Lib.hid (RB_10.out.after hq11)
  clear RB_10
  have RX_11 := Lib.hid (RX_10.out.after hq11)
  clear RX_10
  have LX_11 := Lib.hid (LX_10.out.after hq11)
  clear LX_10
  have RZ_11 := Lib.hid (RZ_10.out.after hq11)
  clear RZ_10
  have LZ_11 := Lib.hid (LZ_10.out.after hq11)
  clear LZ_10
  have hb11 : Below w.heap.size w w11 := hb10.trans (hq11.mono hb10.size)
  clear hb hq11
  clear RZ_11
  clear LZ_11
  by_cases hg0 : g = 0
  · obtain ⟨-, hz1, hz2⟩ := HAG.out hg0
    have HZ1 := Lib.hid hz1
    have HZ2 := Lib.hid hz2
    subst hg0
    clear hz1 hz2 HAG
    have LXc := LX_11.out.cell 0
    have LXz := LX_11.out.lt
    have LAc := LA_11.out.cell 0
    have LAz := LA_11.out.lt
    go_wp2_with fail
    refine (merge_s RX_11.out RA_11.out hcx HCA.out HZ1.out (by omega)).mono ?_
    rintro e12 w12 ⟨A6, c6, rfl, hr, -, hb⟩
    have hq12 : Below w11.heap.size w11 w12 := by (repeat' (first | (with_reducible exact Below.refl _ _) | (with_reducible assumption) | (with_reducible refine Below.alloc ?_ ?_ _) | (with_reducible refine Below.setCell ?_ ?_ _) | (with_reducible refine below_row ?_ ?_ _) | (with_reducible refine Below.drew ?_) | (with_reducible refine below_drewN ?_ _) | (with_reducible refine Below.trans ?_ (Below.mono (by assumption) ?_)) | (first | exact Nat.le_refl _ | omega | (simp; done) | (simp; omega) | (exact Below.size (by assumption)))))
    clear LXc LXz LAc LAz
    have LA_12 := Lib.hid (LA_11.out.after hq12)
    clear LA_11
    have LB_12 := Lib.hid (LB_11.out.after hq12)
    clear LB_11
    have RA_12 := Lib.hid (RA_11.out.after hq12)
    clear RA_11
    have RB_12 := Lib.hid (RB_11.out.after hq12)
    clear RB_11
    have RX_12 := Lib.hid (RX_11.out.after hq12)
    clear RX_11
    have LX_12 := Lib.hid (LX_11.out.after hq12)
    clear LX_11
    have RU_12 := Lib.hid hr
    have hb12 : Below w.heap.size w w12 := hb11.trans (hq12.mono hb11.size)
    clear hr hb hq12
    have LBc := LB_12.out.cell 0
    have LBz := LB_12.out.lt
    have LXc := LX_12.out.cell 0
    have LXz := LX_12.out.lt
    go_wp2_with fail
    refine (merge_s (RB_12.out.after ((Below.refl _ w12).alloc (Nat.le_refl _) _)) (RX_12.out.after ((Below.refl _ w12).alloc (Nat.le_refl _) _)) HCB.out hcx HZ2.out (by omega)).mono ?_
    rintro e13 w13 ⟨A7, c7, rfl, hr, -, hb⟩
    have hq13 : Below w12.heap.size w12 w13 := by (repeat' (first | (with_reducible exact Below.refl _ _) | (with_reducible assumption) | (with_reducible refine Below.alloc ?_ ?_ _) | (with_reducible refine Below.setCell ?_ ?_ _) | (with_reducible refine below_row ?_ ?_ _) | (with_reducible refine Below.drew ?_) | (with_reducible refine below_drewN ?_ _) | (with_reducible refine Below.trans ?_ (Below.mono (by assumption) ?_)) | (first | exact Nat.le_refl _ | omega | (simp; done) | (simp; omega) | (exact Below.size (by assumption)))))
    clear LBc LBz LXc LXz
    have LA_13 := Lib.hid (LA_12.out.after hq13)
    clear LA_12
    have LB_13 := Lib.hid (LB_12.out.after hq13)
    clear LB_12
    have RA_13 := Lib.hid (RA_12.out.after hq13)
    clear RA_12
    have RB_13 := Lib.hid (RB_12.out.after hq13)
    clear RB_12
    have RX_13 := Lib.hid (RX_12.out.after hq13)
    clear RX_12
    have LX_13 := Lib.hid (LX_12.out.after hq13)
    clear LX_12
    have RU_13 := Lib.hid (RU_12.out.after hq13)
    clear RU_12
    have RV_13 := Lib.hid hr
    have LU_13 := Lib.hid ((Lies.made w12 24 #[.slice A6 z.length c6]).after hb)
    have hb13 : Below w.heap.size w w13 := hb12.trans (hq13.mono hb12.size)
    clear hr hb hq13
    have LUc := LU_13.out.cell 0
    have LUz := LU_13.out.lt
    have LXc := LX_13.out.cell 0
    have LXz := LX_13.out.lt
    go_wp2_with fail
    refine (rSame_x (RU_13.out.after ((Below.refl _ w13).alloc (Nat.le_refl _) _)) (RX_13.out.after ((Below.refl _ w13).alloc (Nat.le_refl _) _))).mono ?_
    rintro e14 w14 ⟨rfl, hb⟩
    have hq14 : Below w13.heap.size w13 w14 := by (repeat' (first | (with_reducible exact Below.refl _ _) | (with_reducible assumption) | (with_reducible refine Below.alloc ?_ ?_ _) | (with_reducible refine Below.setCell ?_ ?_ _) | (with_reducible refine below_row ?_ ?_ _) | (with_reducible refine Below.drew ?_) | (with_reducible refine below_drewN ?_ _) | (with_reducible refine Below.trans ?_ (Below.mono (by assumption) ?_)) | (first | exact Nat.le_refl _ | omega | (simp; done) | (simp; omega) | (exact Below.size (by assumption)))))
    clear LUc LUz LXc LXz
    have LA_14 := Lib.hid (LA_13.out.after hq14)
    clear LA_13
    have LB_14 := Lib.hid (LB_13.out.after hq14)
    clear LB_13
    have RA_14 := Lib.hid (RA_13.out.after hq14)
    clear RA_13
    have RB_14 := Lib.hid (RB_13.out.after hq14)
    clear RB_13
    have RX_14 := Lib.hid (RX_13.out.after hq14)
    clear RX_13
    have LX_14 := Lib.hid (LX_13.out.after hq14)
    clear LX_13
    have RU_14 := Lib.hid (RU_13.out.after hq14)
    clear RU_13
    have RV_14 := Lib.hid (RV_13.out.after hq14)
    clear RV_13
    have LU_14 := Lib.hid (LU_13.out.after hq14)
    clear LU_13
    have LV_14 := Lib.hid ((Lies.made w13 24 #[.slice A7 z.length c7]).after hb)
    have hb14 : Below w.heap.size w w14 := hb13.trans (hq14.mono hb13.size)
    clear hb hq14
    have LVc := LV_14.out.cell 0
    have LVz := LV_14.out.lt
    have LXc := LX_14.out.cell 0
    have LXz := LX_14.out.lt
    go_wp2_with fail
    refine (rSame_x RV_14.out RX_14.out).mono ?_
    rintro e15 w15 ⟨rfl, hb⟩
    have hq15 : Below w14.heap.size w14 w15 := by (repeat' (first | (with_reducible exact Below.refl _ _) | (with_reducible assumption) | (with_reducible refine Below.alloc ?_ ?_ _) | (with_reducible refine Below.setCell ?_ ?_ _) | (with_reducible refine below_row ?_ ?_ _) | (with_reducible refine Below.drew ?_) | (with_reducible refine below_drewN ?_ _) | (with_reducible refine Below.trans ?_ (Below.mono (by assumption) ?_)) | (first | exact Nat.le_refl _ | omega | (simp; done) | (simp; omega) | (exact Below.size (by assumption)))))
    clear LVc LVz LXc LXz
    have LA_15 := Lib.hid (LA_14.out.after hq15)
    clear LA_14
    have LB_15 := Lib.hid (LB_14.out.after hq15)
    clear LB_14
    have RA_15 := Lib.hid (RA_14.out.after hq15)
    clear RA_14
    have RB_15 := Lib.hid (RB_14.out.after hq15)
    clear RB_14
    have RX_15 := Lib.hid (RX_14.out.after hq15)
    clear RX_14
    have LX_15 := Lib.hid (LX_14.out.after hq15)
    clear LX_14
    have RU_15 := Lib.hid (RU_14.out.after hq15)
    clear RU_14
    have RV_15 := Lib.hid (RV_14.out.after hq15)
    clear RV_14
    have LU_15 := Lib.hid (LU_14.out.after hq15)
    clear LU_14
    have LV_15 := Lib.hid (LV_14.out.after hq15)
    clear LV_14
    have hb15 : Below w.heap.size w w15 := hb14.trans (hq15.mono hb14.size)
    clear hb hq15
    go_wp2_with fail
    go_ret
    exact ⟨rfl, hb15⟩
  · have hne : (g != 0) = true := by simpa using hg0
    go_wp2_with fail
    go_ret
    exact ⟨rfl, hb11⟩
end Go.Proofs.Ytdhandkddbgadaa
