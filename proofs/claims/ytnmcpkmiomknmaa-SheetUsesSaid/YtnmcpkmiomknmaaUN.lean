/- SheetUses: the law's body. -/
import Derived.Test.YtnmcpkmiomknmaaUK
import Derived.Test.YtnmcpkmiomknmaaUF
namespace Go.Proofs.Ytnmcpkmiomknmaa
set_option linter.unusedVariables false
set_option linter.unusedSimpArgs false
open Go.RowKit

theorem uses_len (xs : List Iss) (d : Int) : (usesE xs d).1.length ≤ xs.length := by
  unfold usesE
  split
  · simp
  · split
    · exact usesJ_le _ _ _
    · simp
theorem above_len (xs : List Iss) (ls : List Int) (d : Int) : (aboveE xs ls d).1.length ≤ 20 := by
  unfold aboveE
  split
  · simp
  · rename_i h
    have h3 := (layE_ok (askE_ok (by simpa using h)).1).2.2.1
    unfold overL
    exact Nat.le_trans (List.length_filter_le _ _) h3
theorem differ_len {xs : List Iss} (d f t : Int) (hs : ∀ x ∈ xs, x.dims.length ≤ 8) : (differE xs d f t).1.length ≤ 20 ∧ (differE xs d f t).2.1.length ≤ 8 := by
  unfold differE
  split
  · simp
  · rename_i h
    split
    · rename_i h2
      have h3 := (layE_ok (xs := xs) (by simpa using h)).2.2.1
      rw [Bool.and_eq_true] at h2
      have hqf : idxN xs d f < xs.length := of_decide_eq_true h2.1
      have hqt : idxN xs d t < xs.length := of_decide_eq_true h2.2
      have a := hs _ (List.getElem_mem hqf)
      have b := hs _ (List.getElem_mem hqt)
      rw [← getD_at hqf] at a
      rw [← getD_at hqt] at b
      exact ⟨Nat.le_trans (changesL_le _ _ _) h3, Nat.le_trans (diffJ_lt _ _) (by omega)⟩
    · simp

set_option maxRecDepth 100000 in
set_option maxHeartbeats 8000000 in
theorem uses_great (A : Option Addr) (c b off : Nat) (xs : List Iss) (vi vd : Nat → Value) (ls : List Int) (vL : Value) (d f t : Int) (w : World) (hm : xs.length ≤ 9223372036854775807) (hm2 : ∀ x ∈ xs, x.items.length ≤ 9223372036854775807 ∧ x.dims.length ≤ 9223372036854775807) (hA : 0 < xs.length → A = some ⟨b, off, none⟩) (hc : IssRow w b off xs vi vd) (hL : IntsAt w vL ls) (hll : ls.length ≤ 9223372036854775807) (hg : greatB xs = true ∨ 80 < ls.length) :
    Calls Try.prog 5 #[.agg #[.slice A xs.length c], vL, .int .i64 d, .int .i64 f, .int .i64 t] w fun e w' => e = .returned (.bool true) ∧ Below w.heap.size w w' := by
  have HG := Lib.hid (fun W (hW : Below w.heap.size w W) => rGreat_any A c b off xs vi vd W hm hm2 hA (hc.after hW))
  obtain ⟨AL, cL, rfl⟩ := hL.slice
  by_cases hgb : greatB xs = true
  · rw [hgb] at HG
    clear hA hc hm2 hg hgb hL
    go_enter Try.func5, Try.ntmps5
    go_wp2_with fail
    refine (HG.out _ (by (repeat' (first | (with_reducible exact Below.refl _ _) | (with_reducible assumption) | (with_reducible refine Below.alloc ?_ ?_ _) | (with_reducible refine Below.setCell ?_ ?_ _) | (with_reducible refine below_row ?_ ?_ _) | (with_reducible refine Below.drew ?_) | (with_reducible refine below_drewN ?_ _) | (with_reducible refine Below.trans ?_ (Below.mono (by assumption) ?_)) | (first | exact Nat.le_refl _ | omega | (simp; done) | (simp; omega) | (exact Below.size (by assumption))))))).mono ?_
    rintro e w1 ⟨rfl, hb1⟩
    have s1 := hb1.size; try simp only [World.size_alloc, World.size_setCell, World.size_drew, setRow_size] at s1
    go_wp2
    go_ret
    exact ⟨rfl, by (repeat' (first | (with_reducible exact Below.refl _ _) | (with_reducible assumption) | (with_reducible refine Below.alloc ?_ ?_ _) | (with_reducible refine Below.setCell ?_ ?_ _) | (with_reducible refine below_row ?_ ?_ _) | (with_reducible refine Below.drew ?_) | (with_reducible refine below_drewN ?_ _) | (with_reducible refine Below.trans ?_ (Below.mono (by assumption) ?_)) | (first | exact Nat.le_refl _ | omega | (simp; done) | (simp; omega) | (exact Below.size (by assumption)))))⟩
  · have h8 : 80 < ls.length := hg.resolve_left hgb
    have h8' : (80 : Int) < (ls.length : Int) := by omega
    rw [Bool.not_eq_true] at hgb
    rw [hgb] at HG
    clear hA hc hm2 hg hgb hL
    go_enter Try.func5, Try.ntmps5
    go_wp2_with fail
    refine (HG.out _ (by (repeat' (first | (with_reducible exact Below.refl _ _) | (with_reducible assumption) | (with_reducible refine Below.alloc ?_ ?_ _) | (with_reducible refine Below.setCell ?_ ?_ _) | (with_reducible refine below_row ?_ ?_ _) | (with_reducible refine Below.drew ?_) | (with_reducible refine below_drewN ?_ _) | (with_reducible refine Below.trans ?_ (Below.mono (by assumption) ?_)) | (first | exact Nat.le_refl _ | omega | (simp; done) | (simp; omega) | (exact Below.size (by assumption))))))).mono ?_
    rintro e w1 ⟨rfl, hb1⟩
    have s1 := hb1.size; try simp only [World.size_alloc, World.size_setCell, World.size_drew, setRow_size] at s1
    go_wp2
    go_ret
    exact ⟨rfl, by (repeat' (first | (with_reducible exact Below.refl _ _) | (with_reducible assumption) | (with_reducible refine Below.alloc ?_ ?_ _) | (with_reducible refine Below.setCell ?_ ?_ _) | (with_reducible refine below_row ?_ ?_ _) | (with_reducible refine Below.drew ?_) | (with_reducible refine below_drewN ?_ _) | (with_reducible refine Below.trans ?_ (Below.mono (by assumption) ?_)) | (first | exact Nat.le_refl _ | omega | (simp; done) | (simp; omega) | (exact Below.size (by assumption)))))⟩

set_option maxRecDepth 100000 in
set_option maxHeartbeats 16000000 in
theorem uses_small (A : Option Addr) (c b off : Nat) (xs : List Iss) (vi vd : Nat → Value) (ls : List Int) (vL : Value) (d f t : Int) (w : World) (hm : xs.length ≤ 9223372036854775807) (hm2 : ∀ x ∈ xs, x.items.length ≤ 9223372036854775807 ∧ x.dims.length ≤ 9223372036854775807) (hA : 0 < xs.length → A = some ⟨b, off, none⟩) (hc : IssRow w b off xs vi vd) (hL : IntsAt w vL ls) (hn : NilOk vL) (hg : greatB xs = false) (h8 : ls.length ≤ 80) :
    Calls Try.prog 5 #[.agg #[.slice A xs.length c], vL, .int .i64 d, .int .i64 f, .int .i64 t] w fun e w' => e = .returned (.bool true) ∧ Below w.heap.size w w' := by
  have HG := Lib.hid (fun W (hW : Below w.heap.size w W) => rGreat_any A c b off xs vi vd W hm hm2 hA (hc.after hW))
  rw [hg] at HG
  obtain ⟨hlen, hsml⟩ := great_no hg
  have hr : RegAt w (.slice A xs.length c) xs := ⟨⟨A, c, b, off, rfl, hA, fun i hi => ⟨vi i, vd i, hc i hi⟩⟩, by omega, fun x hx => ⟨by have := (hsml x hx).1; omega, by have := (hsml x hx).2; omega⟩⟩
  have HRR := Lib.hid hr
  have HTW := Lib.hid (fun W (hW : Below w.heap.size w W) => rTwin_any (hr.after hW))
  have HLW := Lib.hid (fun W (hW : Below w.heap.size w W) => hL.after hW)
  have HRU := Lib.hid (fun W (hW : Below w.heap.size w W) => rUses_any d (hr.after hW))
  have HRA := Lib.hid (fun W (hW : Below w.heap.size w W) => rAbove_any d (hr.after hW) (hL.after hW) (by omega))
  have HRD := Lib.hid (fun W (hW : Below w.heap.size w W) => rDiffer_any d f t (hr.after hW))
  have HSU := Lib.hid (fun W vI (h1 : RegAt W vI xs) => sUses_any d h1)
  have HSA := Lib.hid (fun W vI vM (h1 : RegAt W vI xs) (h2 : IntsAt W vM ls) => sAbove_any d h1 h2 (by omega))
  have HSD := Lib.hid (fun W vI (h1 : RegAt W vI xs) => sDiffer_any d f t h1)
  have hul := uses_len xs d
  have hal := above_len xs ls d
  obtain ⟨hdl, hdm⟩ := differ_len d f t (fun x hx => (hsml x hx).2)
  obtain ⟨AL, cL, rfl, hnone, hnews⟩ := news_ints hL hn
  have HNONE := Lib.hid hnone
  have HNEWS := Lib.hid hnews
  obtain ⟨i0, hi0, hz0, hz1, hz2⟩ := info_parts infoN
  have HD0 := Lib.hid (Lies.made w 24 #[.slice A xs.length c])
  clear hA hc hm2 hg hr hsml hL hn hnone hnews
  generalize usesE xs d = ue at *
  generalize aboveE xs ls d = ae at *
  generalize differE xs d f t = de at *
  obtain ⟨ul, ue2⟩ := ue
  obtain ⟨al, ae2⟩ := ae
  obtain ⟨dl, dm, de2⟩ := de
  simp only at hul hal hdl hdm
  have b1 : (ue2 != ue2) = false := by simp
  have b2 : (ae2 != ae2) = false := by simp
  have b3 : (de2 == de2) = true := by simp
  have h8' : ¬ (80 : Int) < (ls.length : Int) := by omega
  go_enter Try.func5, Try.ntmps5
  go_wp2_with fail
  refine (HG.out _ (by (repeat' (first | (with_reducible exact Below.refl _ _) | (with_reducible assumption) | (with_reducible refine Below.alloc ?_ ?_ _) | (with_reducible refine Below.setCell ?_ ?_ _) | (with_reducible refine below_row ?_ ?_ _) | (with_reducible refine Below.drew ?_) | (with_reducible refine below_drewN ?_ _) | (with_reducible refine Below.trans ?_ (Below.mono (by assumption) ?_)) | (first | exact Nat.le_refl _ | omega | (simp; done) | (simp; omega) | (exact Below.size (by assumption))))))).mono ?_
  rintro e w1 ⟨rfl, hb1⟩
  have s1 := hb1.size; try simp only [World.size_alloc, World.size_setCell, World.size_drew, setRow_size] at s1
  have HD1 := Lib.hid (HD0.out.after hb1)
  have d1 := HD1.out.cell 0
  have zd1 := HD1.out.lt
  have hbw1 : Below w.heap.size w w1 := by (repeat' (first | (with_reducible exact Below.refl _ _) | (with_reducible assumption) | (with_reducible refine Below.alloc ?_ ?_ _) | (with_reducible refine Below.setCell ?_ ?_ _) | (with_reducible refine below_row ?_ ?_ _) | (with_reducible refine Below.drew ?_) | (with_reducible refine below_drewN ?_ _) | (with_reducible refine Below.trans ?_ (Below.mono (by assumption) ?_)) | (first | exact Nat.le_refl _ | omega | (simp; done) | (simp; omega) | (exact Below.size (by assumption)))))
  clear hb1 HG HD0
  go_wp2_with fail
  refine (HTW.out _ (by (repeat' (first | (with_reducible exact Below.refl _ _) | (with_reducible assumption) | (with_reducible refine Below.alloc ?_ ?_ _) | (with_reducible refine Below.setCell ?_ ?_ _) | (with_reducible refine below_row ?_ ?_ _) | (with_reducible refine Below.drew ?_) | (with_reducible refine below_drewN ?_ _) | (with_reducible refine Below.trans ?_ (Below.mono (by assumption) ?_)) | (first | exact Nat.le_refl _ | omega | (simp; done) | (simp; omega) | (exact Below.size (by assumption))))))).mono ?_
  rintro e w2 ⟨v2, rfl, hown, hb2⟩
  have s2 := hb2.size; try simp only [World.size_alloc, World.size_setCell, World.size_drew, setRow_size] at s2
  have HO := Lib.hid (fun W (hW : Below w2.heap.size w2 W) => hown.after hW)
  obtain ⟨A2, c2, rfl⟩ := hown.slice
  have HD2 := Lib.hid (HD1.out.after hb2)
  have hbw2 : Below w.heap.size w w2 := by (repeat' (first | (with_reducible exact Below.refl _ _) | (with_reducible assumption) | (with_reducible refine Below.alloc ?_ ?_ _) | (with_reducible refine Below.setCell ?_ ?_ _) | (with_reducible refine below_row ?_ ?_ _) | (with_reducible refine Below.drew ?_) | (with_reducible refine below_drewN ?_ _) | (with_reducible refine Below.trans ?_ (Below.mono (by assumption) ?_)) | (first | exact Nat.le_refl _ | omega | (simp; done) | (simp; omega) | (exact Below.size (by assumption)))))
  have hs2 := hbw2.size
  clear hb2 HTW HD1 d1 zd1 hown
  have HBW := Lib.hid hbw2
  go_wp2_with (at_builtin; refine wpList_row rfl _ _ 29 rfl w2.heap.size 3 i0 (.int .i64 0) 1 8 Try.underlying29 hi0 hz0 hz1 hz2 rfl (by decide) _ 0 [] rfl (own_emptyN w2 w2.heap.size w2.heap.size rfl (Nat.le_refl _)) AL ls.length cL (cellsN ls) rfl HNONE.out (by simp [cellsN]) (fun ad e => HNEWS.out ad e _ (by (repeat' (first | (with_reducible exact Below.refl _ _) | (with_reducible assumption) | (with_reducible refine Below.alloc ?_ ?_ _) | (with_reducible refine Below.setCell ?_ ?_ _) | (with_reducible refine below_row ?_ ?_ _) | (with_reducible refine Below.drew ?_) | (with_reducible refine below_drewN ?_ _) | (with_reducible refine Below.trans ?_ (Below.mono (by assumption) ?_)) | (first | exact Nat.le_refl _ | omega | (simp; done) | (simp; omega) | (exact Below.size (by assumption))))))) (by intro u hu; obtain ⟨x, -, rfl⟩ := List.mem_map.1 hu; rfl) (by unfold maxLen; omega) (by omega) (by simp) ?_; intro v3 w3 ho3 hap3 hbl3; have HB3 : Hid (Below w2.heap.size w2 w3) := Lib.hid (hbl3 w2 (by (repeat' (first | (with_reducible exact Below.refl _ _) | (with_reducible assumption) | (with_reducible refine Below.alloc ?_ ?_ _) | (with_reducible refine Below.setCell ?_ ?_ _) | (with_reducible refine below_row ?_ ?_ _) | (with_reducible refine Below.drew ?_) | (with_reducible refine below_drewN ?_ _) | (with_reducible refine Below.trans ?_ (Below.mono (by assumption) ?_)) | (first | exact Nat.le_refl _ | omega | (simp; done) | (simp; omega) | (exact Below.size (by assumption)))))) (Nat.le_refl _)); have HD3 := Lib.hid (hap3 _ _ _ (by decide) (HD2.out.alloc _)); rw [Nat.zero_add, List.nil_append] at ho3; have HM3 := Lib.hid (ints_of_own ho3); obtain ⟨A3, c3, g3, rfl, -⟩ := own_form ho3; clear ho3 hap3 hbl3)
  have hbw3 : Below w.heap.size w w3 := HBW.out.trans (HB3.out.mono hs2)
  have hs3 := hbw3.size
  have HO3 := Lib.hid (fun W (hW : Below w3.heap.size w3 W) => HO.out W (HB3.out.trans (hW.mono HB3.out.size)))
  have HM3W := Lib.hid (fun W (hW : Below w3.heap.size w3 W) => HM3.out.after hW)
  have HT3 := Lib.hid (Lies.made w3 24 #[.slice A2 xs.length c2])
  have HD3A := Lib.hid (HD3.out.alloc (.cells #[.slice A2 xs.length c2] 24))
  clear HBW HB3 HO HM3 HD3 HD2 hbw2 hs2 s2
  refine (HSU.out _ _ (HO3.out _ (by (repeat' (first | (with_reducible exact Below.refl _ _) | (with_reducible assumption) | (with_reducible refine Below.alloc ?_ ?_ _) | (with_reducible refine Below.setCell ?_ ?_ _) | (with_reducible refine below_row ?_ ?_ _) | (with_reducible refine Below.drew ?_) | (with_reducible refine below_drewN ?_ _) | (with_reducible refine Below.trans ?_ (Below.mono (by assumption) ?_)) | (first | exact Nat.le_refl _ | omega | (simp; done) | (simp; omega) | (exact Below.size (by assumption)))))))).mono ?_
  rintro e w4 ⟨v4, rfl, hi4, hb4⟩
  have s4 := hb4.size; try simp only [World.size_alloc, World.size_setCell, World.size_drew, setRow_size] at s4
  have G4 := Lib.hid hb4
  have HI4 := Lib.hid (fun W (hW : Below w4.heap.size w4 W) => hi4.after hW)
  obtain ⟨A4, c4, b4, o4, rfl, -⟩ := hi4
  clear HSU
  have HD4 := Lib.hid (HD3A.out.after hb4)
  have HT4 := Lib.hid (HT3.out.after hb4)
  have d4 := HD4.out.cell 0
  have t4 := HT4.out.cell 0
  have zd4 := HD4.out.lt
  have zt4 := HT4.out.lt
  have hq4 : Below w3.heap.size w3 w4 := by (repeat' (first | (with_reducible exact Below.refl _ _) | (with_reducible assumption) | (with_reducible refine Below.alloc ?_ ?_ _) | (with_reducible refine Below.setCell ?_ ?_ _) | (with_reducible refine below_row ?_ ?_ _) | (with_reducible refine Below.drew ?_) | (with_reducible refine below_drewN ?_ _) | (with_reducible refine Below.trans ?_ (Below.mono (by assumption) ?_)) | (first | exact Nat.le_refl _ | omega | (simp; done) | (simp; omega) | (exact Below.size (by assumption)))))
  have hbw4 : Below w.heap.size w w4 := by (repeat' (first | (with_reducible exact Below.refl _ _) | (with_reducible assumption) | (with_reducible refine Below.alloc ?_ ?_ _) | (with_reducible refine Below.setCell ?_ ?_ _) | (with_reducible refine below_row ?_ ?_ _) | (with_reducible refine Below.drew ?_) | (with_reducible refine below_drewN ?_ _) | (with_reducible refine Below.trans ?_ (Below.mono (by assumption) ?_)) | (first | exact Nat.le_refl _ | omega | (simp; done) | (simp; omega) | (exact Below.size (by assumption)))))
  clear hb4 HD3A HT3
  go_wp2_with fail
  refine (HRU.out _ (by (repeat' (first | (with_reducible exact Below.refl _ _) | (with_reducible assumption) | (with_reducible refine Below.alloc ?_ ?_ _) | (with_reducible refine Below.setCell ?_ ?_ _) | (with_reducible refine below_row ?_ ?_ _) | (with_reducible refine Below.drew ?_) | (with_reducible refine below_drewN ?_ _) | (with_reducible refine Below.trans ?_ (Below.mono (by assumption) ?_)) | (first | exact Nat.le_refl _ | omega | (simp; done) | (simp; omega) | (exact Below.size (by assumption))))))).mono ?_
  rintro e w5 ⟨v5, rfl, hi5, hb5⟩
  have s5 := hb5.size; try simp only [World.size_alloc, World.size_setCell, World.size_drew, setRow_size] at s5
  have G5 := Lib.hid hb5
  have HSR := Lib.hid (fun W (hW : Below w5.heap.size w5 W) => rSameRefs_v ((HI4.out w5 G5.out).after hW) (hi5.after hW) (by first | omega | (simp only; omega)) (by first | omega | (simp only; omega)))
  rw [decide_eq_true rfl] at HSR
  obtain ⟨A5, c5, b5, o5, rfl, -⟩ := hi5
  clear HRU HI4
  have HD5 := Lib.hid (HD4.out.after hb5)
  have HT5 := Lib.hid (HT4.out.after hb5)
  have d5 := HD5.out.cell 0
  have t5 := HT5.out.cell 0
  have zd5 := HD5.out.lt
  have zt5 := HT5.out.lt
  have hq5 : Below w3.heap.size w3 w5 := hq4.trans (hb5.mono hq4.size)
  have hbw5 : Below w.heap.size w w5 := hbw4.trans (hb5.mono hbw4.size)
  clear hb5 HD4 HT4 d4 t4 zd4 zt4 hq4 hbw4
  go_wp2_with fail
  refine (HSA.out _ _ _ (HO3.out _ (by (repeat' (first | (with_reducible exact Below.refl _ _) | (with_reducible assumption) | (with_reducible refine Below.alloc ?_ ?_ _) | (with_reducible refine Below.setCell ?_ ?_ _) | (with_reducible refine below_row ?_ ?_ _) | (with_reducible refine Below.drew ?_) | (with_reducible refine below_drewN ?_ _) | (with_reducible refine Below.trans ?_ (Below.mono (by assumption) ?_)) | (first | exact Nat.le_refl _ | omega | (simp; done) | (simp; omega) | (exact Below.size (by assumption))))))) (HM3W.out _ (by (repeat' (first | (with_reducible exact Below.refl _ _) | (with_reducible assumption) | (with_reducible refine Below.alloc ?_ ?_ _) | (with_reducible refine Below.setCell ?_ ?_ _) | (with_reducible refine below_row ?_ ?_ _) | (with_reducible refine Below.drew ?_) | (with_reducible refine below_drewN ?_ _) | (with_reducible refine Below.trans ?_ (Below.mono (by assumption) ?_)) | (first | exact Nat.le_refl _ | omega | (simp; done) | (simp; omega) | (exact Below.size (by assumption)))))))).mono ?_
  rintro e w6 ⟨v6, rfl, hi6, hb6⟩
  have s6 := hb6.size; try simp only [World.size_alloc, World.size_setCell, World.size_drew, setRow_size] at s6
  have G6 := Lib.hid hb6
  have HI6 := Lib.hid (fun W (hW : Below w6.heap.size w6 W) => hi6.after hW)
  obtain ⟨A6, c6, b6, o6, rfl, -⟩ := hi6
  clear HSA
  have HD6 := Lib.hid (HD5.out.after hb6)
  have HT6 := Lib.hid (HT5.out.after hb6)
  have d6 := HD6.out.cell 0
  have t6 := HT6.out.cell 0
  have zd6 := HD6.out.lt
  have zt6 := HT6.out.lt
  have hq6 : Below w3.heap.size w3 w6 := hq5.trans (hb6.mono hq5.size)
  have hbw6 : Below w.heap.size w w6 := hbw5.trans (hb6.mono hbw5.size)
  clear hb6 HD5 HT5 d5 t5 zd5 zt5 hq5 hbw5
  go_wp2_with fail
  refine (HRA.out _ (by (repeat' (first | (with_reducible exact Below.refl _ _) | (with_reducible assumption) | (with_reducible refine Below.alloc ?_ ?_ _) | (with_reducible refine Below.setCell ?_ ?_ _) | (with_reducible refine below_row ?_ ?_ _) | (with_reducible refine Below.drew ?_) | (with_reducible refine below_drewN ?_ _) | (with_reducible refine Below.trans ?_ (Below.mono (by assumption) ?_)) | (first | exact Nat.le_refl _ | omega | (simp; done) | (simp; omega) | (exact Below.size (by assumption))))))).mono ?_
  rintro e w7 ⟨v7, rfl, hi7, hb7⟩
  have s7 := hb7.size; try simp only [World.size_alloc, World.size_setCell, World.size_drew, setRow_size] at s7
  have G7 := Lib.hid hb7
  have HSN1 := Lib.hid (fun W (hW : Below w7.heap.size w7 W) => rSameInts_v ((HI6.out w7 G7.out).after hW) (hi7.after hW) (by first | omega | (simp only; omega)) (by first | omega | (simp only; omega)))
  rw [decide_eq_true rfl] at HSN1
  obtain ⟨A7, c7, b7, o7, rfl, -⟩ := hi7
  clear HRA HI6
  have HD7 := Lib.hid (HD6.out.after hb7)
  have HT7 := Lib.hid (HT6.out.after hb7)
  have d7 := HD7.out.cell 0
  have t7 := HT7.out.cell 0
  have zd7 := HD7.out.lt
  have zt7 := HT7.out.lt
  have hq7 : Below w3.heap.size w3 w7 := hq6.trans (hb7.mono hq6.size)
  have hbw7 : Below w.heap.size w w7 := hbw6.trans (hb7.mono hbw6.size)
  clear hb7 HD6 HT6 d6 t6 zd6 zt6 hq6 hbw6
  go_wp2_with fail
  refine (HSR.out _ (G6.out.trans (G7.out.mono G6.out.size))).mono ?_
  rintro e w8 ⟨rfl, hb8⟩
  have s8 := hb8.size; try simp only [World.size_alloc, World.size_setCell, World.size_drew, setRow_size] at s8
  have G8 := Lib.hid hb8
  clear HSR
  have HD8 := Lib.hid (HD7.out.after hb8)
  have HT8 := Lib.hid (HT7.out.after hb8)
  have d8 := HD8.out.cell 0
  have t8 := HT8.out.cell 0
  have zd8 := HD8.out.lt
  have zt8 := HT8.out.lt
  have hq8 : Below w3.heap.size w3 w8 := hq7.trans (hb8.mono hq7.size)
  have hbw8 : Below w.heap.size w w8 := hbw7.trans (hb8.mono hbw7.size)
  clear hb8 HD7 HT7 d7 t7 zd7 zt7 hq7 hbw7
  go_wp2_with fail
  refine (HSN1.out _ G8.out).mono ?_
  rintro e w9 ⟨rfl, hb9⟩
  have s9 := hb9.size; try simp only [World.size_alloc, World.size_setCell, World.size_drew, setRow_size] at s9
  have G9 := Lib.hid hb9
  clear HSN1
  have HD9 := Lib.hid (HD8.out.after hb9)
  have HT9 := Lib.hid (HT8.out.after hb9)
  have d9 := HD9.out.cell 0
  have t9 := HT9.out.cell 0
  have zd9 := HD9.out.lt
  have zt9 := HT9.out.lt
  have hq9 : Below w3.heap.size w3 w9 := hq8.trans (hb9.mono hq8.size)
  have hbw9 : Below w.heap.size w w9 := hbw8.trans (hb9.mono hbw8.size)
  clear hb9 HD8 HT8 d8 t8 zd8 zt8 hq8 hbw8
  go_wp2_with fail
  refine (HSD.out _ _ (HO3.out _ (by (repeat' (first | (with_reducible exact Below.refl _ _) | (with_reducible assumption) | (with_reducible refine Below.alloc ?_ ?_ _) | (with_reducible refine Below.setCell ?_ ?_ _) | (with_reducible refine below_row ?_ ?_ _) | (with_reducible refine Below.drew ?_) | (with_reducible refine below_drewN ?_ _) | (with_reducible refine Below.trans ?_ (Below.mono (by assumption) ?_)) | (first | exact Nat.le_refl _ | omega | (simp; done) | (simp; omega) | (exact Below.size (by assumption)))))))).mono ?_
  rintro e w10 ⟨v10, u10, rfl, hi10, hj10, hb10⟩
  have s10 := hb10.size; try simp only [World.size_alloc, World.size_setCell, World.size_drew, setRow_size] at s10
  have G10 := Lib.hid hb10
  have HI10 := Lib.hid (fun W (hW : Below w10.heap.size w10 W) => And.intro (hi10.after hW) (hj10.after hW))
  obtain ⟨A10, c10, b10, o10, rfl, -⟩ := hi10
  obtain ⟨B10, e10, f10, p10, rfl, -⟩ := hj10
  clear HSD
  have HD10 := Lib.hid (HD9.out.after hb10)
  have HT10 := Lib.hid (HT9.out.after hb10)
  have d10 := HD10.out.cell 0
  have t10 := HT10.out.cell 0
  have zd10 := HD10.out.lt
  have zt10 := HT10.out.lt
  have hq10 : Below w3.heap.size w3 w10 := hq9.trans (hb10.mono hq9.size)
  have hbw10 : Below w.heap.size w w10 := hbw9.trans (hb10.mono hbw9.size)
  clear hb10 HD9 HT9 d9 t9 zd9 zt9 hq9 hbw9
  go_wp2_with fail
  refine (HRD.out _ (by (repeat' (first | (with_reducible exact Below.refl _ _) | (with_reducible assumption) | (with_reducible refine Below.alloc ?_ ?_ _) | (with_reducible refine Below.setCell ?_ ?_ _) | (with_reducible refine below_row ?_ ?_ _) | (with_reducible refine Below.drew ?_) | (with_reducible refine below_drewN ?_ _) | (with_reducible refine Below.trans ?_ (Below.mono (by assumption) ?_)) | (first | exact Nat.le_refl _ | omega | (simp; done) | (simp; omega) | (exact Below.size (by assumption))))))).mono ?_
  rintro e w11 ⟨v11, u11, rfl, hi11, hj11, hb11⟩
  have s11 := hb11.size; try simp only [World.size_alloc, World.size_setCell, World.size_drew, setRow_size] at s11
  have G11 := Lib.hid hb11
  have HSC := Lib.hid (fun W (hW : Below w11.heap.size w11 W) => rSameChanges_v ((HI10.out w11 G11.out).1.after hW) (hi11.after hW) (by first | omega | (simp only; omega)) (by first | omega | (simp only; omega)))
  have HSI := Lib.hid (fun W (hW : Below w11.heap.size w11 W) => rSameInts_v ((HI10.out w11 G11.out).2.after hW) (hj11.after hW) (by first | omega | (simp only; omega)) (by first | omega | (simp only; omega)))
  rw [decide_eq_true rfl] at HSC HSI
  obtain ⟨A11, c11, b11, o11, rfl, -⟩ := hi11
  obtain ⟨B11, e11, f11, p11, rfl, -⟩ := hj11
  clear HRD HI10
  have HD11 := Lib.hid (HD10.out.after hb11)
  have HT11 := Lib.hid (HT10.out.after hb11)
  have d11 := HD11.out.cell 0
  have t11 := HT11.out.cell 0
  have zd11 := HD11.out.lt
  have zt11 := HT11.out.lt
  have hq11 : Below w3.heap.size w3 w11 := hq10.trans (hb11.mono hq10.size)
  have hbw11 : Below w.heap.size w w11 := hbw10.trans (hb11.mono hbw10.size)
  clear hb11 HD10 HT10 d10 t10 zd10 zt10 hq10 hbw10
  go_wp2_with fail
  refine (HSC.out _ (by (repeat' (first | (with_reducible exact Below.refl _ _) | (with_reducible assumption) | (with_reducible refine Below.alloc ?_ ?_ _) | (with_reducible refine Below.setCell ?_ ?_ _) | (with_reducible refine below_row ?_ ?_ _) | (with_reducible refine Below.drew ?_) | (with_reducible refine below_drewN ?_ _) | (with_reducible refine Below.trans ?_ (Below.mono (by assumption) ?_)) | (first | exact Nat.le_refl _ | omega | (simp; done) | (simp; omega) | (exact Below.size (by assumption))))))).mono ?_
  rintro e w12 ⟨rfl, hb12⟩
  have s12 := hb12.size; try simp only [World.size_alloc, World.size_setCell, World.size_drew, setRow_size] at s12
  have G12 := Lib.hid hb12
  clear HSC
  have HD12 := Lib.hid (HD11.out.after hb12)
  have HT12 := Lib.hid (HT11.out.after hb12)
  have d12 := HD12.out.cell 0
  have t12 := HT12.out.cell 0
  have zd12 := HD12.out.lt
  have zt12 := HT12.out.lt
  have hq12 : Below w3.heap.size w3 w12 := hq11.trans (hb12.mono hq11.size)
  have hbw12 : Below w.heap.size w w12 := hbw11.trans (hb12.mono hbw11.size)
  clear hb12 HD11 HT11 d11 t11 zd11 zt11 hq11 hbw11
  go_wp2_with fail
  refine (HSI.out _ G12.out).mono ?_
  rintro e w13 ⟨rfl, hb13⟩
  have s13 := hb13.size; try simp only [World.size_alloc, World.size_setCell, World.size_drew, setRow_size] at s13
  have G13 := Lib.hid hb13
  clear HSI
  have HD13 := Lib.hid (HD12.out.after hb13)
  have HT13 := Lib.hid (HT12.out.after hb13)
  have d13 := HD13.out.cell 0
  have t13 := HT13.out.cell 0
  have zd13 := HD13.out.lt
  have zt13 := HT13.out.lt
  have hq13 : Below w3.heap.size w3 w13 := hq12.trans (hb13.mono hq12.size)
  have hbw13 : Below w.heap.size w w13 := hbw12.trans (hb13.mono hbw12.size)
  clear hb13 HD12 HT12 d12 t12 zd12 zt12 hq12 hbw12
  have HSS := Lib.hid (rSame_v (HO3.out w13 hq13) (HRR.out.after hbw13))
  rw [decide_eq_true rfl] at HSS
  go_wp2_with fail
  refine HSS.out.mono ?_
  rintro e w14 ⟨rfl, hb14⟩
  have s14 := hb14.size; try simp only [World.size_alloc, World.size_setCell, World.size_drew, setRow_size] at s14
  have hq14 : Below w3.heap.size w3 w14 := hq13.trans (hb14.mono hq13.size)
  have hbw14 : Below w.heap.size w w14 := hbw13.trans (hb14.mono hbw13.size)
  have HSN := Lib.hid (rSameInts_v (HM3W.out w14 hq14) (HLW.out w14 hbw14) (by omega) (by omega))
  rw [decide_eq_true rfl] at HSN
  clear hb14 HSS
  go_wp2_with fail
  refine HSN.out.mono ?_
  rintro e w15 ⟨rfl, hb15⟩
  have hbw15 : Below w.heap.size w w15 := hbw14.trans (hb15.mono hbw14.size)
  go_wp2_with fail
  go_ret
  exact ⟨rfl, hbw15⟩
end Go.Proofs.Ytnmcpkmiomknmaa
