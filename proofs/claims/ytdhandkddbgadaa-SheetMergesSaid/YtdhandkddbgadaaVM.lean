/- Merge of the reference: issues are put in, one by one. -/
import Derived.Test.YtdhandkddbgadaaVL
namespace Go.Proofs.Ytdhandkddbgadaa
set_option linter.unusedVariables false
set_option linter.unusedSimpArgs false
open Go.RowKit Go.BigFrame

set_option maxRecDepth 100000 in
set_option maxHeartbeats 16000000 in
/-- The part behind the checks: both registers are right, and nothing clashes. -/
theorem rMerge_go {A B : Option Addr} {c b off e b2 off2 : Nat} {xs ys : List Iss} {vi vd ui ud : Nat → Value} {w : World} (h : RegAt w (.slice A xs.length c) xs) (h2 : RegAt w (.slice B ys.length e) ys) (hA : 0 < xs.length → A = some ⟨b, off, none⟩) (hB : 0 < ys.length → B = some ⟨b2, off2, none⟩) (hc : IssRow w b off xs vi vd) (hd : IssRow w b2 off2 ys ui ud)
    (h0 : layE xs = 0) (h1 : layE ys = 0) (hcl : clashR xs ys xs.length = []) :
    Calls Try.prog 49 #[.agg #[.slice A xs.length c], .agg #[.slice B ys.length e]] w (MergeP (mergeE xs ys) w) := by
  have hlx := lay_len h0
  have hly := lay_len h1
  have hb0 : bothE xs ys = 0 := by unfold bothE; rw [if_neg (by simpa using h0)]; exact h1
  have HBO := Lib.hid (fun W (hW : Below w.heap.size w W) => rBoth_any (h.after hW) (h2.after hW))
  rw [hb0] at HBO
  have HCL := Lib.hid (fun W (hW : Below w.heap.size w W) => rclash_any (h.after hW) (h2.after hW))
  rw [hcl] at HCL
  have HTW := Lib.hid (fun W (hW : Below w.heap.size w W) => rTwinO_any (h.after hW))
  have HSM := Lib.hid (join_small h.small h2.small)
  have HSY := Lib.hid (fun x hx => h2.small x hx)
  have HRJ := Lib.hid (refK_all (layE_ok h0).2.1 (layE_ok h1).2.1)
  have HME : Hid (mergeE xs ys = if layE (joinL xs ys) ≠ 0 then (([], layE (joinL xs ys)) : List Iss × Int) else (joinL xs ys, 0)) := Lib.hid (by unfold mergeE; rw [if_neg (by simpa using hb0), if_neg (by simpa using hcl)])
  have HFI := Lib.hid (fun d l W (hW : Below w.heap.size w W) => rFind_tell (c := c) d l W h.len hA (hc.after hW))
  have HTI := Lib.hid (rTwin_v hd h2.small)
  have HB := Lib.hid hB
  have HD := Lib.hid hd
  have LI := Lib.hid (((Lies.made w 24 #[.slice A xs.length c]).alloc (.cells #[.slice B ys.length e] 24)).alloc (.cells #[.slice none 0 0] 24))
  have LJ := Lib.hid ((Lies.new (u := w.alloc (.cells #[.slice A xs.length c] 24)) (k := w.heap.size + 1) (t := 24) (cs := #[.slice B ys.length e]) (by simp)).alloc (.cells #[.slice none 0 0] 24))
  have LR := Lib.hid (Lies.new (u := (w.alloc (.cells #[.slice A xs.length c] 24)).alloc (.cells #[.slice B ys.length e] 24)) (k := w.heap.size + 1 + 1) (t := 24) (cs := #[.slice none 0 0]) (by simp))
  obtain ⟨q0, hq0, hz0, hz1, hz2⟩ := info_parts infoQ3
  clear h h2 hA hB hc hd h0 h1 hcl hb0
  obtain ⟨MM, hMM⟩ : ∃ MM, mergeE xs ys = MM := ⟨_, rfl⟩
  rw [hMM] at HME ⊢
  clear hMM
  go_enter Try.func49, Try.ntmps49
  go_wp2_with fail
  refine (HBO.out _ (by (repeat' (first | (with_reducible exact Below.refl _ _) | (with_reducible assumption) | (with_reducible refine Below.alloc ?_ ?_ _) | (with_reducible refine Below.setCell ?_ ?_ _) | (with_reducible refine below_row ?_ ?_ _) | (with_reducible refine Below.drew ?_) | (with_reducible refine below_drewN ?_ _) | (with_reducible refine Below.trans ?_ (Below.mono (by assumption) ?_)) | (first | exact Nat.le_refl _ | omega | (simp; done) | (simp; omega) | (exact Below.size (by assumption))))))).mono ?_
  rintro e1 w1 ⟨rfl, hb1⟩
  have hbw1 : Below w.heap.size w w1 := by (repeat' (first | (with_reducible exact Below.refl _ _) | (with_reducible assumption) | (with_reducible refine Below.alloc ?_ ?_ _) | (with_reducible refine Below.setCell ?_ ?_ _) | (with_reducible refine below_row ?_ ?_ _) | (with_reducible refine Below.drew ?_) | (with_reducible refine below_drewN ?_ _) | (with_reducible refine Below.trans ?_ (Below.mono (by assumption) ?_)) | (first | exact Nat.le_refl _ | omega | (simp; done) | (simp; omega) | (exact Below.size (by assumption)))))
  have LI1 := Lib.hid (LI.out.after hb1)
  have LJ1 := Lib.hid (LJ.out.after hb1)
  have LR1 := Lib.hid (LR.out.after hb1)
  have x0 := LI1.out.cell 0
  have y0 := LJ1.out.cell 0
  have zi := LI1.out.lt
  have zj := LJ1.out.lt
  clear hb1 HBO LI LJ LR
  go_wp2_with fail
  refine (HCL.out _ (by (repeat' (first | (with_reducible exact Below.refl _ _) | (with_reducible assumption) | (with_reducible refine Below.alloc ?_ ?_ _) | (with_reducible refine Below.setCell ?_ ?_ _) | (with_reducible refine below_row ?_ ?_ _) | (with_reducible refine Below.drew ?_) | (with_reducible refine below_drewN ?_ _) | (with_reducible refine Below.trans ?_ (Below.mono (by assumption) ?_)) | (first | exact Nat.le_refl _ | omega | (simp; done) | (simp; omega) | (exact Below.size (by assumption))))))).mono ?_
  rintro e2 w2 ⟨v2, rfl, ho2, hb2⟩
  obtain ⟨A2, c2, g2, rfl, -⟩ := own_form ho2
  have hb12 : Below w1.heap.size w1 w2 := by (repeat' (first | (with_reducible exact Below.refl _ _) | (with_reducible assumption) | (with_reducible refine Below.alloc ?_ ?_ _) | (with_reducible refine Below.setCell ?_ ?_ _) | (with_reducible refine below_row ?_ ?_ _) | (with_reducible refine Below.drew ?_) | (with_reducible refine below_drewN ?_ _) | (with_reducible refine Below.trans ?_ (Below.mono (by assumption) ?_)) | (first | exact Nat.le_refl _ | omega | (simp; done) | (simp; omega) | (exact Below.size (by assumption)))))
  have hbw2 : Below w.heap.size w w2 := hbw1.trans (hb12.mono hbw1.size)
  have LI2 := Lib.hid (LI1.out.after hb12)
  have LJ2 := Lib.hid (LJ1.out.after hb12)
  have LR2 := Lib.hid (LR1.out.after hb12)
  clear ho2 hb2 HCL x0 y0 zi zj LI1 LJ1 LR1 hb12
  have x0 := LI2.out.cell 0
  have zi := LI2.out.lt
  go_wp2_with fail
  refine (HTW.out _ (by (repeat' (first | (with_reducible exact Below.refl _ _) | (with_reducible assumption) | (with_reducible refine Below.alloc ?_ ?_ _) | (with_reducible refine Below.setCell ?_ ?_ _) | (with_reducible refine below_row ?_ ?_ _) | (with_reducible refine Below.drew ?_) | (with_reducible refine below_drewN ?_ _) | (with_reducible refine Below.trans ?_ (Below.mono (by assumption) ?_)) | (first | exact Nat.le_refl _ | omega | (simp; done) | (simp; omega) | (exact Below.size (by assumption))))))).mono ?_
  rintro e3 w3 ⟨v3, rs0, rfl, ho3, hm3, hb3⟩
  have hb23 : Below w2.heap.size w2 w3 := by (repeat' (first | (with_reducible exact Below.refl _ _) | (with_reducible assumption) | (with_reducible refine Below.alloc ?_ ?_ _) | (with_reducible refine Below.setCell ?_ ?_ _) | (with_reducible refine below_row ?_ ?_ _) | (with_reducible refine Below.drew ?_) | (with_reducible refine below_drewN ?_ _) | (with_reducible refine Below.trans ?_ (Below.mono (by assumption) ?_)) | (first | exact Nat.le_refl _ | omega | (simp; done) | (simp; omega) | (exact Below.size (by assumption)))))
  have hbw3 : Below w.heap.size w w3 := hbw2.trans (hb23.mono hbw2.size)
  have HO3 := Lib.hid (ho3.less hbw2.size)
  have LI3 := Lib.hid (LI2.out.after hb23)
  have LJ3 := Lib.hid (LJ2.out.after hb23)
  have LR3 := Lib.hid (LR2.out.after hb23)
  have HM3 : Hid (rs0.map (·.1) = refK xs ys 0) := Lib.hid (by rw [hm3]; rfl)
  have hl3 : rs0.length ≤ xs.length := map_len hm3
  obtain ⟨A3, c3, g3, rfl, -, -⟩ := ho3.form
  clear ho3 hm3 hb3 HTW x0 zi LI2 LJ2 LR2 hb23
  go_wp2_with fail
  obtain ⟨nT, hnT⟩ : ∃ n, n = w3.heap.size := ⟨_, rfl⟩
  obtain ⟨w4, hw4⟩ : ∃ W, w3.alloc (.cells #[.slice A3 rs0.length c3] 24) = W := ⟨_, rfl⟩
  have LT4 : Hid (Lies w4 nT 24 #[.slice A3 rs0.length c3]) := Lib.hid (by rw [← hw4, hnT]; exact Lies.made w3 24 #[.slice A3 rs0.length c3])
  have hb34 : Below w3.heap.size w3 w4 := by rw [← hw4]; (repeat' (first | (with_reducible exact Below.refl _ _) | (with_reducible assumption) | (with_reducible refine Below.alloc ?_ ?_ _) | (with_reducible refine Below.setCell ?_ ?_ _) | (with_reducible refine below_row ?_ ?_ _) | (with_reducible refine Below.drew ?_) | (with_reducible refine below_drewN ?_ _) | (with_reducible refine Below.trans ?_ (Below.mono (by assumption) ?_)) | (first | exact Nat.le_refl _ | omega | (simp; done) | (simp; omega) | (exact Below.size (by assumption)))))
  rw [hw4]
  rw [← hnT]
  have hTw : w.heap.size ≤ nT := by rw [hnT]; exact hbw3.size
  have hTi : ¬ nT = w.heap.size ∧ ¬ nT = w.heap.size + 1 ∧ ¬ nT = w.heap.size + 1 + 1 := by have := LR3.out.lt; omega
  have HO4 := Lib.hid (HO3.out.after hb34)
  have HK4 : Hid (Keep w4 w.heap.size [(w.heap.size, 24, #[.slice A xs.length c]), (w.heap.size + 1, 24, #[.slice B ys.length e]), (w.heap.size + 1 + 1, 24, #[.slice none 0 0])] []) := Lib.hid ⟨fun l hl => by
    simp only [List.mem_cons, List.not_mem_nil, or_false] at hl
    rcases hl with rfl | rfl | rfl
    · exact ⟨(by dsimp only; decide), LI3.out.after hb34⟩
    · exact ⟨(by dsimp only; decide), LJ3.out.after hb34⟩
    · exact ⟨(by dsimp only; decide), LR3.out.after hb34⟩, fun _ h => by cases h⟩
  have hbw4 : Below w.heap.size w w4 := hbw3.trans (hb34.mono hbw3.size)
  clear hw4 hnT HO3 LI3 LJ3 LR3 hb34 hbw3 hbw2 hbw1
  go_loopw [8] (fun s8 wr => ∃ (i : Nat) (AO : Option Addr) (cO : Nat) (rs : List (Iss × Value × Value)), i ≤ ys.length ∧ s8 = .int .i64 i ∧ Hid (Lies wr nT 24 #[.slice AO rs.length cO]) ∧ Hid (OwnReg wr w.heap.size (.slice AO rs.length cO) rs) ∧ Hid (rs.map (·.1) = refK xs ys i) ∧ rs.length ≤ xs.length + i ∧ Hid (Keep wr w.heap.size [(w.heap.size, 24, #[.slice A xs.length c]), (w.heap.size + 1, 24, #[.slice B ys.length e]), (w.heap.size + 1 + 1, 24, #[.slice none 0 0])] []) ∧ Below w.heap.size w wr) (fun s8 _ => ys.length - (intOf s8).toNat)
  case atStart => exact ⟨0, A3, c3, rs0, by omega, rfl, LT4, HO4, HM3, by omega, HK4, hbw4⟩
  case round =>
    obtain ⟨i, AO, cO, rs, hi, rfl, LT, HO, HM, hrl, HK, hb⟩ := hrel
    have hz := hb.size
    have hk := HK.out.1
    have hLA := (hk _ (List.mem_cons_self ..)).2
    have hLB := (hk _ (List.mem_cons_of_mem _ (List.mem_cons_self ..))).2
    have hLC := (hk _ (List.mem_cons_of_mem _ (List.mem_cons_of_mem _ (List.mem_cons_self ..)))).2
    dsimp only at hLA hLB hLC
    have a0 := hLA.cell 0
    have b0 := hLB.cell 0
    have za := hLA.lt
    have zb := hLB.lt
    have t0 := LT.out.cell 0
    have zt := LT.out.lt
    by_cases hlt : i < ys.length
    · obtain rfl := HB.out (by omega)
      have kl : (i : Int) < (ys.length : Int) := by omega
      have HST := Lib.hid (refK_step (xs := xs) hlt)
      have HTI2 := Lib.hid (HTI.out i hlt)
      obtain ⟨⟨B1, m1, g1, u1⟩, B2, m2, g2, u2⟩ := HD.out.slices hlt
      have hrow := (HD.out.after hb) i hlt
      rw [u1, u2] at HTI2 hrow
      obtain ⟨r0, r1, r2, r3, r4, hyk, -⟩ := hrow
      clear u1 u2 hk hLC
      have HLY := Lib.hid (fun W (hW : Below wr.heap.size wr W) => hLA.after hW)
      clear hLA hLB
      obtain ⟨y, hy⟩ : ∃ y, ys[i] = y := ⟨_, rfl⟩
      rw [hy] at HST HTI2 r0 r1 r2 hyk
      have HFY := Lib.hid (fun W (hW : Below w.heap.size w W) => HFI.out y.d y.l W hW)
      have HRF := Lib.hid (fun W => rRefOf_any y.d y.l y.k (.slice B1 m1 g1) (.slice B2 m2 g2) W)
      clear hy
      go_upto_region 11 with fail
      obtain ⟨nX, hnX⟩ : ∃ n, n = wr.heap.size := ⟨_, rfl⟩
      obtain ⟨w7, hw7⟩ : ∃ W, wr.alloc (.cells #[.int .i64 y.d, .int .i64 y.l, .int .u8 y.k, .slice B1 m1 g1, .slice B2 m2 g2] 45) = W := ⟨_, rfl⟩
      have LX7 : Hid (Lies w7 nX 45 #[.int .i64 y.d, .int .i64 y.l, .int .u8 y.k, .slice B1 m1 g1, .slice B2 m2 g2]) := Lib.hid (by rw [← hw7, hnX]; exact Lies.made wr 45 #[.int .i64 y.d, .int .i64 y.l, .int .u8 y.k, .slice B1 m1 g1, .slice B2 m2 g2])
      have hb7 : Below wr.heap.size wr w7 := by rw [← hw7]; (repeat' (first | (with_reducible exact Below.refl _ _) | (with_reducible assumption) | (with_reducible refine Below.alloc ?_ ?_ _) | (with_reducible refine Below.setCell ?_ ?_ _) | (with_reducible refine below_row ?_ ?_ _) | (with_reducible refine Below.drew ?_) | (with_reducible refine below_drewN ?_ _) | (with_reducible refine Below.trans ?_ (Below.mono (by assumption) ?_)) | (first | exact Nat.le_refl _ | omega | (simp; done) | (simp; omega) | (exact Below.size (by assumption)))))
      rw [hw7]
      rw [← hnX]
      have hXr : wr.heap.size ≤ nX := by omega
      clear hw7 hnX r0 r1 r2 r3 r4 a0 b0 za zb t0 zt
      have hbw7 : Below w.heap.size w w7 := hb.trans (hb7.mono hz)
      have hs7 := hbw7.size
      have hla7 := HLY.out w7 hb7
      have a0 := hla7.cell 0
      have za := hla7.lt
      have f0 := LX7.out.cell 0
      have f1 := LX7.out.cell 1
      have f2 := LX7.out.cell 2
      have f3 := LX7.out.cell 3
      have f4 := LX7.out.cell 4
      have zx := LX7.out.lt
      have HAL := Lib.hid (fun W (hW : Below w7.heap.size w7 W) => And.intro (hla7.after hW) (LX7.out.after hW))
      clear hla7
      go_cut [11] (fun s11 wx => s11 = .bool (hasN xs y.d y.l) ∧ Below w7.heap.size w7 wx)
      case first =>
        go_region_held3 (fun W => W.cell? ⟨w.heap.size, 0, none⟩ = some (.slice A xs.length c) ∧ W.cell? ⟨nX, 0, none⟩ = some (.int .i64 y.d) ∧ W.cell? ⟨nX, 1, none⟩ = some (.int .i64 y.l) ∧ W.cell? ⟨nX, 2, none⟩ = some (.int .u8 y.k) ∧ W.cell? ⟨nX, 3, none⟩ = some (.slice B1 m1 g1) ∧ W.cell? ⟨nX, 4, none⟩ = some (.slice B2 m2 g2)) (first | (((try dsimp only); (with_reducible refine ⟨keep_five ?_ ?_, keep_five ?_ ?_, keep_five ?_ ?_, keep_five ?_ ?_, keep_five ?_ ?_, keep_five ?_ ?_⟩); (all_goals first | assumption | (simp only; omega))); done) | go_keep) (first
          | (go_at_call 56; refine (HRF.out _).mono ?_; rintro e8 w8 ⟨rfl, hb8⟩; have hb78 : Below w7.heap.size w7 w8 := (by (repeat' (first | (with_reducible exact Below.refl _ _) | (with_reducible assumption) | (with_reducible refine Below.alloc ?_ ?_ _) | (with_reducible refine Below.setCell ?_ ?_ _) | (with_reducible refine below_row ?_ ?_ _) | (with_reducible refine Below.drew ?_) | (with_reducible refine below_drewN ?_ _) | (with_reducible refine Below.trans ?_ (Below.mono (by assumption) ?_)) | (first | exact Nat.le_refl _ | omega | (simp; done) | (simp; omega) | (exact Below.size (by assumption)))))); have hal8 := HAL.out w8 hb78; have p0 := hal8.1.cell 0; have p1 := hal8.2.cell 0; have p2 := hal8.2.cell 1; have p3 := hal8.2.cell 2; have p4 := hal8.2.cell 3; have p5 := hal8.2.cell 4; have hs8 := hb78.size; (first | (have M8 : Lies w8 w7.heap.size 45 #[.int .i64 0, .int .i64 0, .int .u8 0, .slice none 0 0, .slice none 0 0] := (Lies.made w7.drew 45 #[.int .i64 0, .int .i64 0, .int .u8 0, .slice none 0 0, .slice none 0 0]).after hb8; have HM8 := Lib.hid M8; clear M8) | skip); clear hal8 hb8)
          | (go_at_call 71; refine (HFY.out _ (by (repeat' (first | (with_reducible exact Below.refl _ _) | (with_reducible assumption) | (with_reducible refine Below.alloc ?_ ?_ _) | (with_reducible refine Below.setCell ?_ ?_ _) | (with_reducible refine below_row ?_ ?_ _) | (with_reducible refine Below.drew ?_) | (with_reducible refine below_drewN ?_ _) | (with_reducible refine Below.trans ?_ (Below.mono (by assumption) ?_)) | (first | exact Nat.le_refl _ | omega | (simp; done) | (simp; omega) | (exact Below.size (by assumption))))))).mono ?_; rintro e9 w9 ⟨⟨d', l', k', A8, n8, c8, A9, n9, c9, rfl⟩, hb9⟩; have hb79 : Below w7.heap.size w7 w9 := (by (repeat' (first | (with_reducible exact Below.refl _ _) | (with_reducible assumption) | (with_reducible refine Below.alloc ?_ ?_ _) | (with_reducible refine Below.setCell ?_ ?_ _) | (with_reducible refine below_row ?_ ?_ _) | (with_reducible refine Below.drew ?_) | (with_reducible refine below_drewN ?_ _) | (with_reducible refine Below.trans ?_ (Below.mono (by assumption) ?_)) | (first | exact Nat.le_refl _ | omega | (simp; done) | (simp; omega) | (exact Below.size (by assumption)))))); have hal9 := HAL.out w9 hb79; have v0 := hal9.1.cell 0; have v1 := hal9.2.cell 0; have v2 := hal9.2.cell 1; have v3 := hal9.2.cell 2; have v4 := hal9.2.cell 3; have v5 := hal9.2.cell 4; have hs9 := hb79.size; (first | (have M9 : Lies w9 w7.heap.size 45 #[.int .i64 0, .int .i64 0, .int .u8 0, .slice none 0 0, .slice none 0 0] := HM8.out.after hb9; have m9n0 := M9.cell 0; have m9n1 := M9.cell 1; have m9n2 := M9.cell 2; have m9n3 := M9.cell 3; have m9n4 := M9.cell 4; have m9f0 := M9.free 0; have m9f1 := M9.free 1; have m9f2 := M9.free 2; have m9f3 := M9.free 3; have m9f4 := M9.free 4; have zm9 := M9.lt;) | (have M9 : Lies w9 w8.heap.size 45 #[.int .i64 0, .int .i64 0, .int .u8 0, .slice none 0 0, .slice none 0 0] := (Lies.made w8 45 #[.int .i64 0, .int .i64 0, .int .u8 0, .slice none 0 0, .slice none 0 0]).after hb9; have m9n0 := M9.cell 0; have m9n1 := M9.cell 1; have m9n2 := M9.cell 2; have m9n3 := M9.cell 3; have m9n4 := M9.cell 4; have m9f0 := M9.free 0; have m9f1 := M9.free 1; have m9f2 := M9.free 2; have m9f3 := M9.free 3; have m9f4 := M9.free 4; have zm9 := M9.lt;) | skip); clear hal9 hb9))
        all_goals (rename (_ ∧ _) => HHx; clear HHx)
        all_goals clear p0 p1 p2 p3 p4 p5 v0 v1 v2 v3 v4 v5 a0 f0 f1 f2 f3 f4
        all_goals first
          | (obtain ⟨wz, hwz⟩ : ∃ W, (((((w9.setCell ⟨w7.heap.size, 0, none⟩ (.int .i64 d')).setCell ⟨w7.heap.size, 1, none⟩ (.int .i64 l')).setCell ⟨w7.heap.size, 2, none⟩ (.int .u8 k')).setCell ⟨w7.heap.size, 3, none⟩ (.slice A8 n8 c8)).setCell ⟨w7.heap.size, 4, none⟩ (.slice A9 n9 c9)) = W := ⟨_, rfl⟩; have hbz : Below w7.heap.size w7 wz := (by rw [← hwz]; exact below_five hb79 (by omega) _ _ _ _ _); rw [hwz]; clear hwz; clear m9n0 m9f0 m9n1 m9f1 m9n2 m9f2 m9n3 m9f3 m9n4 m9f4; go_wp2_with fail; go_meet; exact ⟨rfl, hbz⟩)
          | (obtain ⟨wz, hwz⟩ : ∃ W, (((((w9.setCell ⟨w8.heap.size, 0, none⟩ (.int .i64 d')).setCell ⟨w8.heap.size, 1, none⟩ (.int .i64 l')).setCell ⟨w8.heap.size, 2, none⟩ (.int .u8 k')).setCell ⟨w8.heap.size, 3, none⟩ (.slice A8 n8 c8)).setCell ⟨w8.heap.size, 4, none⟩ (.slice A9 n9 c9)) = W := ⟨_, rfl⟩; have hbz : Below w7.heap.size w7 wz := (by rw [← hwz]; exact below_five hb79 (by omega) _ _ _ _ _); rw [hwz]; clear hwz; clear m9n0 m9f0 m9n1 m9f1 m9n2 m9f2 m9n3 m9f3 m9n4 m9f4; go_wp2_with fail; go_meet; exact ⟨rfl, hbz⟩)
          | (go_wp2_with fail; go_meet; exact ⟨rfl, by (repeat' (first | (with_reducible exact Below.refl _ _) | (with_reducible assumption) | (with_reducible refine Below.alloc ?_ ?_ _) | (with_reducible refine Below.setCell ?_ ?_ _) | (with_reducible refine below_row ?_ ?_ _) | (with_reducible refine Below.drew ?_) | (with_reducible refine below_drewN ?_ _) | (with_reducible refine Below.trans ?_ (Below.mono (by assumption) ?_)) | (first | exact Nat.le_refl _ | omega | (simp; done) | (simp; omega) | (exact Below.size (by assumption)))))⟩)
      case rest =>
        obtain ⟨rfl, hbx⟩ := hcut
        obtain ⟨wx, rfl⟩ : ∃ wx : World, wx = wc := ⟨_, rfl⟩
        have hbrx : Below wr.heap.size wr wx := hb7.trans (hbx.mono hb7.size)
        have hbwx : Below w.heap.size w wx := hb.trans (hbrx.mono hz)
        have hsx := hbwx.size
        have LTx := Lib.hid (LT.out.after hbrx)
        have HOx := Lib.hid (HO.out.after hbrx)
        have HKx := Lib.hid (HK.out.after hbrx)
        have LXx := Lib.hid (LX7.out.after hbx)
        clear a0 za f0 f1 f2 f3 f4 zx HAL LX7 hbx
        by_cases hh : hasN xs y.d y.l = true
        · have HMN : Hid (rs.map (·.1) = refK xs ys (i + 1)) := Lib.hid (by rw [HST.out, if_pos hh]; exact HM.out)
          rw [hh]
          clear hh HST HM
          go_wp2_with fail
          go_roundw
          case rel => exact ⟨i + 1, AO, cO, rs, by omega, by go_num, LTx, HOx, HMN, by omega, HKx, hbwx⟩
          case measure => simp [intOf]; omega
        · have HMN : Hid (insL (rs.map (·.1)) y = refK xs ys (i + 1)) := Lib.hid (by rw [HST.out, if_neg hh, HM.out])
          rw [Bool.not_eq_true] at hh
          rw [hh]
          obtain ⟨p, hp⟩ : ∃ p, posL (rs.map (·.1)) y = p := ⟨_, rfl⟩
          have HP := Lib.hid hp
          have hpl : p ≤ rs.length := by
            have h9 := posL_le (rs.map (·.1)) y
            rw [hp, List.length_map] at h9
            exact h9
          clear hp hh HST HM
          obtain ⟨wo, rfl⟩ : ∃ wo : World, wo = wr := ⟨_, rfl⟩
          go_wp2_with fail
          go_loopw [12] (fun s12 wq => ∃ (k : Nat), k ≤ p ∧ s12 = .int .i64 k ∧ Below wx.heap.size wx wq) (fun s12 _ => p - (intOf s12).toNat)
          case atStart => exact ⟨0, by omega, rfl, Below.refl _ _⟩
          case round =>
            obtain ⟨k, hkp, rfl, hbq⟩ := hrel
            have hszq := hbq.size
            have hbwq : Below w.heap.size w wr := hbwx.trans (hbq.mono hsx)
            go_upto_region 14 with fail
            go_cut [65] (fun s65 wy => s65 = .bool (decide (k < p)) ∧ Below wr.heap.size wr wy)
            case first =>
              have hup : Nonempty (Up wr) := ⟨⟨wr, Below.refl _ _⟩⟩
              have ut : ∀ n : Up wr, n.val.cell? ⟨nT, 0, none⟩ = some (.slice AO rs.length cO) := fun n => (LTx.out.after (hbq.trans (n.ok.mono hszq))).cell 0
              have utz : ∀ n : Up wr, nT < n.val.heap.size := fun n => (LTx.out.after (hbq.trans (n.ok.mono hszq))).lt
              by_cases hkn : k < rs.length
              · obtain ⟨g, A5, n5, c5, A6, n6, c6, rfl, hcl⟩ := HOx.out.cells hkn
                have hpl2 : k < (rs.map (·.1)).length := by rw [List.length_map]; exact hkn
                have HLT := Lib.hid (pos_less HP.out hpl2 hkp)
                have ez : (rs.map (·.1))[k] = rs[k].1 := by simp
                rw [ez] at HLT
                have HCLL := Lib.hid (fun W (hW : Below wx.heap.size wx W) => hcl W hW)
                clear hcl ez
                obtain ⟨z, hzz⟩ : ∃ z, rs[k].1 = z := ⟨_, rfl⟩
                rw [hzz] at HLT HCLL
                clear hzz
                have HNZ := Lib.hid (fun W => rRefOf_any z.d z.l z.k (.slice A5 n5 c5) (.slice A6 n6 c6) W)
                have HLS := Lib.hid (fun W => rLess_any z.d z.l y.d y.l W)
                rw [HLT.out] at HLS
                generalize decide (k < p) = r at *
                have kn : (k : Int) < (rs.length : Int) := by omega
                have uz0 : ∀ n : Up wr, n.val.cell? ⟨g, k * 5, none⟩ = some (.int .i64 z.d) := fun n => (HCLL.out _ (hbq.trans (n.ok.mono hszq))).1
                have uz1 : ∀ n : Up wr, n.val.cell? ⟨g, k * 5 + 1, none⟩ = some (.int .i64 z.l) := fun n => (HCLL.out _ (hbq.trans (n.ok.mono hszq))).2.1
                have uz2 : ∀ n : Up wr, n.val.cell? ⟨g, k * 5 + 2, none⟩ = some (.int .u8 z.k) := fun n => (HCLL.out _ (hbq.trans (n.ok.mono hszq))).2.2.1
                have uz3 : ∀ n : Up wr, n.val.cell? ⟨g, k * 5 + 3, none⟩ = some (.slice A5 n5 c5) := fun n => (HCLL.out _ (hbq.trans (n.ok.mono hszq))).2.2.2.1
                have uz4 : ∀ n : Up wr, n.val.cell? ⟨g, k * 5 + 4, none⟩ = some (.slice A6 n6 c6) := fun n => (HCLL.out _ (hbq.trans (n.ok.mono hszq))).2.2.2.2
                have ux0 : ∀ n : Up wr, n.val.cell? ⟨nX, 0, none⟩ = some (.int .i64 y.d) := fun n => (LXx.out.after (hbq.trans (n.ok.mono hszq))).cell 0
                have ux1 : ∀ n : Up wr, n.val.cell? ⟨nX, 1, none⟩ = some (.int .i64 y.l) := fun n => (LXx.out.after (hbq.trans (n.ok.mono hszq))).cell 1
                have ux2 : ∀ n : Up wr, n.val.cell? ⟨nX, 2, none⟩ = some (.int .u8 y.k) := fun n => (LXx.out.after (hbq.trans (n.ok.mono hszq))).cell 2
                have ux3 : ∀ n : Up wr, n.val.cell? ⟨nX, 3, none⟩ = some (.slice B1 m1 g1) := fun n => (LXx.out.after (hbq.trans (n.ok.mono hszq))).cell 3
                have ux4 : ∀ n : Up wr, n.val.cell? ⟨nX, 4, none⟩ = some (.slice B2 m2 g2) := fun n => (LXx.out.after (hbq.trans (n.ok.mono hszq))).cell 4
                refine wp_region_up (by kernel_rfl) (by kernel_rfl) ?_
                repeat (first | go_big_quiet_skip | (go_big_quiet_want; go_big_quiet_op; first | go_big_quiet_on | go_big_quiet_call (first | (go_at_call 56; first | exact Up.call (HNZ.out _) | exact Up.call (HRF.out _)) | (go_at_call 99; exact Up.call (HLS.out _)))))
                refine wpQuiet_nil ?_
                rintro w8 ⟨n8, hn8⟩
                have hb8 := n8.ok
                rw [← hn8] at hb8
                clear hn8 n8
                go_wp2_with fail
                go_meet
                exact ⟨rfl, hb8⟩
              · have kn : ¬ (k : Int) < (rs.length : Int) := by omega
                have HKF : Hid (decide (k < p) = false) := Lib.hid (decide_eq_false (by omega))
                refine wp_region_up (by kernel_rfl) (by kernel_rfl) ?_
                repeat (first | go_big_quiet_skip | (go_big_quiet_want; go_big_quiet_op; first | go_big_quiet_on))
                refine wpQuiet_nil ?_
                rintro w8 ⟨n8, hn8⟩
                have hb8 := n8.ok
                rw [← hn8] at hb8
                clear hn8 n8
                go_wp2_with fail
                go_meet
                exact ⟨by rw [HKF.out], hb8⟩
            case rest =>
              obtain ⟨rfl, hby⟩ := hcut
              obtain ⟨wy, rfl⟩ : ∃ wy : World, wy = wc := ⟨_, rfl⟩
              have hbxy : Below wx.heap.size wx wy := hbq.trans (hby.mono hszq)
              by_cases hkl : k < p
              · rw [decide_eq_true hkl]
                go_wp2_with fail
                go_roundw
                case rel => exact ⟨k + 1, by omega, by go_num, hbxy⟩
                case measure => simp [intOf]; omega
              · obtain rfl : k = p := by omega
                rw [decide_eq_false (show ¬ k < k by omega)]
                have hbwy : Below w.heap.size w wy := hbwx.trans (hbxy.mono hsx)
                have hsy := hbwy.size
                have LTy := Lib.hid (LTx.out.after hbxy)
                have HOy := Lib.hid (HOx.out.after hbxy)
                have HKy := Lib.hid (HKx.out.after hbxy)
                have LXy := Lib.hid (LXx.out.after hbxy)
                have HCAP := HOx.out.cap _ _ _ rfl
                obtain ⟨AR, hAR⟩ : ∃ AR, (if cO = k then AO else AO.map (·.add (k * 5))) = AR := ⟨_, rfl⟩
                have HDR := drop_any (A := AO) (c := cO) hpl
                obtain ⟨hNN, hNW⟩ := rest_news HOy.out hpl
                rw [hAR] at HDR hNN hNW
                have HNN := Lib.hid hNN
                have HNW := Lib.hid hNW
                have HNL : Hid ((cellsT (rs.drop k)).length = (rs.length - k) * 5) := Lib.hid (by rw [cellsT_len, List.length_drop])
                have HONE := Lib.hid (cellsT_one (rs.drop k) (fun r hr => (HOy.out.2 r (List.mem_of_mem_drop hr)).slices))
                have HBLK := Lib.hid (fun r hr => ((own_take HOy.out.1 hpl).lt r hr).2)
                obtain ⟨m, hm⟩ : ∃ m, rs.length - k = m := ⟨_, rfl⟩
                rw [hm] at HDR HNN HNL
                have hmk : k + m ≤ rs.length ∧ rs.length ≤ k + m := by omega
                clear hAR hNN hNW hm LTx HOx HKx LXx hbxy hbq hkl hby
                have t0 := LTy.out.cell 0
                have zt := LTy.out.lt
                have kk : (k : Int) ≤ (rs.length : Int) := by omega
                generalize hcd : cellsT (rs.drop k) = CD at *
                have HCD := Lib.hid hcd
                clear hcd
                go_wp2_with (at_builtin; refine wpList_row2 rfl _ _ 22 rfl wy.heap.size 45 q0 zIss 5 72 Try.underlying22 hq0 hz0 hz1 hz2 rfl (by decide) _ 0 [] rfl (own_emptyX wy wy.heap.size wy.heap.size rfl (Nat.le_refl _)) AR m (cO - k) CD rfl HNN.out HNL.out (fun ad e => HNW.out ad e _ (by (repeat' (first | (with_reducible exact Below.refl _ _) | (with_reducible assumption) | (with_reducible refine Below.alloc ?_ ?_ _) | (with_reducible refine Below.setCell ?_ ?_ _) | (with_reducible refine below_row ?_ ?_ _) | (with_reducible refine Below.drew ?_) | (with_reducible refine below_drewN ?_ _) | (with_reducible refine Below.trans ?_ (Below.mono (by assumption) ?_)) | (first | exact Nat.le_refl _ | omega | (simp; done) | (simp; omega) | (exact Below.size (by assumption))))))) HONE.out (by unfold maxLen; omega) (by omega) (by simp) ?_; intro v16 w16 ho16 hap16 hbl16 _; have HB16 : Hid (Below wy.heap.size wy w16) := Lib.hid (hbl16 wy (by (repeat' (first | (with_reducible exact Below.refl _ _) | (with_reducible assumption) | (with_reducible refine Below.alloc ?_ ?_ _) | (with_reducible refine Below.setCell ?_ ?_ _) | (with_reducible refine below_row ?_ ?_ _) | (with_reducible refine Below.drew ?_) | (with_reducible refine below_drewN ?_ _) | (with_reducible refine Below.trans ?_ (Below.mono (by assumption) ?_)) | (first | exact Nat.le_refl _ | omega | (simp; done) | (simp; omega) | (exact Below.size (by assumption)))))) (Nat.le_refl _)); rw [Nat.zero_add, List.nil_append] at ho16; have HRST := Lib.hid ho16; obtain ⟨A16, c16, g16, rfl, -⟩ := own_form ho16; clear ho16 hap16 hbl16)
                have hb16 := HB16.out
                have hs16 := hb16.size
                have hbw16 : Below w.heap.size w w16 := hbwy.trans (hb16.mono hsy)
                have HK16 := Lib.hid (((HKy.out.after hb16).put (by decide) (LTy.out.after hb16) (fun r hr => (HOy.out.2 r hr).after hb16)))
                have HW16 := Lib.hid (own_after HOy.out.1 hb16)
                have LX16 := Lib.hid (LXy.out.after hb16)
                clear t0 zt HKy HOy LTy LXy HDR HB16
                have HUP := upto_any (A := AO) (n := rs.length) (c := cO) (k := k) (by omega) (fun a _ => add_zero5 a)
                have t0 := HK16.out.pull.1.cell 0
                have ft := HK16.out.pull.1.free 0
                have zt := HK16.out.pull.1.lt
                have f0 := LX16.out.cell 0
                have f1 := LX16.out.cell 1
                have f2 := LX16.out.cell 2
                have f3 := LX16.out.cell 3
                have f4 := LX16.out.cell 4
                have zx := LX16.out.lt
                have hkc : (k : Int) ≤ (cO : Int) := by omega
                go_upto_region 17 with fail
                go_region_law (first
                  | (go_simp; go_at_call 64; refine (HTI2.out _ (by (repeat' (first | (with_reducible exact Below.refl _ _) | (with_reducible assumption) | (with_reducible refine Below.alloc ?_ ?_ _) | (with_reducible refine Below.setCell ?_ ?_ _) | (with_reducible refine below_row ?_ ?_ _) | (with_reducible refine Below.drew ?_) | (with_reducible refine below_drewN ?_ _) | (with_reducible refine Below.trans ?_ (Below.mono (by assumption) ?_)) | (first | exact Nat.le_refl _ | omega | (simp; done) | (simp; omega) | (exact Below.size (by assumption))))))).mono ?_; rintro e17 w17 ⟨v17, rfl, hown, hb17⟩; obtain ⟨vi', vd', rfl, hk17, ho1, ho2⟩ := hown; have hb167 : Below w16.heap.size w16 w17 := (by (repeat' (first | (with_reducible exact Below.refl _ _) | (with_reducible assumption) | (with_reducible refine Below.alloc ?_ ?_ _) | (with_reducible refine Below.setCell ?_ ?_ _) | (with_reducible refine below_row ?_ ?_ _) | (with_reducible refine Below.drew ?_) | (with_reducible refine below_drewN ?_ _) | (with_reducible refine Below.trans ?_ (Below.mono (by assumption) ?_)) | (first | exact Nat.le_refl _ | omega | (simp; done) | (simp; omega) | (exact Below.size (by assumption)))))); have hbw17 : Below w.heap.size w w17 := hbw16.trans (hb167.mono hbw16.size); have HT17 : Hid (OwnT w17 w.heap.size (y, vi', vd')) := Lib.hid ⟨hk17, own_less ho1 (by first | exact hbw16.size | (simp; exact hbw16.size) | omega), own_less ho2 (by first | exact hbw16.size | (simp; exact hbw16.size) | omega)⟩; obtain ⟨A3', c3', g3', rfl, -⟩ := own_form ho1; obtain ⟨A4', c4', g4', rfl, -⟩ := own_form ho2; have HK17 := Lib.hid (HK16.out.after hb167); have HW17 := Lib.hid (own_after HW16.out hb167); have HRST17 := Lib.hid (own_after HRST.out hb167); have t17 := HK17.out.pull.1.cell 0; have ft17 := HK17.out.pull.1.free 0; have zt17 := HK17.out.pull.1.lt; have hs17 := hbw17.size; clear ho1 ho2 hb17 hk17)
                  | (refine step_row2 (o := ⟨some 81, _, _, _, _, _⟩) (by rfl) (.tmp 77) (.tmp 80) 22 (by rfl) w.heap.size 45 q0 zIss 5 72 Try.underlying22 hq0 hz0 hz1 hz2 rfl (by decide) (.slice AO k cO) k ((cellsT rs).take (k * 5)) (by rfl) ?_ (some ⟨_, 0, none⟩) 1 1 [.int .i64 y.d, .int .i64 y.l, .int .u8 y.k, .slice A3' y.items.length c3', .slice A4' y.dims.length c4'] (by rfl) (fun h => by cases h) (by rfl) ?_ (by simp [Value.oneCell']) (by unfold maxLen; omega) (by omega) (by first | omega | (simp; omega)) ?_; (focus (first | exact own_take (World.ownsRow.alloc HW17.out _) hpl | exact own_take (World.ownsRow.drew (World.ownsRow.alloc HW17.out _)) hpl)); (focus (intro ad had; injection had with had; subst had; first | exact World.news_of_block (Lies.made _ _ _) | exact World.news_of_block (Lies.made _ _ _).drew)); intro v18 w18 ho18 hap18 hbl18 hgr18; have hbw18 : Below w.heap.size w w18 := hbl18 w (by (repeat' (first | (with_reducible exact Below.refl _ _) | (with_reducible assumption) | (with_reducible refine Below.alloc ?_ ?_ _) | (with_reducible refine Below.setCell ?_ ?_ _) | (with_reducible refine below_row ?_ ?_ _) | (with_reducible refine Below.drew ?_) | (with_reducible refine below_drewN ?_ _) | (with_reducible refine Below.trans ?_ (Below.mono (by assumption) ?_)) | (first | exact Nat.le_refl _ | omega | (simp; done) | (simp; omega) | (exact Below.size (by assumption)))))) (Nat.le_refl _); have HK18 := Lib.hid ((HK17.out.after ((Below.refl _ w17).alloc (Nat.le_refl _) _)).apart hap18); have HT18 := Lib.hid ((HT17.out.after ((Below.refl _ w17).alloc (Nat.le_refl _) _)).apart hap18); have HRST18 := Lib.hid (own_apart_lt (World.ownsRow.alloc HRST17.out _) hgr18 HBLK.out); have HO18 := Lib.hid ho18; obtain ⟨A18, c18, g18, rfl, -⟩ := own_form ho18; have t18 := HK18.out.pull.1.cell 0; have ft18 := HK18.out.pull.1.free 0; have zt18 := HK18.out.pull.1.lt; have hs18 := hbw18.size; clear ho18 hap18 hbl18 hgr18)
                  | (refine step_row2 (o := ⟨some 83, _, _, _, _, _⟩) (by rfl) (.tmp 81) (.tmp 82) 22 (by rfl) w.heap.size 45 q0 zIss 5 72 Try.underlying22 hq0 hz0 hz1 hz2 rfl (by decide) (.slice A18 (k + 1) c18) (k + 1) ((cellsT rs).take (k * 5) ++ [.int .i64 y.d, .int .i64 y.l, .int .u8 y.k, .slice A3' y.items.length c3', .slice A4' y.dims.length c4']) (by rfl) ?_ A16 m c16 CD (by rfl) (own_newsX HRST18.out).1 HNL.out ?_ HONE.out (by unfold maxLen; omega) (by omega) (by first | omega | (simp; omega)) ?_; (focus (first | exact HO18.out | exact World.ownsRow.drew HO18.out)); (focus (intro ad had j u hu; first | exact (own_newsX HRST18.out).2 ad had _ (Below.refl _ _) j u hu | exact (own_newsX HRST18.out).2 ad had _ (Below.refl _ _).drew j u hu)); intro v19 w19 ho19 hap19 hbl19 hgr19; have hbw19 : Below w.heap.size w w19 := hbl19 w (by (repeat' (first | (with_reducible exact Below.refl _ _) | (with_reducible assumption) | (with_reducible refine Below.alloc ?_ ?_ _) | (with_reducible refine Below.setCell ?_ ?_ _) | (with_reducible refine below_row ?_ ?_ _) | (with_reducible refine Below.drew ?_) | (with_reducible refine below_drewN ?_ _) | (with_reducible refine Below.trans ?_ (Below.mono (by assumption) ?_)) | (first | exact Nat.le_refl _ | omega | (simp; done) | (simp; omega) | (exact Below.size (by assumption)))))) (Nat.le_refl _); have HK19 := Lib.hid (HK18.out.apart hap19); have HT19 := Lib.hid (HT18.out.apart hap19); have HO19 := Lib.hid ho19; obtain ⟨A19, c19, g19, rfl, -⟩ := own_form ho19; have t19 := HK19.out.pull.1.cell 0; have ft19 := HK19.out.pull.1.free 0; have zt19 := HK19.out.pull.1.lt; have hs19 := hbw19.size; clear ho19 hap19 hbl19 hgr19))
                all_goals
                  have hz9 : rs.length - k = m := by omega
                  have HRP := Lib.hid (reg_put (r := (y, Value.slice A3' y.items.length c3', Value.slice A4' y.dims.length c4')) (v := .slice A19 (k + 1 + m) c19) hpl (by rw [HCD.out, hz9]; exact HO19.out) HK19.out.pull.2.2 HT19.out)
                  clear hz9
                  have hrl2 : (rs.take k ++ [(y, Value.slice A3' y.items.length c3', Value.slice A4' y.dims.length c4')] ++ rs.drop k).length = k + 1 + m := by simp; omega
                  have HRL := Lib.hid hrl2
                  have HMP : Hid ((rs.take k ++ [(y, Value.slice A3' y.items.length c3', Value.slice A4' y.dims.length c4')] ++ rs.drop k).map (·.1) = refK xs ys (i + 1)) := Lib.hid ((insL_map HP.out).trans HMN.out)
                  clear hrl2 HP HMN HO19 HT19
                  generalize rs.take k ++ [(y, Value.slice A3' y.items.length c3', Value.slice A4' y.dims.length c4')] ++ rs.drop k = rs2 at *
                  go_wp2_with fail
                  go_roundw
                  case rel => exact ⟨i + 1, A19, c19, rs2, by omega, by go_num, Lib.hid (by rw [HRL.out]; exact HK19.out.pull.1.store 0 _), Lib.hid (by rw [HRL.out]; exact HRP.out.set HK19.out.pull.1 (by decide) (by decide) (by decide) 0 _), HMP, (by rw [HRL.out]; omega), Lib.hid (HK19.out.pull.2.1.set3 hTi 0 _), by (repeat' (first | (with_reducible exact Below.refl _ _) | (with_reducible assumption) | (with_reducible refine Below.alloc ?_ ?_ _) | (with_reducible refine Below.setCell ?_ ?_ _) | (with_reducible refine below_row ?_ ?_ _) | (with_reducible refine Below.drew ?_) | (with_reducible refine below_drewN ?_ _) | (with_reducible refine Below.trans ?_ (Below.mono (by assumption) ?_)) | (first | exact Nat.le_refl _ | omega | (simp; done) | (simp; omega) | (exact Below.size (by assumption)))))⟩
                  case measure => simp [intOf]; omega
    · obtain rfl : i = ys.length := by omega
      have kl0 : ¬ (ys.length : Int) < (ys.length : Int) := by omega
      have HMJ : Hid (rs.map (·.1) = joinL xs ys) := Lib.hid (by rw [HM.out, HRJ.out])
      have HCK := Lib.hid (fun W (hW : Below wr.heap.size wr W) => rCheck_any (xs := rs.map (·.1)) ((HO.out.after hW).reg (by omega) (by rw [HMJ.out]; exact HSM.out)))
      rw [HMJ.out] at HCK
      have HLC := Lib.hid hLC
      clear hk hLA hLB hLC HM HTI HFI HSM HRJ
      go_wp2_with fail
      refine (HCK.out _ (by (repeat' (first | (with_reducible exact Below.refl _ _) | (with_reducible assumption) | (with_reducible refine Below.alloc ?_ ?_ _) | (with_reducible refine Below.setCell ?_ ?_ _) | (with_reducible refine below_row ?_ ?_ _) | (with_reducible refine Below.drew ?_) | (with_reducible refine below_drewN ?_ _) | (with_reducible refine Below.trans ?_ (Below.mono (by assumption) ?_)) | (first | exact Nat.le_refl _ | omega | (simp; done) | (simp; omega) | (exact Below.size (by assumption))))))).mono ?_
      rintro e20 w20 ⟨rfl, hb20⟩
      have hbr20 : Below wr.heap.size wr w20 := by (repeat' (first | (with_reducible exact Below.refl _ _) | (with_reducible assumption) | (with_reducible refine Below.alloc ?_ ?_ _) | (with_reducible refine Below.setCell ?_ ?_ _) | (with_reducible refine below_row ?_ ?_ _) | (with_reducible refine Below.drew ?_) | (with_reducible refine below_drewN ?_ _) | (with_reducible refine Below.trans ?_ (Below.mono (by assumption) ?_)) | (first | exact Nat.le_refl _ | omega | (simp; done) | (simp; omega) | (exact Below.size (by assumption)))))
      have hbw20 : Below w.heap.size w w20 := hb.trans (hbr20.mono hz)
      have LT20 := Lib.hid (LT.out.after hbr20)
      have LC20 := Lib.hid (HLC.out.after hbr20)
      have HO20 := Lib.hid (HO.out.after hbr20)
      clear a0 b0 za zb t0 zt hb20 HLC LT HO HCK
      have t0 := LT20.out.cell 0
      have zt := LT20.out.lt
      have r0 := LC20.out.cell 0
      have fr := LC20.out.free 0
      have zr := LC20.out.lt
      by_cases h3 : layE (joinL xs ys) = 0
      · have HF := Lib.hid (HO20.out.set LC20.out (by decide) (by decide) (by decide) 0 (.slice AO rs.length cO))
        have HMM : Hid (MM = (joinL xs ys, (0 : Int))) := Lib.hid (by rw [HME.out, if_neg (by simpa using h3)])
        rw [h3]
        clear HME
        go_wp2_with fail
        obtain rfl := HMM.out
        exact bodyPost_ret (results_cell_tmp rfl _ _ (w.heap.size + 1 + 1) _ _ _ _ rfl rfl (LC20.out.store 0 _) Try.underlying24 rfl (by kernel_rfl)) rfl ⟨_, rs, rfl, HF.out, HMJ.out, by (repeat' (first | (with_reducible exact Below.refl _ _) | (with_reducible assumption) | (with_reducible refine Below.alloc ?_ ?_ _) | (with_reducible refine Below.setCell ?_ ?_ _) | (with_reducible refine below_row ?_ ?_ _) | (with_reducible refine Below.drew ?_) | (with_reducible refine below_drewN ?_ _) | (with_reducible refine Below.trans ?_ (Below.mono (by assumption) ?_)) | (first | exact Nat.le_refl _ | omega | (simp; done) | (simp; omega) | (exact Below.size (by assumption)))))⟩
      · have HMM : Hid (MM = (([], layE (joinL xs ys)) : List Iss × Int)) := Lib.hid (by rw [HME.out, if_pos h3])
        have hne : (layE (joinL xs ys) != 0) = true := by simpa using h3
        clear HME HMJ h3
        generalize layE (joinL xs ys) = ej at *
        go_wp2_with fail
        obtain rfl := HMM.out
        exact bodyPost_ret (results_cell_tmp rfl _ _ (w.heap.size + 1 + 1) _ _ _ _ rfl rfl (LC20.out.store 0 (.slice none 0 0)) Try.underlying24 rfl (by kernel_rfl)) rfl (mergeP_none (by (repeat' (first | (with_reducible exact Below.refl _ _) | (with_reducible assumption) | (with_reducible refine Below.alloc ?_ ?_ _) | (with_reducible refine Below.setCell ?_ ?_ _) | (with_reducible refine below_row ?_ ?_ _) | (with_reducible refine Below.drew ?_) | (with_reducible refine below_drewN ?_ _) | (with_reducible refine Below.trans ?_ (Below.mono (by assumption) ?_)) | (first | exact Nat.le_refl _ | omega | (simp; done) | (simp; omega) | (exact Below.size (by assumption)))))))
end Go.Proofs.Ytdhandkddbgadaa
