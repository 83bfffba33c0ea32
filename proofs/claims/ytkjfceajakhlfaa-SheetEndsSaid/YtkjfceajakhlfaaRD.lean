/- alive: the examples that each outright law asks first. -/
import Derived.Test.YtkjfceajakhlfaaRX
import Derived.Test.YtkjfceajakhlfaaUS
namespace Go.Proofs.Ytkjfceajakhlfaa
set_option linter.unusedVariables false
set_option linter.unusedSimpArgs false
open Go.RowKit

theorem branches_lies {W : World} {a : Nat} (h : Lies W a 103 #[.int .i64 0, .int .i64 10, .int .i64 1, .int .i64 1, .int .i64 1, .int .i64 20, .int .i64 1, .int .i64 2, .int .i64 2, .int .i64 30, .int .i64 2, .int .i64 3, .int .i64 2, .int .i64 50, .int .i64 1, .int .i64 1, .int .i64 1, .int .i64 30, .int .i64 2, .int .i64 1]) : BranchesAt W (.slice (some ⟨a, 0, none⟩) 5 5) [(0, 10, 1, 1), (1, 20, 1, 2), (2, 30, 2, 3), (2, 50, 1, 1), (1, 30, 2, 1)] := by
  refine ⟨_, _, a, 0, rfl, fun _ => rfl, fun i hi => ?_⟩
  have hi2 : i < 5 := hi
  have hi3 : i = 0 ∨ i = 1 ∨ i = 2 ∨ i = 3 ∨ i = 4 := by omega
  rcases hi3 with rfl | rfl | rfl | rfl | rfl
  · exact ⟨h.cell 0, h.cell 1, h.cell 2, h.cell 3⟩
  · exact ⟨h.cell 4, h.cell 5, h.cell 6, h.cell 7⟩
  · exact ⟨h.cell 8, h.cell 9, h.cell 10, h.cell 11⟩
  · exact ⟨h.cell 12, h.cell 13, h.cell 14, h.cell 15⟩
  · exact ⟨h.cell 16, h.cell 17, h.cell 18, h.cell 19⟩
theorem refs_lies {W : World} {a : Nat} (h : Lies W a 26 #[.int .i64 10, .int .i64 1, .int .i64 10, .int .i64 2, .int .i64 20, .int .i64 1]) : RefsAt W (.slice (some ⟨a, 0, none⟩) 3 3) [(10, 1), (10, 2), (20, 1)] := by
  refine ⟨_, _, a, 0, rfl, fun _ => rfl, fun i hi => ?_⟩
  have hi2 : i < 3 := hi
  have hi3 : i = 0 ∨ i = 1 ∨ i = 2 := by omega
  rcases hi3 with rfl | rfl | rfl
  · exact ⟨h.cell 0, h.cell 1⟩
  · exact ⟨h.cell 2, h.cell 3⟩
  · exact ⟨h.cell 4, h.cell 5⟩
theorem changes_lies {W : World} {a : Nat} (h : Lies W a 110 #[.int .i64 20, .int .i64 2, .int .i64 1, .int .i64 30, .int .i64 1, .int .i64 2, .int .i64 40, .int .i64 0, .int .i64 2]) : ChangesAt W (.slice (some ⟨a, 0, none⟩) 3 3) [(20, 2, 1), (30, 1, 2), (40, 0, 2)] := by
  refine ⟨_, _, a, 0, rfl, fun _ => rfl, fun i hi => ?_⟩
  have hi2 : i < 3 := hi
  have hi3 : i = 0 ∨ i = 1 ∨ i = 2 := by omega
  rcases hi3 with rfl | rfl | rfl
  · exact ⟨h.cell 0, h.cell 1, h.cell 2⟩
  · exact ⟨h.cell 3, h.cell 4, h.cell 5⟩
  · exact ⟨h.cell 6, h.cell 7, h.cell 8⟩
theorem rSameRefs_t {P : List (Int × Int)} {u v : Value} {w : World} (h1 : RefsAt w u P) (h2 : RefsAt w v P) (hl : P.length ≤ 1000) : Calls Try.prog 42 #[u, v] w fun e w' => e = .returned (.bool true) ∧ Below w.heap.size w w' := by
  have := rSameRefs_v h1 h2 hl hl
  rw [decide_eq_true rfl] at this
  exact this
theorem rSame_x {w : World} {vI vJ : Value} {xs : List Iss} (h : RegAt w vI xs) (h2 : RegAt w vJ xs) : Calls Try.prog 31 #[.agg #[vI], .agg #[vJ]] w fun e w' => e = .returned (.bool true) ∧ Below w.heap.size w w' := by
  have := rSame_v h h2
  rw [decide_eq_true rfl] at this
  exact this
theorem field_reg (v : Value) (W : World) : (Instr.field 24 (.agg #[v]) 0).run Try.prog W = .ok v W := by kernel_rfl
theorem ex_four {W : World} {A : Option Addr} {c : Nat} (h : RegAt W (.slice A exR.length c) exR) : ∃ (b off : Nat) (E1 : Option Addr) (e1 : Nat) (E2 : Option Addr) (e2 : Nat), A = some ⟨b, off, none⟩ ∧ (W.cell? ⟨b, off + 20, none⟩ = some (.int .i64 30) ∧ W.cell? ⟨b, off + 21, none⟩ = some (.int .i64 2) ∧ W.cell? ⟨b, off + 22, none⟩ = some (.int .u8 2) ∧ W.cell? ⟨b, off + 23, none⟩ = some (.slice E1 0 e1) ∧ W.cell? ⟨b, off + 24, none⟩ = some (.slice E2 1 e2)) ∧ ItemsAt W (.slice E1 0 e1) [] ∧ DimsAt W (.slice E2 1 e2) [(150, 120, 200)] := by
  obtain ⟨A', c', b, off, e, hA, hc⟩ := h.at_
  injection e with e1 e2 e3
  subst e1 e3
  obtain ⟨vi, vd, h0, h1, h2, h3, h4, -, h5, h6, -, -⟩ := hc 4 (by decide)
  have h5' : ItemsAt W vi [] := h5
  have h6' : DimsAt W vd [(150, 120, 200)] := h6
  obtain ⟨E1, f1, g1, o1, rfl, q1, q2⟩ := h5'
  obtain ⟨E2, f2, g2, o2, rfl, q3, q4⟩ := h6'
  exact ⟨b, off, E1, f1, E2, f2, hA (by decide), ⟨h0, h1, h2, h3, h4⟩, ⟨E1, f1, g1, o1, rfl, q1, q2⟩, ⟨E2, f2, g2, o2, rfl, q3, q4⟩⟩
set_option maxRecDepth 100000 in
set_option maxHeartbeats 16000000 in
theorem alive_any (w : World) : Calls Try.prog 50 #[] w fun e w' => e = .returned (.bool true) ∧ Below w.heap.size w w' := by
  have hb0 : Below w.heap.size w w := Below.refl _ _
  obtain ⟨w0, hw0⟩ : ∃ W, W = w := ⟨_, rfl⟩
  go_enter Try.func50, Try.ntmps50
  go_wp2_with fail
  refine (register_any _).mono ?_
  rintro e1 w1 ⟨AG1, cG1, rfl, hr, hcc1, hb⟩
  have hq1 : Below w.heap.size w w1 := by exact BeL
  have HG_1 := Lib.hid hr
  have hb1 : Below w.heap.size w w1 := hb0.trans (hq1.mono hb0.size)
  clear hr hb hq1
  go_wp2_with fail
  refine (exDraw HG_1.out).mono ?_
  rintro e2 w2 ⟨A1, c1, rfl, hi, hb⟩
  have hq2 : Below w1.heap.size w1 w2 := by exact BeL
  have HG_2 := Lib.hid (HG_1.out.after hq2)
  clear HG_1
  have HD_2 := Lib.hid hi
  have hb2 : Below w.heap.size w w2 := hb1.trans (hq2.mono hb1.size)
  clear hi hb hq2
  clear HG_2
  go_wp2_with fail
  refine (register_any _).mono ?_
  rintro e3 w3 ⟨AG3, cG3, rfl, hr, hcc3, hb⟩
  have hq3 : Below w2.heap.size w2 w3 := by exact BeL
  have HD_3 := Lib.hid (HD_2.out.after hq3)
  clear HD_2
  have HG_3 := Lib.hid hr
  have hb3 : Below w.heap.size w w3 := hb2.trans (hq3.mono hb2.size)
  clear hr hb hq3
  go_wp2_with fail
  refine (first_any _).mono ?_
  rintro e4 w4 ⟨AF, cF, rfl, hi, hb⟩
  have hq4 : Below w3.heap.size w3 w4 := by exact BeL
  have HD_4 := Lib.hid (HD_3.out.after hq4)
  clear HD_3
  have HG_4 := Lib.hid (HG_3.out.after hq4)
  clear HG_3
  have HF_4 := Lib.hid hi
  have hb4 : Below w.heap.size w w4 := hb3.trans (hq4.mono hb3.size)
  clear hi hb hq4
  go_wp2_with fail
  refine (exExplode HG_4.out HF_4.out).mono ?_
  rintro e5 w5 ⟨A2, c2, rfl, hi, hb⟩
  have hq5 : Below w4.heap.size w4 w5 := by exact BeL
  have HD_5 := Lib.hid (HD_4.out.after hq5)
  clear HD_4
  have HG_5 := Lib.hid (HG_4.out.after hq5)
  clear HG_4
  have HF_5 := Lib.hid (HF_4.out.after hq5)
  clear HF_4
  have HE_5 := Lib.hid hi
  have hb5 : Below w.heap.size w w5 := hb4.trans (hq5.mono hb4.size)
  clear hi hb hq5
  clear HG_5
  clear HF_5
  go_wp2_with fail
  refine (register_any _).mono ?_
  rintro e6 w6 ⟨AG6, cG6, rfl, hr, hcc6, hb⟩
  have hq6 : Below w5.heap.size w5 w6 := by exact BeL
  have HD_6 := Lib.hid (HD_5.out.after hq6)
  clear HD_5
  have HE_6 := Lib.hid (HE_5.out.after hq6)
  clear HE_5
  have HG_6 := Lib.hid hr
  have hb6 : Below w.heap.size w w6 := hb5.trans (hq6.mono hb5.size)
  clear hr hb hq6
  go_wp2_with fail
  refine (exTree (HG_6.out.after ((Below.refl _ w6).alloc (Nat.le_refl _) _)) (ints_lies (c := 5) (l := [1, 1, 2, 1, 1]) (Lies.made w6 3 #[.int .i64 1, .int .i64 1, .int .i64 2, .int .i64 1, .int .i64 1]) rfl)).mono ?_
  rintro e7 w7 ⟨A3, c3, rfl, hi, hb⟩
  have hq7 : Below w6.heap.size w6 w7 := by exact BeL
  have HD_7 := Lib.hid (HD_6.out.after hq7)
  clear HD_6
  have HE_7 := Lib.hid (HE_6.out.after hq7)
  clear HE_6
  have HG_7 := Lib.hid (HG_6.out.after hq7)
  clear HG_6
  have HT_7 := Lib.hid hi
  have hb7 : Below w.heap.size w w7 := hb6.trans (hq7.mono hb6.size)
  clear hi hb hq7
  clear HG_7
  go_wp2_with fail
  refine (register_any _).mono ?_
  rintro e8 w8 ⟨AG8, cG8, rfl, hr, hcc8, hb⟩
  have hq8 : Below w7.heap.size w7 w8 := by exact BeL
  have HD_8 := Lib.hid (HD_7.out.after hq8)
  clear HD_7
  have HE_8 := Lib.hid (HE_7.out.after hq8)
  clear HE_7
  have HT_8 := Lib.hid (HT_7.out.after hq8)
  clear HT_7
  have HG_8 := Lib.hid hr
  have hb8 : Below w.heap.size w w8 := hb7.trans (hq8.mono hb7.size)
  clear hr hb hq8
  go_wp2_with fail
  refine (exUses HG_8.out).mono ?_
  rintro e9 w9 ⟨A4, c4, rfl, hi, hb⟩
  have hq9 : Below w8.heap.size w8 w9 := by exact BeL
  have HD_9 := Lib.hid (HD_8.out.after hq9)
  clear HD_8
  have HE_9 := Lib.hid (HE_8.out.after hq9)
  clear HE_8
  have HT_9 := Lib.hid (HT_8.out.after hq9)
  clear HT_8
  have HG_9 := Lib.hid (HG_8.out.after hq9)
  clear HG_8
  have HU_9 := Lib.hid hi
  have hb9 : Below w.heap.size w w9 := hb8.trans (hq9.mono hb8.size)
  clear hi hb hq9
  clear HG_9
  go_wp2_with fail
  refine (register_any _).mono ?_
  rintro e10 w10 ⟨AG10, cG10, rfl, hr, hcc10, hb⟩
  have hq10 : Below w9.heap.size w9 w10 := by exact BeL
  have HD_10 := Lib.hid (HD_9.out.after hq10)
  clear HD_9
  have HE_10 := Lib.hid (HE_9.out.after hq10)
  clear HE_9
  have HT_10 := Lib.hid (HT_9.out.after hq10)
  clear HT_9
  have HU_10 := Lib.hid (HU_9.out.after hq10)
  clear HU_9
  have HG_10 := Lib.hid hr
  have hb10 : Below w.heap.size w w10 := hb9.trans (hq10.mono hb9.size)
  clear hr hb hq10
  go_wp2_with fail
  refine (second_any _).mono ?_
  rintro e11 w11 ⟨AS, cS, rfl, hi, hb⟩
  have hq11 : Below w10.heap.size w10 w11 := by exact BeL
  have HD_11 := Lib.hid (HD_10.out.after hq11)
  clear HD_10
  have HE_11 := Lib.hid (HE_10.out.after hq11)
  clear HE_10
  have HT_11 := Lib.hid (HT_10.out.after hq11)
  clear HT_10
  have HU_11 := Lib.hid (HU_10.out.after hq11)
  clear HU_10
  have HG_11 := Lib.hid (HG_10.out.after hq11)
  clear HG_10
  have HF_11 := Lib.hid hi
  have hb11 : Below w.heap.size w w11 := hb10.trans (hq11.mono hb10.size)
  clear hi hb hq11
  go_wp2_with fail
  refine (exAbove HG_11.out HF_11.out).mono ?_
  rintro e12 w12 ⟨A5, c5, rfl, hi, hb⟩
  have hq12 : Below w11.heap.size w11 w12 := by exact BeL
  have HD_12 := Lib.hid (HD_11.out.after hq12)
  clear HD_11
  have HE_12 := Lib.hid (HE_11.out.after hq12)
  clear HE_11
  have HT_12 := Lib.hid (HT_11.out.after hq12)
  clear HT_11
  have HU_12 := Lib.hid (HU_11.out.after hq12)
  clear HU_11
  have HG_12 := Lib.hid (HG_11.out.after hq12)
  clear HG_11
  have HF_12 := Lib.hid (HF_11.out.after hq12)
  clear HF_11
  have HO_12 := Lib.hid hi
  have hb12 : Below w.heap.size w w12 := hb11.trans (hq12.mono hb11.size)
  clear hi hb hq12
  clear HG_12
  clear HF_12
  go_wp2_with fail
  refine (register_any _).mono ?_
  rintro e13 w13 ⟨AG13, cG13, rfl, hr, hcc13, hb⟩
  have hq13 : Below w12.heap.size w12 w13 := by exact BeL
  have HD_13 := Lib.hid (HD_12.out.after hq13)
  clear HD_12
  have HE_13 := Lib.hid (HE_12.out.after hq13)
  clear HE_12
  have HT_13 := Lib.hid (HT_12.out.after hq13)
  clear HT_12
  have HU_13 := Lib.hid (HU_12.out.after hq13)
  clear HU_12
  have HO_13 := Lib.hid (HO_12.out.after hq13)
  clear HO_12
  have HG_13 := Lib.hid hr
  have hb13 : Below w.heap.size w w13 := hb12.trans (hq13.mono hb12.size)
  clear hr hb hq13
  go_wp2_with fail
  refine (exDiffer HG_13.out).mono ?_
  rintro e14 w14 ⟨A6, c6, B6, d6, rfl, hi, hb⟩
  have hq14 : Below w13.heap.size w13 w14 := by exact BeL
  have HD_14 := Lib.hid (HD_13.out.after hq14)
  clear HD_13
  have HE_14 := Lib.hid (HE_13.out.after hq14)
  clear HE_13
  have HT_14 := Lib.hid (HT_13.out.after hq14)
  clear HT_13
  have HU_14 := Lib.hid (HU_13.out.after hq14)
  clear HU_13
  have HO_14 := Lib.hid (HO_13.out.after hq14)
  clear HO_13
  have HG_14 := Lib.hid (HG_13.out.after hq14)
  clear HG_13
  have HC_14 := Lib.hid hi
  have hb14 : Below w.heap.size w w14 := hb13.trans (hq14.mono hb13.size)
  clear hi hb hq14
  clear HG_14
  go_wp2_with fail
  refine (register_any _).mono ?_
  rintro e15 w15 ⟨AG15, cG15, rfl, hr, hcc15, hb⟩
  have hq15 : Below w14.heap.size w14 w15 := by exact BeL
  have HD_15 := Lib.hid (HD_14.out.after hq15)
  clear HD_14
  have HE_15 := Lib.hid (HE_14.out.after hq15)
  clear HE_14
  have HT_15 := Lib.hid (HT_14.out.after hq15)
  clear HT_14
  have HU_15 := Lib.hid (HU_14.out.after hq15)
  clear HU_14
  have HO_15 := Lib.hid (HO_14.out.after hq15)
  clear HO_14
  have HC_15 := Lib.hid (HC_14.out.after hq15)
  clear HC_14
  have HG_15 := Lib.hid hr
  have hb15 : Below w.heap.size w w15 := hb14.trans (hq15.mono hb14.size)
  clear hr hb hq15
  go_wp2_with fail
  refine (exDepth HG_15.out).mono ?_
  rintro e16 w16 ⟨rfl, hb⟩
  have hq16 : Below w15.heap.size w15 w16 := by exact BeL
  have HD_16 := Lib.hid (HD_15.out.after hq16)
  clear HD_15
  have HE_16 := Lib.hid (HE_15.out.after hq16)
  clear HE_15
  have HT_16 := Lib.hid (HT_15.out.after hq16)
  clear HT_15
  have HU_16 := Lib.hid (HU_15.out.after hq16)
  clear HU_15
  have HO_16 := Lib.hid (HO_15.out.after hq16)
  clear HO_15
  have HC_16 := Lib.hid (HC_15.out.after hq16)
  clear HC_15
  have HG_16 := Lib.hid (HG_15.out.after hq16)
  clear HG_15
  have hb16 : Below w.heap.size w w16 := hb15.trans (hq16.mono hb15.size)
  clear hb hq16
  clear HG_16
  go_wp2_with fail
  refine (register_any _).mono ?_
  rintro e17 w17 ⟨AG17, cG17, rfl, hr, hcc17, hb⟩
  have hq17 : Below w16.heap.size w16 w17 := by exact BeL
  have HD_17 := Lib.hid (HD_16.out.after hq17)
  clear HD_16
  have HE_17 := Lib.hid (HE_16.out.after hq17)
  clear HE_16
  have HT_17 := Lib.hid (HT_16.out.after hq17)
  clear HT_16
  have HU_17 := Lib.hid (HU_16.out.after hq17)
  clear HU_16
  have HO_17 := Lib.hid (HO_16.out.after hq17)
  clear HO_16
  have HC_17 := Lib.hid (HC_16.out.after hq17)
  clear HC_16
  have HG_17 := Lib.hid hr
  have hb17 : Below w.heap.size w w17 := hb16.trans (hq17.mono hb16.size)
  clear hr hb hq17
  go_wp2_with fail
  refine (exLast HG_17.out).mono ?_
  rintro e18 w18 ⟨rfl, hb⟩
  have hq18 : Below w17.heap.size w17 w18 := by exact BeL
  have HD_18 := Lib.hid (HD_17.out.after hq18)
  clear HD_17
  have HE_18 := Lib.hid (HE_17.out.after hq18)
  clear HE_17
  have HT_18 := Lib.hid (HT_17.out.after hq18)
  clear HT_17
  have HU_18 := Lib.hid (HU_17.out.after hq18)
  clear HU_17
  have HO_18 := Lib.hid (HO_17.out.after hq18)
  clear HO_17
  have HC_18 := Lib.hid (HC_17.out.after hq18)
  clear HC_17
  have HG_18 := Lib.hid (HG_17.out.after hq18)
  clear HG_17
  have hb18 : Below w.heap.size w w18 := hb17.trans (hq18.mono hb17.size)
  clear hb hq18
  clear HG_18
  go_wp2_with fail
  refine (register_any _).mono ?_
  rintro e19 w19 ⟨AG19, cG19, rfl, hr, hcc19, hb⟩
  have hq19 : Below w18.heap.size w18 w19 := by exact BeL
  have HD_19 := Lib.hid (HD_18.out.after hq19)
  clear HD_18
  have HE_19 := Lib.hid (HE_18.out.after hq19)
  clear HE_18
  have HT_19 := Lib.hid (HT_18.out.after hq19)
  clear HT_18
  have HU_19 := Lib.hid (HU_18.out.after hq19)
  clear HU_18
  have HO_19 := Lib.hid (HO_18.out.after hq19)
  clear HO_18
  have HC_19 := Lib.hid (HC_18.out.after hq19)
  clear HC_18
  have HG_19 := Lib.hid hr
  have hb19 : Below w.heap.size w w19 := hb18.trans (hq19.mono hb18.size)
  clear hr hb hq19
  go_wp2_with fail
  refine (exAt HG_19.out).mono ?_
  rintro e20 w20 ⟨A7, c7, A8, c8, rfl, hi, hj, hb⟩
  have hq20 : Below w19.heap.size w19 w20 := by exact BeL
  have HD_20 := Lib.hid (HD_19.out.after hq20)
  clear HD_19
  have HE_20 := Lib.hid (HE_19.out.after hq20)
  clear HE_19
  have HT_20 := Lib.hid (HT_19.out.after hq20)
  clear HT_19
  have HU_20 := Lib.hid (HU_19.out.after hq20)
  clear HU_19
  have HO_20 := Lib.hid (HO_19.out.after hq20)
  clear HO_19
  have HC_20 := Lib.hid (HC_19.out.after hq20)
  clear HC_19
  have HG_20 := Lib.hid (HG_19.out.after hq20)
  clear HG_19
  have HI_20 := Lib.hid hi
  have HJ_20 := Lib.hid hj
  have hb20 : Below w.heap.size w w20 := hb19.trans (hq20.mono hb19.size)
  clear hi hj hb hq20
  clear HG_20
  go_wp2_with fail
  refine (register_any _).mono ?_
  rintro e21 w21 ⟨AGa, cGa, rfl, hr, hcca, hb⟩
  have hq21 : Below w20.heap.size w20 w21 := by exact BeL
  have HD_21 := Lib.hid (HD_20.out.after hq21)
  clear HD_20
  have HE_21 := Lib.hid (HE_20.out.after hq21)
  clear HE_20
  have HT_21 := Lib.hid (HT_20.out.after hq21)
  clear HT_20
  have HU_21 := Lib.hid (HU_20.out.after hq21)
  clear HU_20
  have HO_21 := Lib.hid (HO_20.out.after hq21)
  clear HO_20
  have HC_21 := Lib.hid (HC_20.out.after hq21)
  clear HC_20
  have HI_21 := Lib.hid (HI_20.out.after hq21)
  clear HI_20
  have HJ_21 := Lib.hid (HJ_20.out.after hq21)
  clear HJ_20
  have HG_21 := Lib.hid hr
  have HX_21 := Lib.hid ((Lies.made w20 45 #[.int .i64 30, .int .i64 2, .int .u8 2, .slice A7 0 c7, .slice A8 1 c8]).after hb)
  have hb21 : Below w.heap.size w w21 := hb20.trans (hq21.mono hb20.size)
  clear hr hq21
  clear hb
  go_wp2_with fail
  refine (register_any _).mono ?_
  rintro e22 w22 ⟨AGb, cGb, rfl, hr, hccb, hb⟩
  have hq22 : Below w21.heap.size w21 w22 := by exact BeL
  have HD_22 := Lib.hid (HD_21.out.after hq22)
  clear HD_21
  have HE_22 := Lib.hid (HE_21.out.after hq22)
  clear HE_21
  have HT_22 := Lib.hid (HT_21.out.after hq22)
  clear HT_21
  have HU_22 := Lib.hid (HU_21.out.after hq22)
  clear HU_21
  have HO_22 := Lib.hid (HO_21.out.after hq22)
  clear HO_21
  have HC_22 := Lib.hid (HC_21.out.after hq22)
  clear HC_21
  have HI_22 := Lib.hid (HI_21.out.after hq22)
  clear HI_21
  have HJ_22 := Lib.hid (HJ_21.out.after hq22)
  clear HJ_21
  have HG_22 := Lib.hid (HG_21.out.after hq22)
  clear HG_21
  have HX_22 := Lib.hid (HX_21.out.after hq22)
  clear HX_21
  have HH_22 := Lib.hid hr
  have hb22 : Below w.heap.size w w22 := hb21.trans (hq22.mono hb21.size)
  clear hr hb hq22
  go_wp2_with fail
  refine (exMerge HG_22.out HH_22.out hcca hccb).mono ?_
  rintro e23 w23 ⟨A9, c9, rfl, hr, hb⟩
  have hq23 : Below w22.heap.size w22 w23 := by exact BeL
  have HD_23 := Lib.hid (HD_22.out.after hq23)
  clear HD_22
  have HE_23 := Lib.hid (HE_22.out.after hq23)
  clear HE_22
  have HT_23 := Lib.hid (HT_22.out.after hq23)
  clear HT_22
  have HU_23 := Lib.hid (HU_22.out.after hq23)
  clear HU_22
  have HO_23 := Lib.hid (HO_22.out.after hq23)
  clear HO_22
  have HC_23 := Lib.hid (HC_22.out.after hq23)
  clear HC_22
  have HI_23 := Lib.hid (HI_22.out.after hq23)
  clear HI_22
  have HJ_23 := Lib.hid (HJ_22.out.after hq23)
  clear HJ_22
  have HG_23 := Lib.hid (HG_22.out.after hq23)
  clear HG_22
  have HX_23 := Lib.hid (HX_22.out.after hq23)
  clear HX_22
  have HH_23 := Lib.hid (HH_22.out.after hq23)
  clear HH_22
  have HM_23 := Lib.hid hr
  have hb23 : Below w.heap.size w w23 := hb22.trans (hq23.mono hb22.size)
  clear hr hb hq23
  clear HG_23
  clear HH_23
  go_wp2_with fail
  refine (rSameInts_t (l := [10, 20, 30, 40, 50]) (HD_23.out.after (by exact BeL)) (ints_lies (c := 5) (l := [10, 20, 30, 40, 50]) (Lies.new (by simp)) rfl) (by decide)).mono ?_
  rintro e24 w24 ⟨rfl, hb⟩
  have hq24 : Below w23.heap.size w23 w24 := by exact BeL
  have HD_24 := Lib.hid (HD_23.out.after hq24)
  clear HD_23
  have HE_24 := Lib.hid (HE_23.out.after hq24)
  clear HE_23
  have HT_24 := Lib.hid (HT_23.out.after hq24)
  clear HT_23
  have HU_24 := Lib.hid (HU_23.out.after hq24)
  clear HU_23
  have HO_24 := Lib.hid (HO_23.out.after hq24)
  clear HO_23
  have HC_24 := Lib.hid (HC_23.out.after hq24)
  clear HC_23
  have HI_24 := Lib.hid (HI_23.out.after hq24)
  clear HI_23
  have HJ_24 := Lib.hid (HJ_23.out.after hq24)
  clear HJ_23
  have HX_24 := Lib.hid (HX_23.out.after hq24)
  clear HX_23
  have HM_24 := Lib.hid (HM_23.out.after hq24)
  clear HM_23
  have HY_24 := Lib.hid ((((Lies.made w23 24 #[.slice A9 exR.length c9]).alloc _).alloc _).after hb)
  have HB_24 := Lib.hid (show Lies w24 (w23.heap.size + 1) 103 #[.int .i64 0, .int .i64 10, .int .i64 1, .int .i64 1, .int .i64 1, .int .i64 20, .int .i64 1, .int .i64 2, .int .i64 2, .int .i64 30, .int .i64 2, .int .i64 3, .int .i64 2, .int .i64 50, .int .i64 1, .int .i64 1, .int .i64 1, .int .i64 30, .int .i64 2, .int .i64 1] from ((Lies.new (by simp)).alloc _).after hb)
  have hb24 : Below w.heap.size w w24 := hb23.trans (hq24.mono hb23.size)
  clear  hq24
  clear hb
  clear HD_24
  go_wp2_with fail
  refine (item_any 30 7 _).mono ?_
  rintro e25 w25 ⟨rfl, hb⟩
  have hq25 : Below w24.heap.size w24 w25 := by exact BeL
  have HE_25 := Lib.hid (HE_24.out.after hq25)
  clear HE_24
  have HT_25 := Lib.hid (HT_24.out.after hq25)
  clear HT_24
  have HU_25 := Lib.hid (HU_24.out.after hq25)
  clear HU_24
  have HO_25 := Lib.hid (HO_24.out.after hq25)
  clear HO_24
  have HC_25 := Lib.hid (HC_24.out.after hq25)
  clear HC_24
  have HI_25 := Lib.hid (HI_24.out.after hq25)
  clear HI_24
  have HJ_25 := Lib.hid (HJ_24.out.after hq25)
  clear HJ_24
  have HX_25 := Lib.hid (HX_24.out.after hq25)
  clear HX_24
  have HM_25 := Lib.hid (HM_24.out.after hq25)
  clear HM_24
  have HY_25 := Lib.hid (HY_24.out.after hq25)
  clear HY_24
  have HB_25 := Lib.hid (HB_24.out.after hq25)
  clear HB_24
  have hb25 : Below w.heap.size w w25 := hb24.trans (hq25.mono hb24.size)
  clear hb hq25
  go_wp2_with fail
  refine (item_any 50 2 _).mono ?_
  rintro e26 w26 ⟨rfl, hb⟩
  have hq26 : Below w25.heap.size w25 w26 := by exact BeL
  have HE_26 := Lib.hid (HE_25.out.after hq26)
  clear HE_25
  have HT_26 := Lib.hid (HT_25.out.after hq26)
  clear HT_25
  have HU_26 := Lib.hid (HU_25.out.after hq26)
  clear HU_25
  have HO_26 := Lib.hid (HO_25.out.after hq26)
  clear HO_25
  have HC_26 := Lib.hid (HC_25.out.after hq26)
  clear HC_25
  have HI_26 := Lib.hid (HI_25.out.after hq26)
  clear HI_25
  have HJ_26 := Lib.hid (HJ_25.out.after hq26)
  clear HJ_25
  have HX_26 := Lib.hid (HX_25.out.after hq26)
  clear HX_25
  have HM_26 := Lib.hid (HM_25.out.after hq26)
  clear HM_25
  have HY_26 := Lib.hid (HY_25.out.after hq26)
  clear HY_25
  have HB_26 := Lib.hid (HB_25.out.after hq26)
  clear HB_25
  have hb26 : Below w.heap.size w w26 := hb25.trans (hq26.mono hb25.size)
  clear hb hq26
  go_wp2_with fail
  refine (rSameItems_t (l := [(30, 7), (50, 2)]) (HE_26.out.after ((Below.refl _ w26).alloc (Nat.le_refl _) _)) (items_lies (c := 2) (l := [(30, 7), (50, 2)]) (Lies.made w26 52 #[.int .i64 30, .int .i64 7, .int .i64 50, .int .i64 2]) rfl) (by decide)).mono ?_
  rintro e27 w27 ⟨rfl, hb⟩
  have hq27 : Below w26.heap.size w26 w27 := by exact BeL
  have HE_27 := Lib.hid (HE_26.out.after hq27)
  clear HE_26
  have HT_27 := Lib.hid (HT_26.out.after hq27)
  clear HT_26
  have HU_27 := Lib.hid (HU_26.out.after hq27)
  clear HU_26
  have HO_27 := Lib.hid (HO_26.out.after hq27)
  clear HO_26
  have HC_27 := Lib.hid (HC_26.out.after hq27)
  clear HC_26
  have HI_27 := Lib.hid (HI_26.out.after hq27)
  clear HI_26
  have HJ_27 := Lib.hid (HJ_26.out.after hq27)
  clear HJ_26
  have HX_27 := Lib.hid (HX_26.out.after hq27)
  clear HX_26
  have HM_27 := Lib.hid (HM_26.out.after hq27)
  clear HM_26
  have HY_27 := Lib.hid (HY_26.out.after hq27)
  clear HY_26
  have HB_27 := Lib.hid (HB_26.out.after hq27)
  clear HB_26
  have hb27 : Below w.heap.size w w27 := hb26.trans (hq27.mono hb26.size)
  clear hb hq27
  clear HE_27
  go_wp2_with fail
  refine (rSameBranches_t HT_27.out (branches_lies HB_27.out) (by decide)).mono ?_
  rintro e28 w28 ⟨rfl, hb⟩
  have hq28 : Below w27.heap.size w27 w28 := by exact BeL
  have HT_28 := Lib.hid (HT_27.out.after hq28)
  clear HT_27
  have HU_28 := Lib.hid (HU_27.out.after hq28)
  clear HU_27
  have HO_28 := Lib.hid (HO_27.out.after hq28)
  clear HO_27
  have HC_28 := Lib.hid (HC_27.out.after hq28)
  clear HC_27
  have HI_28 := Lib.hid (HI_27.out.after hq28)
  clear HI_27
  have HJ_28 := Lib.hid (HJ_27.out.after hq28)
  clear HJ_27
  have HX_28 := Lib.hid (HX_27.out.after hq28)
  clear HX_27
  have HM_28 := Lib.hid (HM_27.out.after hq28)
  clear HM_27
  have HY_28 := Lib.hid (HY_27.out.after hq28)
  clear HY_27
  have HB_28 := Lib.hid (HB_27.out.after hq28)
  clear HB_27
  have hb28 : Below w.heap.size w w28 := hb27.trans (hq28.mono hb27.size)
  clear hb hq28
  clear HT_28
  clear HB_28
  go_wp2_with fail
  refine (rSameRefs_t (P := [(10, 1), (10, 2), (20, 1)]) (HU_28.out.after ((Below.refl _ w28).alloc (Nat.le_refl _) _)) (refs_lies (Lies.made w28 26 #[.int .i64 10, .int .i64 1, .int .i64 10, .int .i64 2, .int .i64 20, .int .i64 1])) (by decide)).mono ?_
  rintro e29 w29 ⟨rfl, hb⟩
  have hq29 : Below w28.heap.size w28 w29 := by exact BeL
  have HU_29 := Lib.hid (HU_28.out.after hq29)
  clear HU_28
  have HO_29 := Lib.hid (HO_28.out.after hq29)
  clear HO_28
  have HC_29 := Lib.hid (HC_28.out.after hq29)
  clear HC_28
  have HI_29 := Lib.hid (HI_28.out.after hq29)
  clear HI_28
  have HJ_29 := Lib.hid (HJ_28.out.after hq29)
  clear HJ_28
  have HX_29 := Lib.hid (HX_28.out.after hq29)
  clear HX_28
  have HM_29 := Lib.hid (HM_28.out.after hq29)
  clear HM_28
  have HY_29 := Lib.hid (HY_28.out.after hq29)
  clear HY_28
  have hb29 : Below w.heap.size w w29 := hb28.trans (hq29.mono hb28.size)
  clear hb hq29
  clear HU_29
  have HALL := Lib.hid (fun W (hW : Below w29.heap.size w29 W) => And.intro (HX_29.out.after hW) (HY_29.out.after hW))
  have hal := HALL.out w29 (Below.refl _ _)
  have x0 := hal.1.cell 0
  have x1 := hal.1.cell 1
  have x2 := hal.1.cell 2
  have x3 := hal.1.cell 3
  have x4 := hal.1.cell 4
  have y0 := hal.2.cell 0
  have zx := hal.1.lt
  have zy := hal.2.lt
  have hl4 : (4 : Int) < (exR.length : Int) := by decide
  have hfld : ∀ (v : Value) (W : World), (Instr.field 24 (.agg #[v]) 0).run Try.prog W = .ok v W := field_reg
  clear hal
  go_upto_region 14 with fail
  refine wp_region_held_drew (S := fun W => W.cell? ⟨w20.heap.size, 0, none⟩ = some (.int .i64 30) ∧ W.cell? ⟨w20.heap.size, 1, none⟩ = some (.int .i64 2) ∧ W.cell? ⟨w20.heap.size, 2, none⟩ = some (.int .u8 2) ∧ W.cell? ⟨w20.heap.size, 3, none⟩ = some (.slice A7 0 c7) ∧ W.cell? ⟨w20.heap.size, 4, none⟩ = some (.slice A8 1 c8) ∧ W.cell? ⟨w23.heap.size, 0, none⟩ = some (.slice A9 exR.length c9)) (by kernel_rfl) ⟨x0, x1, x2, x3, x4, y0⟩ (fun hHeld => ?_)
  refine take_at (i := 0) (v := ?_) rfl (by kernel_rfl) (by kernel_rfl) (by kernel_rfl) (fun _ _ _ h => h) (Or.inl ⟨by rfl, ?_⟩) (by assumption) ?_
  rotate_left
  · (intro w hSw; (try dsimp only at hSw); go_simp; (try with_reducible rfl))
  try simp only [Act.put, List.setIfInBounds_toArray, List.set_cons_zero, List.set_cons_succ]
  refine take_at (i := 1) (v := ?_) rfl (by kernel_rfl) (by kernel_rfl) (by kernel_rfl) (fun _ _ _ h => h) (Or.inl ⟨by rfl, ?_⟩) (by assumption) ?_
  rotate_left
  · (intro w hSw; (try dsimp only at hSw); go_simp; (try with_reducible rfl))
  try simp only [Act.put, List.setIfInBounds_toArray, List.set_cons_zero, List.set_cons_succ]
  refine take_at (i := 2) (v := ?_) rfl (by kernel_rfl) (by kernel_rfl) (by kernel_rfl) (fun _ _ _ h => h) (Or.inl ⟨by rfl, ?_⟩) (by assumption) ?_
  rotate_left
  · (intro w hSw; (try dsimp only at hSw); go_simp; (try with_reducible rfl))
  try simp only [Act.put, List.setIfInBounds_toArray, List.set_cons_zero, List.set_cons_succ]
  refine take_at (i := 3) (v := ?_) rfl (by kernel_rfl) (by kernel_rfl) (by kernel_rfl) (fun _ _ _ h => h) (Or.inl ⟨by rfl, ?_⟩) (by assumption) ?_
  rotate_left
  · (intro w hSw; (try dsimp only at hSw); go_simp; (try with_reducible rfl))
  try simp only [Act.put, List.setIfInBounds_toArray, List.set_cons_zero, List.set_cons_succ]
  refine wpAnyH_ready (rs := [4]) (by kernel_rfl) (by simp) ?_
  refine cons_at rfl (fun K hK => ?_) AllReadyH.nil
  go_simp
  refine hK.out _ _ ?_ (fun hHeld => ?_)
  · exact ⟨keep_nw x0, keep_nw x1, keep_nw x2, keep_nw x3, keep_nw x4, keep_nw y0⟩
  clear hK K
  try simp only [Act.put, List.setIfInBounds_toArray, List.set_cons_zero, List.set_cons_succ]
  refine wpAnyH_ready (rs := [5]) (by kernel_rfl) (by simp) ?_
  refine cons_at rfl (fun K hK => ?_) AllReadyH.nil
  (first | (go_at_call 25; refine (rSameInts_t (l := [10]) (HO_29.out.after (by exact BeL)) (ints_lies (c := 1) (l := [10]) (Lies.made w29.drew 3 #[.int .i64 10]) rfl) (by decide)).mono ?_; rintro e30 v30 ⟨rfl, hb⟩; have hv30 : Below w29.heap.size w29 v30 := (by exact BeL); have hsv30 := hv30.size; have hal30 := HALL.out v30 hv30; have m30x0 := hal30.1.cell 0; have m30x1 := hal30.1.cell 1; have m30x2 := hal30.1.cell 2; have m30x3 := hal30.1.cell 3; have m30x4 := hal30.1.cell 4; have m30y0 := hal30.2.cell 0; have m30z := hal30.1.lt; have m30w := hal30.2.lt; clear hal30; clear hb) | (go_simp; go_at_call 25; refine (rSameInts_t (l := [10]) (HO_29.out.after (by exact BeL)) (ints_lies (c := 1) (l := [10]) (Lies.made w29.drew 3 #[.int .i64 10]) rfl) (by decide)).mono ?_; rintro e30 v30 ⟨rfl, hb⟩; have hv30 : Below w29.heap.size w29 v30 := (by exact BeL); have hsv30 := hv30.size; have hal30 := HALL.out v30 hv30; have m30x0 := hal30.1.cell 0; have m30x1 := hal30.1.cell 1; have m30x2 := hal30.1.cell 2; have m30x3 := hal30.1.cell 3; have m30x4 := hal30.1.cell 4; have m30y0 := hal30.2.cell 0; have m30z := hal30.1.lt; have m30w := hal30.2.lt; clear hal30; clear hb))
  refine hK.out _ _ ?_ (fun hHeld => ?_)
  · exact ⟨m30x0, m30x1, m30x2, m30x3, m30x4, m30y0⟩
  clear hK K
  try simp only [Act.put, List.setIfInBounds_toArray, List.set_cons_zero, List.set_cons_succ]
  refine take_at (i := 6) (v := ?_) rfl (by kernel_rfl) (by kernel_rfl) (by kernel_rfl) (fun _ _ _ h => h) (Or.inl ⟨by rfl, ?_⟩) (by assumption) ?_
  rotate_left
  · (intro w hSw; (try dsimp only at hSw); go_simp; (try with_reducible rfl))
  try simp only [Act.put, List.setIfInBounds_toArray, List.set_cons_zero, List.set_cons_succ]
  refine take_at (i := 7) (v := ?_) rfl (by kernel_rfl) (by kernel_rfl) (by kernel_rfl) (fun _ _ _ h => h) (Or.inl ⟨by rfl, ?_⟩) (by assumption) ?_
  rotate_left
  · (intro w hSw; (try dsimp only at hSw); go_simp; (try with_reducible rfl))
  try simp only [Act.put, List.setIfInBounds_toArray, List.set_cons_zero, List.set_cons_succ]
  refine take_at (i := 8) (v := ?_) rfl (by kernel_rfl) (by kernel_rfl) (by kernel_rfl) (fun _ _ _ h => h) (Or.inl ⟨by rfl, ?_⟩) (by assumption) ?_
  rotate_left
  · (intro w hSw; (try dsimp only at hSw); go_simp; (try with_reducible rfl))
  try simp only [Act.put, List.setIfInBounds_toArray, List.set_cons_zero, List.set_cons_succ]
  refine take_at (i := 9) (v := ?_) rfl (by kernel_rfl) (by kernel_rfl) (by kernel_rfl) (fun _ _ _ h => h) (Or.inl ⟨by rfl, ?_⟩) (by assumption) ?_
  rotate_left
  · (intro w hSw; (try dsimp only at hSw); go_simp; (try with_reducible rfl))
  try simp only [Act.put, List.setIfInBounds_toArray, List.set_cons_zero, List.set_cons_succ]
  refine take_at (i := 10) (v := ?_) rfl (by kernel_rfl) (by kernel_rfl) (by kernel_rfl) (fun _ _ _ h => h) (Or.inl ⟨by rfl, ?_⟩) (by assumption) ?_
  rotate_left
  · (intro w hSw; (try dsimp only at hSw); go_simp; (try with_reducible rfl))
  try simp only [Act.put, List.setIfInBounds_toArray, List.set_cons_zero, List.set_cons_succ]
  refine take_at (i := 11) (v := ?_) rfl (by kernel_rfl) (by kernel_rfl) (by kernel_rfl) (fun _ _ _ h => h) (Or.inl ⟨by rfl, ?_⟩) (by assumption) ?_
  rotate_left
  · (intro w hSw; (try dsimp only at hSw); go_simp; (try with_reducible rfl))
  try simp only [Act.put, List.setIfInBounds_toArray, List.set_cons_zero, List.set_cons_succ]
  refine take_at (i := 12) (v := ?_) rfl (by kernel_rfl) (by kernel_rfl) (by kernel_rfl) (fun _ _ _ h => h) (Or.inl ⟨by rfl, ?_⟩) (by assumption) ?_
  rotate_left
  · (intro w hSw; (try dsimp only at hSw); go_simp; (try with_reducible rfl))
  try simp only [Act.put, List.setIfInBounds_toArray, List.set_cons_zero, List.set_cons_succ]
  refine take_at (i := 13) (v := ?_) rfl (by kernel_rfl) (by kernel_rfl) (by kernel_rfl) (fun _ _ _ h => h) (Or.inl ⟨by rfl, ?_⟩) (by assumption) ?_
  rotate_left
  · (intro w hSw; (try dsimp only at hSw); go_simp; (try with_reducible rfl))
  try simp only [Act.put, List.setIfInBounds_toArray, List.set_cons_zero, List.set_cons_succ]
  refine take_at (i := 14) (v := ?_) rfl (by kernel_rfl) (by kernel_rfl) (by kernel_rfl) (fun _ _ _ h => h) (Or.inl ⟨by rfl, ?_⟩) (by assumption) ?_
  rotate_left
  · (intro w hSw; (try dsimp only at hSw); go_simp; (try with_reducible rfl))
  try simp only [Act.put, List.setIfInBounds_toArray, List.set_cons_zero, List.set_cons_succ]
  refine take_at (i := 15) (v := ?_) rfl (by kernel_rfl) (by kernel_rfl) (by kernel_rfl) (fun _ _ _ h => h) (Or.inl ⟨by rfl, ?_⟩) (by assumption) ?_
  rotate_left
  · (intro w hSw; (try dsimp only at hSw); go_simp; (try with_reducible rfl))
  try simp only [Act.put, List.setIfInBounds_toArray, List.set_cons_zero, List.set_cons_succ]
  refine wpAnyH_ready (rs := [16]) (by kernel_rfl) (by simp) ?_
  refine cons_at rfl (fun K hK => ?_) AllReadyH.nil
  go_simp
  refine hK.out _ _ ?_ (fun hHeld => ?_)
  · exact ⟨keep_nw m30x0, keep_nw m30x1, keep_nw m30x2, keep_nw m30x3, keep_nw m30x4, keep_nw m30y0⟩
  clear hK K
  try simp only [Act.put, List.setIfInBounds_toArray, List.set_cons_zero, List.set_cons_succ]
  refine wpAnyH_ready (rs := [17]) (by kernel_rfl) (by simp) ?_
  refine cons_at rfl (fun K hK => ?_) AllReadyH.nil
  (first | (go_at_call 45; refine (rSameChanges_t (l := [(20, 2, 1), (30, 1, 2), (40, 0, 2)]) (HC_29.out.after (hv30.alloc hv30.size _)) (changes_lies (Lies.made v30 110 #[.int .i64 20, .int .i64 2, .int .i64 1, .int .i64 30, .int .i64 1, .int .i64 2, .int .i64 40, .int .i64 0, .int .i64 2])) (by decide)).mono ?_; rintro e31 v31 ⟨rfl, hb⟩; have hv31 : Below w29.heap.size w29 v31 := (by exact BeL); have hsv31 := hv31.size; have hal31 := HALL.out v31 hv31; have m31x0 := hal31.1.cell 0; have m31x1 := hal31.1.cell 1; have m31x2 := hal31.1.cell 2; have m31x3 := hal31.1.cell 3; have m31x4 := hal31.1.cell 4; have m31y0 := hal31.2.cell 0; have m31z := hal31.1.lt; have m31w := hal31.2.lt; clear hal31; clear hb) | (go_simp; go_at_call 45; refine (rSameChanges_t (l := [(20, 2, 1), (30, 1, 2), (40, 0, 2)]) (HC_29.out.after (hv30.alloc hv30.size _)) (changes_lies (Lies.made v30 110 #[.int .i64 20, .int .i64 2, .int .i64 1, .int .i64 30, .int .i64 1, .int .i64 2, .int .i64 40, .int .i64 0, .int .i64 2])) (by decide)).mono ?_; rintro e31 v31 ⟨rfl, hb⟩; have hv31 : Below w29.heap.size w29 v31 := (by exact BeL); have hsv31 := hv31.size; have hal31 := HALL.out v31 hv31; have m31x0 := hal31.1.cell 0; have m31x1 := hal31.1.cell 1; have m31x2 := hal31.1.cell 2; have m31x3 := hal31.1.cell 3; have m31x4 := hal31.1.cell 4; have m31y0 := hal31.2.cell 0; have m31z := hal31.1.lt; have m31w := hal31.2.lt; clear hal31; clear hb))
  refine hK.out _ _ ?_ (fun hHeld => ?_)
  · exact ⟨m31x0, m31x1, m31x2, m31x3, m31x4, m31y0⟩
  clear hK K
  try simp only [Act.put, List.setIfInBounds_toArray, List.set_cons_zero, List.set_cons_succ]
  refine take_at (i := 18) (v := ?_) rfl (by kernel_rfl) (by kernel_rfl) (by kernel_rfl) (fun _ _ _ h => h) (Or.inl ⟨by rfl, ?_⟩) (by assumption) ?_
  rotate_left
  · (intro w hSw; (try dsimp only at hSw); go_simp; (try with_reducible rfl))
  try simp only [Act.put, List.setIfInBounds_toArray, List.set_cons_zero, List.set_cons_succ]
  refine take_at (i := 19) (v := ?_) rfl (by kernel_rfl) (by kernel_rfl) (by kernel_rfl) (fun _ _ _ h => h) (Or.inl ⟨by rfl, ?_⟩) (by assumption) ?_
  rotate_left
  · (intro w hSw; (try dsimp only at hSw); go_simp; (try with_reducible rfl))
  try simp only [Act.put, List.setIfInBounds_toArray, List.set_cons_zero, List.set_cons_succ]
  refine take_at (i := 20) (v := ?_) rfl (by kernel_rfl) (by kernel_rfl) (by kernel_rfl) (fun _ _ _ h => h) (Or.inl ⟨by rfl, ?_⟩) (by assumption) ?_
  rotate_left
  · (intro w hSw; (try dsimp only at hSw); go_simp; (try with_reducible rfl))
  try simp only [Act.put, List.setIfInBounds_toArray, List.set_cons_zero, List.set_cons_succ]
  refine take_at (i := 21) (v := ?_) rfl (by kernel_rfl) (by kernel_rfl) (by kernel_rfl) (fun _ _ _ h => h) (Or.inl ⟨by rfl, ?_⟩) (by assumption) ?_
  rotate_left
  · (intro w hSw; (try dsimp only at hSw); go_simp; (try with_reducible rfl))
  try simp only [Act.put, List.setIfInBounds_toArray, List.set_cons_zero, List.set_cons_succ]
  refine take_at (i := 22) (v := ?_) rfl (by kernel_rfl) (by kernel_rfl) (by kernel_rfl) (fun _ _ _ h => h) (Or.inl ⟨by rfl, ?_⟩) (by assumption) ?_
  rotate_left
  · (intro w hSw; (try dsimp only at hSw); go_simp; (try with_reducible rfl))
  try simp only [Act.put, List.setIfInBounds_toArray, List.set_cons_zero, List.set_cons_succ]
  refine take_at (i := 23) (v := ?_) rfl (by kernel_rfl) (by kernel_rfl) (by kernel_rfl) (fun _ _ _ h => h) (Or.inl ⟨by rfl, ?_⟩) (by assumption) ?_
  rotate_left
  · (intro w hSw; (try dsimp only at hSw); go_simp; (try with_reducible rfl))
  try simp only [Act.put, List.setIfInBounds_toArray, List.set_cons_zero, List.set_cons_succ]
  refine take_at (i := 24) (v := ?_) rfl (by kernel_rfl) (by kernel_rfl) (by kernel_rfl) (fun _ _ _ h => h) (Or.inl ⟨by rfl, ?_⟩) (by assumption) ?_
  rotate_left
  · (intro w hSw; (try dsimp only at hSw); go_simp; (try with_reducible rfl))
  try simp only [Act.put, List.setIfInBounds_toArray, List.set_cons_zero, List.set_cons_succ]
  refine take_at (i := 25) (v := ?_) rfl (by kernel_rfl) (by kernel_rfl) (by kernel_rfl) (fun _ _ _ h => h) (Or.inl ⟨by rfl, ?_⟩) (by assumption) ?_
  rotate_left
  · (intro w hSw; (try dsimp only at hSw); go_simp; (try with_reducible rfl))
  try simp only [Act.put, List.setIfInBounds_toArray, List.set_cons_zero, List.set_cons_succ]
  refine take_at (i := 26) (v := ?_) rfl (by kernel_rfl) (by kernel_rfl) (by kernel_rfl) (fun _ _ _ h => h) (Or.inl ⟨by rfl, ?_⟩) (by assumption) ?_
  rotate_left
  · (intro w hSw; (try dsimp only at hSw); go_simp; (try with_reducible rfl))
  try simp only [Act.put, List.setIfInBounds_toArray, List.set_cons_zero, List.set_cons_succ]
  refine take_at (i := 27) (v := ?_) rfl (by kernel_rfl) (by kernel_rfl) (by kernel_rfl) (fun _ _ _ h => h) (Or.inl ⟨by rfl, ?_⟩) (by assumption) ?_
  rotate_left
  · (intro w hSw; (try dsimp only at hSw); go_simp; (try with_reducible rfl))
  try simp only [Act.put, List.setIfInBounds_toArray, List.set_cons_zero, List.set_cons_succ]
  refine take_at (i := 28) (v := ?_) rfl (by kernel_rfl) (by kernel_rfl) (by kernel_rfl) (fun _ _ _ h => h) (Or.inl ⟨by rfl, ?_⟩) (by assumption) ?_
  rotate_left
  · (intro w hSw; (try dsimp only at hSw); go_simp; (try with_reducible rfl))
  try simp only [Act.put, List.setIfInBounds_toArray, List.set_cons_zero, List.set_cons_succ]
  refine take_at (i := 29) (v := ?_) rfl (by kernel_rfl) (by kernel_rfl) (by kernel_rfl) (fun _ _ _ h => h) (Or.inl ⟨by rfl, ?_⟩) (by assumption) ?_
  rotate_left
  · (intro w hSw; (try dsimp only at hSw); go_simp; (try with_reducible rfl))
  try simp only [Act.put, List.setIfInBounds_toArray, List.set_cons_zero, List.set_cons_succ]
  refine take_at (i := 30) (v := ?_) rfl (by kernel_rfl) (by kernel_rfl) (by kernel_rfl) (fun _ _ _ h => h) (Or.inl ⟨by rfl, ?_⟩) (by assumption) ?_
  rotate_left
  · (intro w hSw; (try dsimp only at hSw); go_simp; (try with_reducible rfl))
  try simp only [Act.put, List.setIfInBounds_toArray, List.set_cons_zero, List.set_cons_succ]
  refine take_at (i := 31) (v := ?_) rfl (by kernel_rfl) (by kernel_rfl) (by kernel_rfl) (fun _ _ _ h => h) (Or.inl ⟨by rfl, ?_⟩) (by assumption) ?_
  rotate_left
  · (intro w hSw; (try dsimp only at hSw); go_simp; (try with_reducible rfl))
  try simp only [Act.put, List.setIfInBounds_toArray, List.set_cons_zero, List.set_cons_succ]
  refine take_at (i := 32) (v := ?_) rfl (by kernel_rfl) (by kernel_rfl) (by kernel_rfl) (fun _ _ _ h => h) (Or.inl ⟨by rfl, ?_⟩) (by assumption) ?_
  rotate_left
  · (intro w hSw; (try dsimp only at hSw); go_simp; (try with_reducible rfl))
  try simp only [Act.put, List.setIfInBounds_toArray, List.set_cons_zero, List.set_cons_succ]
  refine take_at (i := 33) (v := ?_) rfl (by kernel_rfl) (by kernel_rfl) (by kernel_rfl) (fun _ _ _ h => h) (Or.inl ⟨by rfl, ?_⟩) (by assumption) ?_
  rotate_left
  · (intro w hSw; (try dsimp only at hSw); go_simp; (try with_reducible rfl))
  try simp only [Act.put, List.setIfInBounds_toArray, List.set_cons_zero, List.set_cons_succ]
  refine take_at (i := 34) (v := ?_) rfl (by kernel_rfl) (by kernel_rfl) (by kernel_rfl) (fun _ _ _ h => h) (Or.inl ⟨by rfl, ?_⟩) (by assumption) ?_
  rotate_left
  · (intro w hSw; (try dsimp only at hSw); go_simp; (try with_reducible rfl))
  try simp only [Act.put, List.setIfInBounds_toArray, List.set_cons_zero, List.set_cons_succ]
  refine take_at (i := 35) (v := ?_) rfl (by kernel_rfl) (by kernel_rfl) (by kernel_rfl) (fun _ _ _ h => h) (Or.inl ⟨by rfl, ?_⟩) (by assumption) ?_
  rotate_left
  · (intro w hSw; (try dsimp only at hSw); go_simp; (try with_reducible rfl))
  try simp only [Act.put, List.setIfInBounds_toArray, List.set_cons_zero, List.set_cons_succ]
  refine take_at (i := 36) (v := ?_) rfl (by kernel_rfl) (by kernel_rfl) (by kernel_rfl) (fun _ _ _ h => h) (Or.inl ⟨by rfl, ?_⟩) (by assumption) ?_
  rotate_left
  · (intro w hSw; (try dsimp only at hSw); go_simp; (try with_reducible rfl))
  try simp only [Act.put, List.setIfInBounds_toArray, List.set_cons_zero, List.set_cons_succ]
  refine take_at (i := 37) (v := ?_) rfl (by kernel_rfl) (by kernel_rfl) (by kernel_rfl) (fun _ _ _ h => h) (Or.inl ⟨by rfl, ?_⟩) (by assumption) ?_
  rotate_left
  · (intro w hSw; (try dsimp only at hSw); go_simp; (try with_reducible rfl))
  try simp only [Act.put, List.setIfInBounds_toArray, List.set_cons_zero, List.set_cons_succ]
  refine take_at (i := 38) (v := ?_) rfl (by kernel_rfl) (by kernel_rfl) (by kernel_rfl) (fun _ _ _ h => h) (Or.inl ⟨by rfl, ?_⟩) (by assumption) ?_
  rotate_left
  · (intro w hSw; (try dsimp only at hSw); go_simp; (try with_reducible rfl))
  try simp only [Act.put, List.setIfInBounds_toArray, List.set_cons_zero, List.set_cons_succ]
  refine take_at (i := 39) (v := ?_) rfl (by kernel_rfl) (by kernel_rfl) (by kernel_rfl) (fun _ _ _ h => h) (Or.inl ⟨by rfl, ?_⟩) (by assumption) ?_
  rotate_left
  · (intro w hSw; (try dsimp only at hSw); go_simp; (try with_reducible rfl))
  try simp only [Act.put, List.setIfInBounds_toArray, List.set_cons_zero, List.set_cons_succ]
  refine take_at (i := 40) (v := ?_) rfl (by kernel_rfl) (by kernel_rfl) (by kernel_rfl) (fun _ _ _ h => h) (Or.inl ⟨by rfl, ?_⟩) (by assumption) ?_
  rotate_left
  · (intro w hSw; (try dsimp only at hSw); go_simp; (try with_reducible rfl))
  try simp only [Act.put, List.setIfInBounds_toArray, List.set_cons_zero, List.set_cons_succ]
  refine take_at (i := 41) (v := ?_) rfl (by kernel_rfl) (by kernel_rfl) (by kernel_rfl) (fun _ _ _ h => h) (Or.inl ⟨by rfl, ?_⟩) (by assumption) ?_
  rotate_left
  · (intro w hSw; (try dsimp only at hSw); go_simp; (try with_reducible rfl))
  try simp only [Act.put, List.setIfInBounds_toArray, List.set_cons_zero, List.set_cons_succ]
  refine take_at (i := 42) (v := ?_) rfl (by kernel_rfl) (by kernel_rfl) (by kernel_rfl) (fun _ _ _ h => h) (Or.inl ⟨by rfl, ?_⟩) (by assumption) ?_
  rotate_left
  · (intro w hSw; (try dsimp only at hSw); go_simp; (try with_reducible rfl))
  try simp only [Act.put, List.setIfInBounds_toArray, List.set_cons_zero, List.set_cons_succ]
  refine take_at (i := 43) (v := ?_) rfl (by kernel_rfl) (by kernel_rfl) (by kernel_rfl) (fun _ _ _ h => h) (Or.inl ⟨by rfl, ?_⟩) (by assumption) ?_
  rotate_left
  · (intro w hSw; (try dsimp only at hSw); go_simp; (try with_reducible rfl))
  try simp only [Act.put, List.setIfInBounds_toArray, List.set_cons_zero, List.set_cons_succ]
  refine take_at (i := 44) (v := ?_) rfl (by kernel_rfl) (by kernel_rfl) (by kernel_rfl) (fun _ _ _ h => h) (Or.inl ⟨by rfl, ?_⟩) (by assumption) ?_
  rotate_left
  · (intro w hSw; (try dsimp only at hSw); go_simp; (try with_reducible rfl))
  try simp only [Act.put, List.setIfInBounds_toArray, List.set_cons_zero, List.set_cons_succ]
  refine take_at (i := 45) (v := ?_) rfl (by kernel_rfl) (by kernel_rfl) (by kernel_rfl) (fun _ _ _ h => h) (Or.inl ⟨by rfl, ?_⟩) (by assumption) ?_
  rotate_left
  · (intro w hSw; (try dsimp only at hSw); go_simp; (try with_reducible rfl))
  try simp only [Act.put, List.setIfInBounds_toArray, List.set_cons_zero, List.set_cons_succ]
  refine wpAnyH_ready (rs := [46]) (by kernel_rfl) (by simp) ?_
  refine cons_at rfl (fun K hK => ?_) AllReadyH.nil
  (first | (go_at_call 51; refine (register_any _).mono ?_; rintro e32 v32 ⟨AR, cR, rfl, hr, hcR, hb⟩; have hv32 : Below w29.heap.size w29 v32 := (by exact BeL); have hsv32 := hv32.size; have hal32 := HALL.out v32 hv32; have m32x0 := hal32.1.cell 0; have m32x1 := hal32.1.cell 1; have m32x2 := hal32.1.cell 2; have m32x3 := hal32.1.cell 3; have m32x4 := hal32.1.cell 4; have m32y0 := hal32.2.cell 0; have m32z := hal32.1.lt; have m32w := hal32.2.lt; clear hal32; have HGR := Lib.hid hr; obtain ⟨bR, oR, E1, f1, E2, f2, rfl, ⟨r0, r1, r2, r3, r4⟩, hE1, hE2⟩ := ex_four hr; have HE1 := Lib.hid hE1; have HE2 := Lib.hid hE2; clear hb hr hcR hE1 hE2) | (go_simp; go_at_call 51; refine (register_any _).mono ?_; rintro e32 v32 ⟨AR, cR, rfl, hr, hcR, hb⟩; have hv32 : Below w29.heap.size w29 v32 := (by exact BeL); have hsv32 := hv32.size; have hal32 := HALL.out v32 hv32; have m32x0 := hal32.1.cell 0; have m32x1 := hal32.1.cell 1; have m32x2 := hal32.1.cell 2; have m32x3 := hal32.1.cell 3; have m32x4 := hal32.1.cell 4; have m32y0 := hal32.2.cell 0; have m32z := hal32.1.lt; have m32w := hal32.2.lt; clear hal32; have HGR := Lib.hid hr; obtain ⟨bR, oR, E1, f1, E2, f2, rfl, ⟨r0, r1, r2, r3, r4⟩, hE1, hE2⟩ := ex_four hr; have HE1 := Lib.hid hE1; have HE2 := Lib.hid hE2; clear hb hr hcR hE1 hE2))
  refine hK.out _ _ ?_ (fun hHeld => ?_)
  · exact ⟨m32x0, m32x1, m32x2, m32x3, m32x4, m32y0⟩
  clear hK K
  try simp only [Act.put, List.setIfInBounds_toArray, List.set_cons_zero, List.set_cons_succ]
  refine take_at (i := 47) (v := ?_) rfl (by kernel_rfl) (by kernel_rfl) (by kernel_rfl) (fun _ _ _ h => h) (Or.inl ⟨by rfl, ?_⟩) (by assumption) ?_
  rotate_left
  · (intro w hSw; (try dsimp only at hSw); go_simp; (try with_reducible rfl))
  try simp only [Act.put, List.setIfInBounds_toArray, List.set_cons_zero, List.set_cons_succ]
  refine take_at (i := 48) (v := ?_) rfl (by kernel_rfl) (by kernel_rfl) (by kernel_rfl) (fun _ _ _ h => h) (Or.inl ⟨by rfl, ?_⟩) (by assumption) ?_
  rotate_left
  · (intro w hSw; (try dsimp only at hSw); go_simp; (try with_reducible rfl))
  try simp only [Act.put, List.setIfInBounds_toArray, List.set_cons_zero, List.set_cons_succ]
  refine wpAnyH_ready (rs := [49]) (by kernel_rfl) (by simp) ?_
  refine cons_at rfl (fun K hK => ?_) AllReadyH.nil
  go_simp
  refine hK.out _ _ ?_ (fun hHeld => ?_)
  · exact ⟨m32x0, m32x1, m32x2, m32x3, m32x4, m32y0⟩
  clear hK K
  try simp only [Act.put, List.setIfInBounds_toArray, List.set_cons_zero, List.set_cons_succ]
  refine wpAnyH_ready (rs := [50]) (by kernel_rfl) (by simp) ?_
  refine cons_at rfl (fun K hK => ?_) AllReadyH.nil
  (first | (go_at_call 30; refine (rSameIssue_any ⟨30, 2, 2, [], [(150, 120, 200)]⟩ ⟨30, 2, 2, [], [(150, 120, 200)]⟩ (.slice A7 0 c7) (.slice A8 1 c8) (.slice E1 0 f1) (.slice E2 1 f2) v32 (by decide) (by decide) (by decide) (by decide) (HI_29.out.after hv32) HE1.out (HJ_29.out.after hv32) HE2.out).mono ?_; rintro e33 v33 ⟨rfl, hb⟩; have hv33 : Below w29.heap.size w29 v33 := (by exact BeL); have hsv33 := hv33.size; have hal33 := HALL.out v33 hv33; have m33x0 := hal33.1.cell 0; have m33x1 := hal33.1.cell 1; have m33x2 := hal33.1.cell 2; have m33x3 := hal33.1.cell 3; have m33x4 := hal33.1.cell 4; have m33y0 := hal33.2.cell 0; have m33z := hal33.1.lt; have m33w := hal33.2.lt; clear hal33; rw [sameI_iff.2 rfl]; clear hb) | (go_simp; go_at_call 30; refine (rSameIssue_any ⟨30, 2, 2, [], [(150, 120, 200)]⟩ ⟨30, 2, 2, [], [(150, 120, 200)]⟩ (.slice A7 0 c7) (.slice A8 1 c8) (.slice E1 0 f1) (.slice E2 1 f2) v32 (by decide) (by decide) (by decide) (by decide) (HI_29.out.after hv32) HE1.out (HJ_29.out.after hv32) HE2.out).mono ?_; rintro e33 v33 ⟨rfl, hb⟩; have hv33 : Below w29.heap.size w29 v33 := (by exact BeL); have hsv33 := hv33.size; have hal33 := HALL.out v33 hv33; have m33x0 := hal33.1.cell 0; have m33x1 := hal33.1.cell 1; have m33x2 := hal33.1.cell 2; have m33x3 := hal33.1.cell 3; have m33x4 := hal33.1.cell 4; have m33y0 := hal33.2.cell 0; have m33z := hal33.1.lt; have m33w := hal33.2.lt; clear hal33; rw [sameI_iff.2 rfl]; clear hb))
  refine hK.out _ _ ?_ (fun hHeld => ?_)
  · exact ⟨m33x0, m33x1, m33x2, m33x3, m33x4, m33y0⟩
  clear hK K
  try simp only [Act.put, List.setIfInBounds_toArray, List.set_cons_zero, List.set_cons_succ]
  refine take_at (i := 51) (v := ?_) rfl (by kernel_rfl) (by kernel_rfl) (by kernel_rfl) (fun _ _ _ h => h) (Or.inl ⟨by rfl, ?_⟩) (by assumption) ?_
  rotate_left
  · (intro w hSw; (try dsimp only at hSw); go_simp; (try with_reducible rfl))
  try simp only [Act.put, List.setIfInBounds_toArray, List.set_cons_zero, List.set_cons_succ]
  refine take_at (i := 52) (v := ?_) rfl (by kernel_rfl) (by kernel_rfl) (by kernel_rfl) (fun _ _ _ h => h) (Or.inl ⟨by rfl, ?_⟩) (by assumption) ?_
  rotate_left
  · (intro w hSw; (try dsimp only at hSw); go_simp; (try with_reducible rfl))
  try simp only [Act.put, List.setIfInBounds_toArray, List.set_cons_zero, List.set_cons_succ]
  refine take_at (i := 53) (v := ?_) rfl (by kernel_rfl) (by kernel_rfl) (by kernel_rfl) (fun _ _ _ h => h) (Or.inl ⟨by rfl, ?_⟩) (by assumption) ?_
  rotate_left
  · (intro w hSw; (try dsimp only at hSw); go_simp; (try with_reducible rfl))
  try simp only [Act.put, List.setIfInBounds_toArray, List.set_cons_zero, List.set_cons_succ]
  refine take_at (i := 54) (v := ?_) rfl (by kernel_rfl) (by kernel_rfl) (by kernel_rfl) (fun _ _ _ h => h) (Or.inl ⟨by rfl, ?_⟩) (by assumption) ?_
  rotate_left
  · (intro w hSw; (try dsimp only at hSw); go_simp; (try with_reducible rfl))
  try simp only [Act.put, List.setIfInBounds_toArray, List.set_cons_zero, List.set_cons_succ]
  refine take_at (i := 55) (v := ?_) rfl (by kernel_rfl) (by kernel_rfl) (by kernel_rfl) (fun _ _ _ h => h) (Or.inl ⟨by rfl, ?_⟩) (by assumption) ?_
  rotate_left
  · (intro w hSw; (try dsimp only at hSw); go_simp; (try with_reducible rfl))
  try simp only [Act.put, List.setIfInBounds_toArray, List.set_cons_zero, List.set_cons_succ]
  refine take_at (i := 56) (v := ?_) rfl (by kernel_rfl) (by kernel_rfl) (by kernel_rfl) (fun _ _ _ h => h) (Or.inl ⟨by rfl, ?_⟩) (by assumption) ?_
  rotate_left
  · (intro w hSw; (try dsimp only at hSw); go_simp; (try with_reducible rfl))
  try simp only [Act.put, List.setIfInBounds_toArray, List.set_cons_zero, List.set_cons_succ]
  refine take_at (i := 57) (v := ?_) rfl (by kernel_rfl) (by kernel_rfl) (by kernel_rfl) (fun _ _ _ h => h) (Or.inl ⟨by rfl, ?_⟩) (by assumption) ?_
  rotate_left
  · (intro w hSw; (try dsimp only at hSw); go_simp; (try with_reducible rfl))
  try simp only [Act.put, List.setIfInBounds_toArray, List.set_cons_zero, List.set_cons_succ]
  refine wpAnyH_ready (rs := [58]) (by kernel_rfl) (by simp) ?_
  refine cons_at rfl (fun K hK => ?_) AllReadyH.nil
  (first | (go_at_call 51; refine (register_any _).mono ?_; rintro e32 v32 ⟨AR, cR, rfl, hr, hcR, hb⟩; have hv32 : Below w29.heap.size w29 v32 := (by exact BeL); have hsv32 := hv32.size; have hal32 := HALL.out v32 hv32; have m32x0 := hal32.1.cell 0; have m32x1 := hal32.1.cell 1; have m32x2 := hal32.1.cell 2; have m32x3 := hal32.1.cell 3; have m32x4 := hal32.1.cell 4; have m32y0 := hal32.2.cell 0; have m32z := hal32.1.lt; have m32w := hal32.2.lt; clear hal32; have HGR := Lib.hid hr; obtain ⟨bR, oR, E1, f1, E2, f2, rfl, ⟨r0, r1, r2, r3, r4⟩, hE1, hE2⟩ := ex_four hr; have HE1 := Lib.hid hE1; have HE2 := Lib.hid hE2; clear hb hr hcR hE1 hE2) | (go_simp; go_at_call 51; refine (register_any _).mono ?_; rintro e32 v32 ⟨AR, cR, rfl, hr, hcR, hb⟩; have hv32 : Below w29.heap.size w29 v32 := (by exact BeL); have hsv32 := hv32.size; have hal32 := HALL.out v32 hv32; have m32x0 := hal32.1.cell 0; have m32x1 := hal32.1.cell 1; have m32x2 := hal32.1.cell 2; have m32x3 := hal32.1.cell 3; have m32x4 := hal32.1.cell 4; have m32y0 := hal32.2.cell 0; have m32z := hal32.1.lt; have m32w := hal32.2.lt; clear hal32; have HGR := Lib.hid hr; obtain ⟨bR, oR, E1, f1, E2, f2, rfl, ⟨r0, r1, r2, r3, r4⟩, hE1, hE2⟩ := ex_four hr; have HE1 := Lib.hid hE1; have HE2 := Lib.hid hE2; clear hb hr hcR hE1 hE2))
  refine hK.out _ _ ?_ (fun hHeld => ?_)
  · exact ⟨m32x0, m32x1, m32x2, m32x3, m32x4, m32y0⟩
  clear hK K
  try simp only [Act.put, List.setIfInBounds_toArray, List.set_cons_zero, List.set_cons_succ]
  refine wpAnyH_ready (rs := [59]) (by kernel_rfl) (by simp) ?_
  refine cons_at rfl (fun K hK => ?_) AllReadyH.nil
  (first | (go_at_call 31; refine (rSame_x (HM_29.out.after hv32) HGR.out).mono ?_; rintro e34 v34 ⟨rfl, hb⟩; have hv34 : Below w29.heap.size w29 v34 := (by exact BeL); have hsv34 := hv34.size; have hal34 := HALL.out v34 hv34; have m34x0 := hal34.1.cell 0; have m34x1 := hal34.1.cell 1; have m34x2 := hal34.1.cell 2; have m34x3 := hal34.1.cell 3; have m34x4 := hal34.1.cell 4; have m34y0 := hal34.2.cell 0; have m34z := hal34.1.lt; have m34w := hal34.2.lt; clear hal34; clear hb) | (go_simp; go_at_call 31; refine (rSame_x (HM_29.out.after hv32) HGR.out).mono ?_; rintro e34 v34 ⟨rfl, hb⟩; have hv34 : Below w29.heap.size w29 v34 := (by exact BeL); have hsv34 := hv34.size; have hal34 := HALL.out v34 hv34; have m34x0 := hal34.1.cell 0; have m34x1 := hal34.1.cell 1; have m34x2 := hal34.1.cell 2; have m34x3 := hal34.1.cell 3; have m34x4 := hal34.1.cell 4; have m34y0 := hal34.2.cell 0; have m34z := hal34.1.lt; have m34w := hal34.2.lt; clear hal34; clear hb))
  refine hK.out _ _ ?_ (fun hHeld => ?_)
  · exact ⟨m34x0, m34x1, m34x2, m34x3, m34x4, m34y0⟩
  clear hK K
  try simp only [Act.put, List.setIfInBounds_toArray, List.set_cons_zero, List.set_cons_succ]
  refine take_at (i := 60) (v := ?_) rfl (by kernel_rfl) (by kernel_rfl) (by kernel_rfl) (fun _ _ _ h => h) (Or.inl ⟨by rfl, ?_⟩) (by assumption) ?_
  rotate_left
  · (intro w hSw; (try dsimp only at hSw); go_simp; (try with_reducible rfl))
  try simp only [Act.put, List.setIfInBounds_toArray, List.set_cons_zero, List.set_cons_succ]
  refine take_at (i := 61) (v := ?_) rfl (by kernel_rfl) (by kernel_rfl) (by kernel_rfl) (fun _ _ _ h => h) (Or.inl ⟨by rfl, ?_⟩) (by assumption) ?_
  rotate_left
  · (intro w hSw; (try dsimp only at hSw); go_simp; (try with_reducible rfl))
  try simp only [Act.put, List.setIfInBounds_toArray, List.set_cons_zero, List.set_cons_succ]
  refine wpAnyH_done (by kernel_rfl) ?_ _
  go_wp2_with fail
  go_ret
  exact ⟨rfl, hb29.trans (hv34.mono hb29.size)⟩
end Go.Proofs.Ytkjfceajakhlfaa
