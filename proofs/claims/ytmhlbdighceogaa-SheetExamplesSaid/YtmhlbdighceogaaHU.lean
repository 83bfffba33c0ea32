/- The register of the examples in its blocks; others that differ from it in one row. -/
import Derived.Test.YtmhlbdighceogaaRX
import Derived.Test.YtmhlbdighceogaaHY
namespace Go.Proofs.Ytmhlbdighceogaa
set_option linter.unusedVariables false
set_option linter.unusedSimpArgs false
open Go.RowKit

/-- The cells of the examples' issues, but for two rows. -/
def LBX (v2 v6 : Value) (a0 a1 a3 a4 : Nat) : Array Value := #[.int .i64 10, .int .i64 1, .int .u8 1, .slice (some ⟨a0, 0, none⟩) 2 2, .slice none 0 0, .int .i64 10, .int .i64 2, .int .u8 1, .slice (some ⟨a1, 0, none⟩) 3 3, .slice none 0 0, .int .i64 20, .int .i64 1, .int .u8 1, v2, .slice none 0 0, .int .i64 30, .int .i64 1, .int .u8 2, .slice none 0 0, .slice (some ⟨a3, 0, none⟩) 1 1, .int .i64 30, .int .i64 2, .int .u8 2, .slice none 0 0, .slice (some ⟨a4, 0, none⟩) 1 1, .int .i64 40, .int .i64 1, .int .u8 2, .slice none 0 0, .slice none 0 0, .int .i64 50, .int .i64 1, .int .u8 3, .slice none 0 0, v6]
/-- The register of the examples, but for two rows. -/
def exG (l2 : List (Int × Int)) (d6 : List D3) : List Iss := [⟨10, 1, 1, [(20, 2), (30, 1)], []⟩, ⟨10, 2, 1, [(20, 1), (30, 2), (40, 2)], []⟩, ⟨20, 1, 1, l2, []⟩, ⟨30, 1, 2, [], [(150, 100, 200)]⟩, ⟨30, 2, 2, [], [(150, 120, 200)]⟩, ⟨40, 1, 2, [], []⟩, ⟨50, 1, 3, [], d6⟩]
def RegX (W : World) (base g a0 a1 a2 a3 a4 : Nat) : Prop := (Lies W g 45 (LBX (.slice (some ⟨a2, 0, none⟩) 2 2) (.slice none 0 0) a0 a1 a3 a4) ∧ Lies W a0 52 #[.int .i64 20, .int .i64 2, .int .i64 30, .int .i64 1] ∧ Lies W a1 52 #[.int .i64 20, .int .i64 1, .int .i64 30, .int .i64 2, .int .i64 40, .int .i64 2] ∧ Lies W a2 52 #[.int .i64 30, .int .i64 3, .int .i64 50, .int .i64 1] ∧ Lies W a3 54 #[.int .i64 150, .int .i64 100, .int .i64 200] ∧ Lies W a4 54 #[.int .i64 150, .int .i64 120, .int .i64 200]) ∧ base ≤ a0 ∧ a0 < a1 ∧ a1 < a2 ∧ a2 < a3 ∧ a3 < a4 ∧ a4 < g
theorem RegX.after {W W' : World} {base g a0 a1 a2 a3 a4 : Nat} (h : RegX W base g a0 a1 a2 a3 a4) (hb : Below W.heap.size W W') : RegX W' base g a0 a1 a2 a3 a4 :=
  ⟨⟨h.1.1.after hb, h.1.2.1.after hb, h.1.2.2.1.after hb, h.1.2.2.2.1.after hb, h.1.2.2.2.2.1.after hb, h.1.2.2.2.2.2.after hb⟩, h.2⟩
theorem exG_at {W : World} {g a0 a1 a3 a4 : Nat} {v2 v6 : Value} {l2 : List (Int × Int)} {d6 : List D3} (LB : Lies W g 45 (LBX v2 v6 a0 a1 a3 a4)) (L0 : Lies W a0 52 #[.int .i64 20, .int .i64 2, .int .i64 30, .int .i64 1]) (L1 : Lies W a1 52 #[.int .i64 20, .int .i64 1, .int .i64 30, .int .i64 2, .int .i64 40, .int .i64 2]) (L3 : Lies W a3 54 #[.int .i64 150, .int .i64 100, .int .i64 200]) (L4 : Lies W a4 54 #[.int .i64 150, .int .i64 120, .int .i64 200]) (h2 : ItemsAt W v2 l2) (n2 : NilOk v2) (h6 : DimsAt W v6 d6) (n6 : NilOk v6) (hl2 : l2.length ≤ 1000) (hd6 : d6.length ≤ 1000) : RegAt W (.slice (some ⟨g, 0, none⟩) 7 7) (exG l2 d6) := by
  refine ⟨⟨_, _, g, 0, rfl, fun _ => rfl, fun i hi => ?_⟩, by show 7 ≤ 1000; decide, ?_⟩
  · have hi2 : i < 7 := hi
    have hi3 : i = 0 ∨ i = 1 ∨ i = 2 ∨ i = 3 ∨ i = 4 ∨ i = 5 ∨ i = 6 := by omega
    rcases hi3 with rfl | rfl | rfl | rfl | rfl | rfl | rfl
    · exact ⟨_, _, LB.cell 0, LB.cell 1, LB.cell 2, LB.cell 3, LB.cell 4, (show (0 : Int) ≤ 1 ∧ (1 : Int) ≤ 255 by decide), items_lies (c := 2) (l := [(20, 2), (30, 1)]) L0 rfl, dims_none W, nilok_some _ _ _, nilok_none⟩
    · exact ⟨_, _, LB.cell 5, LB.cell 6, LB.cell 7, LB.cell 8, LB.cell 9, (show (0 : Int) ≤ 1 ∧ (1 : Int) ≤ 255 by decide), items_lies (c := 3) (l := [(20, 1), (30, 2), (40, 2)]) L1 rfl, dims_none W, nilok_some _ _ _, nilok_none⟩
    · exact ⟨_, _, LB.cell 10, LB.cell 11, LB.cell 12, LB.cell 13, LB.cell 14, (show (0 : Int) ≤ 1 ∧ (1 : Int) ≤ 255 by decide), h2, dims_none W, n2, nilok_none⟩
    · exact ⟨_, _, LB.cell 15, LB.cell 16, LB.cell 17, LB.cell 18, LB.cell 19, (show (0 : Int) ≤ 2 ∧ (2 : Int) ≤ 255 by decide), items_none W, dims_lies (c := 1) (l := [(150, 100, 200)]) L3 rfl, nilok_none, nilok_some _ _ _⟩
    · exact ⟨_, _, LB.cell 20, LB.cell 21, LB.cell 22, LB.cell 23, LB.cell 24, (show (0 : Int) ≤ 2 ∧ (2 : Int) ≤ 255 by decide), items_none W, dims_lies (c := 1) (l := [(150, 120, 200)]) L4 rfl, nilok_none, nilok_some _ _ _⟩
    · exact ⟨_, _, LB.cell 25, LB.cell 26, LB.cell 27, LB.cell 28, LB.cell 29, (show (0 : Int) ≤ 2 ∧ (2 : Int) ≤ 255 by decide), items_none W, dims_none W, nilok_none, nilok_none⟩
    · exact ⟨_, _, LB.cell 30, LB.cell 31, LB.cell 32, LB.cell 33, LB.cell 34, (show (0 : Int) ≤ 3 ∧ (3 : Int) ≤ 255 by decide), items_none W, h6, nilok_none, n6⟩
  · intro x hx
    simp only [exG, List.mem_cons, List.not_mem_nil, or_false] at hx
    rcases hx with rfl | rfl | rfl | rfl | rfl | rfl | rfl <;> first | exact ⟨hl2, Nat.zero_le _⟩ | exact ⟨Nat.zero_le _, hd6⟩ | exact ⟨by decide, by decide⟩
set_option maxRecDepth 100000 in
set_option maxHeartbeats 16000000 in
theorem register_x (w : World) : Calls Try.prog 51 #[] w fun e w' => ∃ g a0 a1 a2 a3 a4, e = .returned (.agg #[.slice (some ⟨g, 0, none⟩) 7 7]) ∧ RegX w' w.heap.size g a0 a1 a2 a3 a4 ∧ Below w.heap.size w w' := by
  have HR0 := Lib.hid (Lies.made w 24 #[.slice none 0 0])
  have hb0 : Below w.heap.size w (w.alloc (.cells #[.slice none 0 0] 24)) := by (repeat' (first | (with_reducible first | exact Below.refl _ _ | assumption | refine Below.alloc ?_ ?_ _ | refine Below.setCell ?_ ?_ _ | refine below_row ?_ ?_ _ | refine Below.drew ?_ | refine below_drewN ?_ _ | refine Below.trans ?_ (Below.mono (by assumption) ?_)) | exact Nat.le_refl _ | omega | (simp; done) | (simp; omega) | exact Below.size (by assumption)))
  go_enter Try.func51, Try.ntmps51
  go_wp2_with fail
  refine (item_any 20 2 _).mono ?_
  rintro e1 w1 ⟨rfl, hc1⟩
  have hs1' := hb0.size
  have hq1 : Below (w.alloc (.cells #[.slice none 0 0] 24)).heap.size (w.alloc (.cells #[.slice none 0 0] 24)) w1 := hc1
  have HRx1 := Lib.hid (HR0.out.after hq1)
  have hb1 : Below w.heap.size w w1 := hb0.trans (hq1.mono hb0.size)
  clear hc1 hq1 hs1'
  go_wp2_with fail
  refine (item_any 30 1 _).mono ?_
  rintro e2 w2 ⟨rfl, hc2⟩
  have hs2' := hb1.size
  have hq2 : Below w1.heap.size w1 w2 := hc2
  have HRx2 := Lib.hid (HRx1.out.after hq2)
  have hb2 : Below w.heap.size w w2 := hb1.trans (hq2.mono hb1.size)
  clear hc2 hq2 hs2'
  go_wp2_with fail
  refine (assembly_any 10 1 _ _ _ _).mono ?_
  rintro e3 w3 ⟨rfl, hc3⟩
  have hs3' := hb2.size
  have hq3 : Below w2.heap.size w2 w3 := ((Below.refl _ w2).alloc (Nat.le_refl _) _).trans (hc3.mono (by simp))
  have HL0x3 := Lib.hid ((Lies.made w2 52 #[.int .i64 20, .int .i64 2, .int .i64 30, .int .i64 1]).after hc3)
  have HRx3 := Lib.hid (HRx2.out.after hq3)
  have hb3 : Below w.heap.size w w3 := hb2.trans (hq3.mono hb2.size)
  clear hc3 hq3 hs3'
  go_wp2_with fail
  refine (item_any 20 1 _).mono ?_
  rintro e4 w4 ⟨rfl, hc4⟩
  have hs4' := hb3.size
  have hq4 : Below w3.heap.size w3 w4 := hc4
  have HRx4 := Lib.hid (HRx3.out.after hq4)
  have HL0x4 := Lib.hid (HL0x3.out.after hq4)
  have hb4 : Below w.heap.size w w4 := hb3.trans (hq4.mono hb3.size)
  clear hc4 hq4 hs4'
  go_wp2_with fail
  refine (item_any 30 2 _).mono ?_
  rintro e5 w5 ⟨rfl, hc5⟩
  have hs5' := hb4.size
  have hq5 : Below w4.heap.size w4 w5 := hc5
  have HRx5 := Lib.hid (HRx4.out.after hq5)
  have HL0x5 := Lib.hid (HL0x4.out.after hq5)
  have hb5 : Below w.heap.size w w5 := hb4.trans (hq5.mono hb4.size)
  clear hc5 hq5 hs5'
  go_wp2_with fail
  refine (item_any 40 2 _).mono ?_
  rintro e6 w6 ⟨rfl, hc6⟩
  have hs6' := hb5.size
  have hq6 : Below w5.heap.size w5 w6 := hc6
  have HRx6 := Lib.hid (HRx5.out.after hq6)
  have HL0x6 := Lib.hid (HL0x5.out.after hq6)
  have hb6 : Below w.heap.size w w6 := hb5.trans (hq6.mono hb5.size)
  clear hc6 hq6 hs6'
  go_wp2_with fail
  refine (assembly_any 10 2 _ _ _ _).mono ?_
  rintro e7 w7 ⟨rfl, hc7⟩
  have hs7' := hb6.size
  have hq7 : Below w6.heap.size w6 w7 := ((Below.refl _ w6).alloc (Nat.le_refl _) _).trans (hc7.mono (by simp))
  have HL1x7 := Lib.hid ((Lies.made w6 52 #[.int .i64 20, .int .i64 1, .int .i64 30, .int .i64 2, .int .i64 40, .int .i64 2]).after hc7)
  have HRx7 := Lib.hid (HRx6.out.after hq7)
  have HL0x7 := Lib.hid (HL0x6.out.after hq7)
  have hb7 : Below w.heap.size w w7 := hb6.trans (hq7.mono hb6.size)
  clear hc7 hq7 hs7'
  go_wp2_with fail
  refine (item_any 30 3 _).mono ?_
  rintro e8 w8 ⟨rfl, hc8⟩
  have hs8' := hb7.size
  have hq8 : Below w7.heap.size w7 w8 := hc8
  have HRx8 := Lib.hid (HRx7.out.after hq8)
  have HL0x8 := Lib.hid (HL0x7.out.after hq8)
  have HL1x8 := Lib.hid (HL1x7.out.after hq8)
  have hb8 : Below w.heap.size w w8 := hb7.trans (hq8.mono hb7.size)
  clear hc8 hq8 hs8'
  go_wp2_with fail
  refine (item_any 50 1 _).mono ?_
  rintro e9 w9 ⟨rfl, hc9⟩
  have hs9' := hb8.size
  have hq9 : Below w8.heap.size w8 w9 := hc9
  have HRx9 := Lib.hid (HRx8.out.after hq9)
  have HL0x9 := Lib.hid (HL0x8.out.after hq9)
  have HL1x9 := Lib.hid (HL1x8.out.after hq9)
  have hb9 : Below w.heap.size w w9 := hb8.trans (hq9.mono hb8.size)
  clear hc9 hq9 hs9'
  go_wp2_with fail
  refine (assembly_any 20 1 _ _ _ _).mono ?_
  rintro e10 w10 ⟨rfl, hc10⟩
  have hs10' := hb9.size
  have hq10 : Below w9.heap.size w9 w10 := ((Below.refl _ w9).alloc (Nat.le_refl _) _).trans (hc10.mono (by simp))
  have HL2x10 := Lib.hid ((Lies.made w9 52 #[.int .i64 30, .int .i64 3, .int .i64 50, .int .i64 1]).after hc10)
  have HRx10 := Lib.hid (HRx9.out.after hq10)
  have HL0x10 := Lib.hid (HL0x9.out.after hq10)
  have HL1x10 := Lib.hid (HL1x9.out.after hq10)
  have hb10 : Below w.heap.size w w10 := hb9.trans (hq10.mono hb9.size)
  clear hc10 hq10 hs10'
  go_wp2_with fail
  refine (part_any 30 1 2 _ _ _ _).mono ?_
  rintro e11 w11 ⟨rfl, hc11⟩
  have hs11' := hb10.size
  have hq11 : Below w10.heap.size w10 w11 := ((Below.refl _ w10).alloc (Nat.le_refl _) _).trans (hc11.mono (by simp))
  have HL3x11 := Lib.hid ((Lies.made w10 54 #[.int .i64 150, .int .i64 100, .int .i64 200]).after hc11)
  have HRx11 := Lib.hid (HRx10.out.after hq11)
  have HL0x11 := Lib.hid (HL0x10.out.after hq11)
  have HL1x11 := Lib.hid (HL1x10.out.after hq11)
  have HL2x11 := Lib.hid (HL2x10.out.after hq11)
  have hb11 : Below w.heap.size w w11 := hb10.trans (hq11.mono hb10.size)
  clear hc11 hq11 hs11'
  go_wp2_with fail
  refine (part_any 30 2 2 _ _ _ _).mono ?_
  rintro e12 w12 ⟨rfl, hc12⟩
  have hs12' := hb11.size
  have hq12 : Below w11.heap.size w11 w12 := ((Below.refl _ w11).alloc (Nat.le_refl _) _).trans (hc12.mono (by simp))
  have HL4x12 := Lib.hid ((Lies.made w11 54 #[.int .i64 150, .int .i64 120, .int .i64 200]).after hc12)
  have HRx12 := Lib.hid (HRx11.out.after hq12)
  have HL0x12 := Lib.hid (HL0x11.out.after hq12)
  have HL1x12 := Lib.hid (HL1x11.out.after hq12)
  have HL2x12 := Lib.hid (HL2x11.out.after hq12)
  have HL3x12 := Lib.hid (HL3x11.out.after hq12)
  have hb12 : Below w.heap.size w w12 := hb11.trans (hq12.mono hb11.size)
  clear hc12 hq12 hs12'
  go_wp2_with fail
  refine (part_any 40 1 2 _ _ _ _).mono ?_
  rintro e13 w13 ⟨rfl, hc13⟩
  have hs13' := hb12.size
  have hq13 : Below w12.heap.size w12 w13 := hc13
  have HRx13 := Lib.hid (HRx12.out.after hq13)
  have HL0x13 := Lib.hid (HL0x12.out.after hq13)
  have HL1x13 := Lib.hid (HL1x12.out.after hq13)
  have HL2x13 := Lib.hid (HL2x12.out.after hq13)
  have HL3x13 := Lib.hid (HL3x12.out.after hq13)
  have HL4x13 := Lib.hid (HL4x12.out.after hq13)
  have hb13 : Below w.heap.size w w13 := hb12.trans (hq13.mono hb12.size)
  clear hc13 hq13 hs13'
  go_wp2_with fail
  refine (part_any 50 1 3 _ _ _ _).mono ?_
  rintro e14 w14 ⟨rfl, hc14⟩
  have hs14' := hb13.size
  have hq14 : Below w13.heap.size w13 w14 := hc14
  have HRx14 := Lib.hid (HRx13.out.after hq14)
  have HL0x14 := Lib.hid (HL0x13.out.after hq14)
  have HL1x14 := Lib.hid (HL1x13.out.after hq14)
  have HL2x14 := Lib.hid (HL2x13.out.after hq14)
  have HL3x14 := Lib.hid (HL3x13.out.after hq14)
  have HL4x14 := Lib.hid (HL4x13.out.after hq14)
  have hb14 : Below w.heap.size w w14 := hb13.trans (hq14.mono hb13.size)
  clear hc14 hq14 hs14'
  have r0 := HRx14.out.cell 0
  have fr := HRx14.out.free 0
  have zr := HRx14.out.lt
  go_wp2_with fail
  have hL : ∀ (g : Nat) (t : TypeId) (cs : Array Value) (o : Obj), t ≠ 24 → Lies w14 g t cs → Lies ((w14.setCell ⟨w.heap.size, 0, none⟩ (.slice (some ⟨w14.heap.size, 0, none⟩) 7 7)).alloc o) g t cs := fun g t cs o ht h => (h.other (p := ⟨w.heap.size, 0, none⟩) (by rintro rfl; have h2 := HRx14.out; unfold Lies at h h2; rw [h] at h2; injection h2 with h2; injection h2 with _ e; exact ht e) _).alloc o
  have hB : Below w.heap.size w (w14.setCell ⟨w.heap.size, 0, none⟩ (.slice (some ⟨w14.heap.size, 0, none⟩) 7 7)) := hb14.setCell (p := ⟨w.heap.size, 0, none⟩) (Nat.le_refl _) _
  exact bodyPost_ret (results_cell_row rfl _ _ (w.heap.size) _ _ (0, 0) _ rfl ((HRx14.out.store 0 _).alloc _) Try.underlying24 rfl (by kernel_rfl)) rfl ⟨w14.heap.size, w2.heap.size, w6.heap.size, w9.heap.size, w10.heap.size, w11.heap.size, rfl, ⟨⟨Lies.new (by simp), hL _ _ _ _ (by decide) HL0x14.out, hL _ _ _ _ (by decide) HL1x14.out, hL _ _ _ _ (by decide) HL2x14.out, hL _ _ _ _ (by decide) HL3x14.out, hL _ _ _ _ (by decide) HL4x14.out⟩, hb2.size, HL0x6.out.lt, HL1x9.out.lt, HL2x10.out.lt, HL3x11.out.lt, HL4x14.out.lt⟩, hB.alloc hB.size _⟩
theorem LBX_13 (v2 v6 v : Value) (a0 a1 a3 a4 : Nat) : (LBX v2 v6 a0 a1 a3 a4).setIfInBounds 13 v = LBX v v6 a0 a1 a3 a4 := rfl
theorem LBX_34 (v2 v6 v : Value) (a0 a1 a3 a4 : Nat) : (LBX v2 v6 a0 a1 a3 a4).setIfInBounds 34 v = LBX v2 v a0 a1 a3 a4 := rfl
theorem ex_G : exR = exG [(30, 3), (50, 1)] [] := rfl
theorem ex_lay_round : layE (exG [(10, 1), (30, 3), (50, 1)] []) = 21 := by kernel_rfl
theorem ex_lay_odd : layE (exG [(30, 3), (60, 1)] []) = 20 := by kernel_rfl
theorem ex_clash2 : clashE exR (exG [(30, 3), (50, 1)] [(150, 100, 200)]) = ([(50, 1)], 0) := by kernel_rfl
theorem ex_merge2 : mergeE exR (exG [(30, 3), (50, 1)] [(150, 100, 200)]) = ([], 23) := by kernel_rfl
theorem ex_ask2 : askE exR [2, 1, 1, 1, 1] 10 = 0 := by kernel_rfl
theorem ex_expl2 : explL exR [2, 1, 1, 1, 1] 10 = [(30, 5), (40, 2), (50, 1)] := by kernel_rfl
theorem ex_depth2 : depthE exR 30 = (1, 0) := by kernel_rfl
theorem ex_above2 : aboveE exR [1, 1, 1, 1, 1] 40 = ([], 0) := by kernel_rfl
theorem ex_differ2 : differE exR 30 1 2 = ([], [0], 0) := by kernel_rfl
theorem ex_last2 : lastE exR 60 = (0, 6) := by kernel_rfl
theorem ex_ask3 : askE exR [1, 1, 1, 1] 60 = 22 := by kernel_rfl
theorem ex_tree2 : treeE exR [1, 1, 1, 1, 1] 60 = ([], 6) := by kernel_rfl
theorem ex_differ3 : differE exR 10 1 3 = ([], [], 6) := by kernel_rfl
theorem ex_uses2 : usesE (exG [(30, 3), (60, 1)] []) 10 = ([], 20) := by kernel_rfl
end Go.Proofs.Ytmhlbdighceogaa
