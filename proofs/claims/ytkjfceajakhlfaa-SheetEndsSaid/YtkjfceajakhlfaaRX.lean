/- RA: The register of the chapter's examples, in memory. RB: What the functions tell of the register of the examples. RC: The examples' calls, each over the register of the examples. -/
import Derived.Test.YtkjfceajakhlfaaVG
import Derived.Test.YtkjfceajakhlfaaVK
import Derived.Test.YtkjfceajakhlfaaUB
import Derived.Test.YtkjfceajakhlfaaUJ
import Derived.Test.YtkjfceajakhlfaaLJ
import Derived.Test.YtkjfceajakhlfaaLH
namespace Go.Proofs.Ytkjfceajakhlfaa
set_option linter.unusedVariables false
set_option linter.unusedSimpArgs false
section
open Go.RowKit
theorem BeL {p : Prop} (h : p := by (repeat' (first | (with_reducible first | exact Below.refl _ _ | assumption | refine Below.alloc ?_ ?_ _ | refine Below.setCell ?_ ?_ _ | refine below_row ?_ ?_ _ | refine Below.drew ?_ | refine below_drewN ?_ _ | refine Below.trans ?_ (Below.mono (by assumption) ?_)) | exact Nat.le_refl _ | omega | (simp; done) | (simp; omega) | exact Below.size (by assumption)))) : p := h

def exR : List Iss := [⟨10, 1, 1, [(20, 2), (30, 1)], []⟩, ⟨10, 2, 1, [(20, 1), (30, 2), (40, 2)], []⟩, ⟨20, 1, 1, [(30, 3), (50, 1)], []⟩, ⟨30, 1, 2, [], [(150, 100, 200)]⟩, ⟨30, 2, 2, [], [(150, 120, 200)]⟩, ⟨40, 1, 2, [], []⟩, ⟨50, 1, 3, [], []⟩]
theorem items_lies {W : World} {a c : Nat} {cs : Array Value} {l : List (Int × Int)} (h : Lies W a 52 cs) (hc : cs.toList = cellsI l) : ItemsAt W (.slice (some ⟨a, 0, none⟩) l.length c) l := by
  refine ⟨_, _, a, 0, rfl, fun _ => rfl, fun i hi => ?_⟩
  obtain ⟨h1, h2⟩ := cellsI_at hi
  rw [← hc] at h1 h2
  refine ⟨?_, ?_⟩
  · rw [h.cell, Nat.zero_add]; simpa using h1
  · rw [h.cell, Nat.zero_add]; simpa using h2
theorem dims_lies {W : World} {a c : Nat} {cs : Array Value} {l : List D3} (h : Lies W a 54 cs) (hc : cs.toList = cellsS l) : DimsAt W (.slice (some ⟨a, 0, none⟩) l.length c) l := by
  refine ⟨_, _, a, 0, rfl, fun _ => rfl, fun i hi => ?_⟩
  obtain ⟨h1, h2, h3⟩ := cellsS_at hi
  rw [← hc] at h1 h2 h3
  refine ⟨?_, ?_, ?_⟩
  · rw [h.cell, Nat.zero_add]; simpa using h1
  · rw [h.cell, Nat.zero_add]; simpa using h2
  · rw [h.cell, Nat.zero_add]; simpa using h3
theorem items_none (W : World) : ItemsAt W (.slice none 0 0) [] := ⟨none, 0, 0, 0, rfl, (fun h => absurd h (by simp)), fun i h => absurd h (by simp)⟩
theorem dims_none (W : World) : DimsAt W (.slice none 0 0) [] := ⟨none, 0, 0, 0, rfl, (fun h => absurd h (by simp)), fun i h => absurd h (by simp)⟩
theorem nilok_some (p : Addr) (n c : Nat) : NilOk (.slice (some p) n c) := by intro n c e; injection e with e; cases e
theorem nilok_none : NilOk (.slice none 0 0) := by intro n c e; injection e with e1 e2 e3; exact e3.symm
theorem exR_at {W : World} {g a0 a1 a2 a3 a4 : Nat} (LB : Lies W g 45 #[.int .i64 10, .int .i64 1, .int .u8 1, .slice (some ⟨a0, 0, none⟩) 2 2, .slice none 0 0, .int .i64 10, .int .i64 2, .int .u8 1, .slice (some ⟨a1, 0, none⟩) 3 3, .slice none 0 0, .int .i64 20, .int .i64 1, .int .u8 1, .slice (some ⟨a2, 0, none⟩) 2 2, .slice none 0 0, .int .i64 30, .int .i64 1, .int .u8 2, .slice none 0 0, .slice (some ⟨a3, 0, none⟩) 1 1, .int .i64 30, .int .i64 2, .int .u8 2, .slice none 0 0, .slice (some ⟨a4, 0, none⟩) 1 1, .int .i64 40, .int .i64 1, .int .u8 2, .slice none 0 0, .slice none 0 0, .int .i64 50, .int .i64 1, .int .u8 3, .slice none 0 0, .slice none 0 0])
    (L0 : Lies W a0 52 #[.int .i64 20, .int .i64 2, .int .i64 30, .int .i64 1])
    (L1 : Lies W a1 52 #[.int .i64 20, .int .i64 1, .int .i64 30, .int .i64 2, .int .i64 40, .int .i64 2])
    (L2 : Lies W a2 52 #[.int .i64 30, .int .i64 3, .int .i64 50, .int .i64 1])
    (L3 : Lies W a3 54 #[.int .i64 150, .int .i64 100, .int .i64 200])
    (L4 : Lies W a4 54 #[.int .i64 150, .int .i64 120, .int .i64 200])
    : RegAt W (.slice (some ⟨g, 0, none⟩) exR.length 7) exR := by
  refine ⟨⟨_, _, g, 0, rfl, fun _ => rfl, fun i hi => ?_⟩, by decide, by decide⟩
  have hi2 : i < 7 := hi
  have hi3 : i = 0 ∨ i = 1 ∨ i = 2 ∨ i = 3 ∨ i = 4 ∨ i = 5 ∨ i = 6 := by omega
  rcases hi3 with rfl | rfl | rfl | rfl | rfl | rfl | rfl
  · exact ⟨_, _, LB.cell 0, LB.cell 1, LB.cell 2, LB.cell 3, LB.cell 4, (show (0 : Int) ≤ 1 ∧ (1 : Int) ≤ 255 by decide), items_lies (c := 2) (l := [(20, 2), (30, 1)]) L0 rfl, dims_none W, nilok_some _ _ _, nilok_none⟩
  · exact ⟨_, _, LB.cell 5, LB.cell 6, LB.cell 7, LB.cell 8, LB.cell 9, (show (0 : Int) ≤ 1 ∧ (1 : Int) ≤ 255 by decide), items_lies (c := 3) (l := [(20, 1), (30, 2), (40, 2)]) L1 rfl, dims_none W, nilok_some _ _ _, nilok_none⟩
  · exact ⟨_, _, LB.cell 10, LB.cell 11, LB.cell 12, LB.cell 13, LB.cell 14, (show (0 : Int) ≤ 1 ∧ (1 : Int) ≤ 255 by decide), items_lies (c := 2) (l := [(30, 3), (50, 1)]) L2 rfl, dims_none W, nilok_some _ _ _, nilok_none⟩
  · exact ⟨_, _, LB.cell 15, LB.cell 16, LB.cell 17, LB.cell 18, LB.cell 19, (show (0 : Int) ≤ 2 ∧ (2 : Int) ≤ 255 by decide), items_none W, dims_lies (c := 1) (l := [(150, 100, 200)]) L3 rfl, nilok_none, nilok_some _ _ _⟩
  · exact ⟨_, _, LB.cell 20, LB.cell 21, LB.cell 22, LB.cell 23, LB.cell 24, (show (0 : Int) ≤ 2 ∧ (2 : Int) ≤ 255 by decide), items_none W, dims_lies (c := 1) (l := [(150, 120, 200)]) L4 rfl, nilok_none, nilok_some _ _ _⟩
  · exact ⟨_, _, LB.cell 25, LB.cell 26, LB.cell 27, LB.cell 28, LB.cell 29, (show (0 : Int) ≤ 2 ∧ (2 : Int) ≤ 255 by decide), items_none W, dims_none W, nilok_none, nilok_none⟩
  · exact ⟨_, _, LB.cell 30, LB.cell 31, LB.cell 32, LB.cell 33, LB.cell 34, (show (0 : Int) ≤ 3 ∧ (3 : Int) ≤ 255 by decide), items_none W, dims_none W, nilok_none, nilok_none⟩

set_option maxHeartbeats 1000000 in
theorem item_any (d c : Int) (w : World) : Calls Try.prog 54 #[.int .i64 d, .int .i64 c] w fun e w' => e = .returned (.agg #[.int .i64 d, .int .i64 c]) ∧ Below w.heap.size w w' := by
  go_enter Try.func54, Try.ntmps54
  go_wp2
  exact bodyPost_ret (v := .agg #[.int .i64 d, .int .i64 c]) (by simp [results, Try.results54, go_sem]) rfl ⟨rfl, by exact BeL⟩
set_option maxHeartbeats 1000000 in
theorem assembly_any (d l : Int) (A : Option Addr) (n c : Nat) (w : World) : Calls Try.prog 100 #[.int .i64 d, .int .i64 l, .slice A n c] w fun e w' => e = .returned (.agg #[.int .i64 d, .int .i64 l, .int .u8 1, .slice A n c, .slice none 0 0]) ∧ Below w.heap.size w w' := by
  go_enter Try.func100, Try.ntmps100
  go_wp2
  exact bodyPost_ret (v := .agg #[.int .i64 d, .int .i64 l, .int .u8 1, .slice A n c, .slice none 0 0]) (by simp [results, Try.results100, go_sem]) rfl ⟨rfl, by exact BeL⟩
set_option maxHeartbeats 1000000 in
theorem part_any (d l k : Int) (A : Option Addr) (n c : Nat) (w : World) : Calls Try.prog 101 #[.int .i64 d, .int .i64 l, .int .u8 k, .slice A n c] w fun e w' => e = .returned (.agg #[.int .i64 d, .int .i64 l, .int .u8 k, .slice none 0 0, .slice A n c]) ∧ Below w.heap.size w w' := by
  go_enter Try.func101, Try.ntmps101
  go_wp2
  exact bodyPost_ret (v := .agg #[.int .i64 d, .int .i64 l, .int .u8 k, .slice none 0 0, .slice A n c]) (by simp [results, Try.results101, go_sem]) rfl ⟨rfl, by exact BeL⟩
set_option maxRecDepth 100000 in
set_option maxHeartbeats 16000000 in
theorem register_any (w : World) : Calls Try.prog 51 #[] w fun e w' => ∃ A c, e = .returned (.agg #[.slice A exR.length c]) ∧ RegAt w' (.slice A exR.length c) exR ∧ exR.length ≤ c ∧ Below w.heap.size w w' := by
  have HR0 := Lib.hid (Lies.made w 24 #[.slice none 0 0])
  have hb0 : Below w.heap.size w (w.alloc (.cells #[.slice none 0 0] 24)) := by exact BeL
  go_enter Try.func51, Try.ntmps51
  go_wp2_with fail
  refine (item_any 20 2 _).mono ?_
  rintro e1 w1 ⟨rfl, hc1⟩
  have hs1' := hb0.size
  have hq1 : Below (w.alloc (.cells #[.slice none 0 0] 24)).heap.size (w.alloc (.cells #[.slice none 0 0] 24)) w1 := hc1
  have HRx1 := Lib.hid (HR0.out.after hq1)
  have hb1 : Below w.heap.size w w1 := hb0.trans (hq1.mono hb0.size)
  clear hc1 hq1 hs1'
  go_wp2_with fail
  refine (item_any 30 1 _).mono ?_
  rintro e2 w2 ⟨rfl, hc2⟩
  have hs2' := hb1.size
  have hq2 : Below w1.heap.size w1 w2 := hc2
  have HRx2 := Lib.hid (HRx1.out.after hq2)
  have hb2 : Below w.heap.size w w2 := hb1.trans (hq2.mono hb1.size)
  clear hc2 hq2 hs2'
  go_wp2_with fail
  refine (assembly_any 10 1 _ _ _ _).mono ?_
  rintro e3 w3 ⟨rfl, hc3⟩
  have hs3' := hb2.size
  have hq3 : Below w2.heap.size w2 w3 := ((Below.refl _ w2).alloc (Nat.le_refl _) _).trans (hc3.mono (by simp))
  have HL0x3 := Lib.hid ((Lies.made w2 52 #[.int .i64 20, .int .i64 2, .int .i64 30, .int .i64 1]).after hc3)
  have HRx3 := Lib.hid (HRx2.out.after hq3)
  have hb3 : Below w.heap.size w w3 := hb2.trans (hq3.mono hb2.size)
  clear hc3 hq3 hs3'
  go_wp2_with fail
  refine (item_any 20 1 _).mono ?_
  rintro e4 w4 ⟨rfl, hc4⟩
  have hs4' := hb3.size
  have hq4 : Below w3.heap.size w3 w4 := hc4
  have HRx4 := Lib.hid (HRx3.out.after hq4)
  have HL0x4 := Lib.hid (HL0x3.out.after hq4)
  have hb4 : Below w.heap.size w w4 := hb3.trans (hq4.mono hb3.size)
  clear hc4 hq4 hs4'
  go_wp2_with fail
  refine (item_any 30 2 _).mono ?_
  rintro e5 w5 ⟨rfl, hc5⟩
  have hs5' := hb4.size
  have hq5 : Below w4.heap.size w4 w5 := hc5
  have HRx5 := Lib.hid (HRx4.out.after hq5)
  have HL0x5 := Lib.hid (HL0x4.out.after hq5)
  have hb5 : Below w.heap.size w w5 := hb4.trans (hq5.mono hb4.size)
  clear hc5 hq5 hs5'
  go_wp2_with fail
  refine (item_any 40 2 _).mono ?_
  rintro e6 w6 ⟨rfl, hc6⟩
  have hs6' := hb5.size
  have hq6 : Below w5.heap.size w5 w6 := hc6
  have HRx6 := Lib.hid (HRx5.out.after hq6)
  have HL0x6 := Lib.hid (HL0x5.out.after hq6)
  have hb6 : Below w.heap.size w w6 := hb5.trans (hq6.mono hb5.size)
  clear hc6 hq6 hs6'
  go_wp2_with fail
  refine (assembly_any 10 2 _ _ _ _).mono ?_
  rintro e7 w7 ⟨rfl, hc7⟩
  have hs7' := hb6.size
  have hq7 : Below w6.heap.size w6 w7 := ((Below.refl _ w6).alloc (Nat.le_refl _) _).trans (hc7.mono (by simp))
  have HL1x7 := Lib.hid ((Lies.made w6 52 #[.int .i64 20, .int .i64 1, .int .i64 30, .int .i64 2, .int .i64 40, .int .i64 2]).after hc7)
  have HRx7 := Lib.hid (HRx6.out.after hq7)
  have HL0x7 := Lib.hid (HL0x6.out.after hq7)
  have hb7 : Below w.heap.size w w7 := hb6.trans (hq7.mono hb6.size)
  clear hc7 hq7 hs7'
  go_wp2_with fail
  refine (item_any 30 3 _).mono ?_
  rintro e8 w8 ⟨rfl, hc8⟩
  have hs8' := hb7.size
  have hq8 : Below w7.heap.size w7 w8 := hc8
  have HRx8 := Lib.hid (HRx7.out.after hq8)
  have HL0x8 := Lib.hid (HL0x7.out.after hq8)
  have HL1x8 := Lib.hid (HL1x7.out.after hq8)
  have hb8 : Below w.heap.size w w8 := hb7.trans (hq8.mono hb7.size)
  clear hc8 hq8 hs8'
  go_wp2_with fail
  refine (item_any 50 1 _).mono ?_
  rintro e9 w9 ⟨rfl, hc9⟩
  have hs9' := hb8.size
  have hq9 : Below w8.heap.size w8 w9 := hc9
  have HRx9 := Lib.hid (HRx8.out.after hq9)
  have HL0x9 := Lib.hid (HL0x8.out.after hq9)
  have HL1x9 := Lib.hid (HL1x8.out.after hq9)
  have hb9 : Below w.heap.size w w9 := hb8.trans (hq9.mono hb8.size)
  clear hc9 hq9 hs9'
  go_wp2_with fail
  refine (assembly_any 20 1 _ _ _ _).mono ?_
  rintro e10 w10 ⟨rfl, hc10⟩
  have hs10' := hb9.size
  have hq10 : Below w9.heap.size w9 w10 := ((Below.refl _ w9).alloc (Nat.le_refl _) _).trans (hc10.mono (by simp))
  have HL2x10 := Lib.hid ((Lies.made w9 52 #[.int .i64 30, .int .i64 3, .int .i64 50, .int .i64 1]).after hc10)
  have HRx10 := Lib.hid (HRx9.out.after hq10)
  have HL0x10 := Lib.hid (HL0x9.out.after hq10)
  have HL1x10 := Lib.hid (HL1x9.out.after hq10)
  have hb10 : Below w.heap.size w w10 := hb9.trans (hq10.mono hb9.size)
  clear hc10 hq10 hs10'
  go_wp2_with fail
  refine (part_any 30 1 2 _ _ _ _).mono ?_
  rintro e11 w11 ⟨rfl, hc11⟩
  have hs11' := hb10.size
  have hq11 : Below w10.heap.size w10 w11 := ((Below.refl _ w10).alloc (Nat.le_refl _) _).trans (hc11.mono (by simp))
  have HL3x11 := Lib.hid ((Lies.made w10 54 #[.int .i64 150, .int .i64 100, .int .i64 200]).after hc11)
  have HRx11 := Lib.hid (HRx10.out.after hq11)
  have HL0x11 := Lib.hid (HL0x10.out.after hq11)
  have HL1x11 := Lib.hid (HL1x10.out.after hq11)
  have HL2x11 := Lib.hid (HL2x10.out.after hq11)
  have hb11 : Below w.heap.size w w11 := hb10.trans (hq11.mono hb10.size)
  clear hc11 hq11 hs11'
  go_wp2_with fail
  refine (part_any 30 2 2 _ _ _ _).mono ?_
  rintro e12 w12 ⟨rfl, hc12⟩
  have hs12' := hb11.size
  have hq12 : Below w11.heap.size w11 w12 := ((Below.refl _ w11).alloc (Nat.le_refl _) _).trans (hc12.mono (by simp))
  have HL4x12 := Lib.hid ((Lies.made w11 54 #[.int .i64 150, .int .i64 120, .int .i64 200]).after hc12)
  have HRx12 := Lib.hid (HRx11.out.after hq12)
  have HL0x12 := Lib.hid (HL0x11.out.after hq12)
  have HL1x12 := Lib.hid (HL1x11.out.after hq12)
  have HL2x12 := Lib.hid (HL2x11.out.after hq12)
  have HL3x12 := Lib.hid (HL3x11.out.after hq12)
  have hb12 : Below w.heap.size w w12 := hb11.trans (hq12.mono hb11.size)
  clear hc12 hq12 hs12'
  go_wp2_with fail
  refine (part_any 40 1 2 _ _ _ _).mono ?_
  rintro e13 w13 ⟨rfl, hc13⟩
  have hs13' := hb12.size
  have hq13 : Below w12.heap.size w12 w13 := hc13
  have HRx13 := Lib.hid (HRx12.out.after hq13)
  have HL0x13 := Lib.hid (HL0x12.out.after hq13)
  have HL1x13 := Lib.hid (HL1x12.out.after hq13)
  have HL2x13 := Lib.hid (HL2x12.out.after hq13)
  have HL3x13 := Lib.hid (HL3x12.out.after hq13)
  have HL4x13 := Lib.hid (HL4x12.out.after hq13)
  have hb13 : Below w.heap.size w w13 := hb12.trans (hq13.mono hb12.size)
  clear hc13 hq13 hs13'
  go_wp2_with fail
  refine (part_any 50 1 3 _ _ _ _).mono ?_
  rintro e14 w14 ⟨rfl, hc14⟩
  have hs14' := hb13.size
  have hq14 : Below w13.heap.size w13 w14 := hc14
  have HRx14 := Lib.hid (HRx13.out.after hq14)
  have HL0x14 := Lib.hid (HL0x13.out.after hq14)
  have HL1x14 := Lib.hid (HL1x13.out.after hq14)
  have HL2x14 := Lib.hid (HL2x13.out.after hq14)
  have HL3x14 := Lib.hid (HL3x13.out.after hq14)
  have HL4x14 := Lib.hid (HL4x13.out.after hq14)
  have hb14 : Below w.heap.size w w14 := hb13.trans (hq14.mono hb13.size)
  clear hc14 hq14 hs14'
  have r0 := HRx14.out.cell 0
  have fr := HRx14.out.free 0
  have zr := HRx14.out.lt
  go_wp2_with fail
  have hL : ∀ (g : Nat) (t : TypeId) (cs : Array Value) (o : Obj), t ≠ 24 → Lies w14 g t cs → Lies ((w14.setCell ⟨w.heap.size, 0, none⟩ (.slice (some ⟨w14.heap.size, 0, none⟩) 7 7)).alloc o) g t cs := fun g t cs o ht h => (h.other (p := ⟨w.heap.size, 0, none⟩) (by rintro rfl; have h2 := HRx14.out; unfold Lies at h h2; rw [h] at h2; injection h2 with h2; injection h2 with _ e; exact ht e) _).alloc o
  have hB : Below w.heap.size w (w14.setCell ⟨w.heap.size, 0, none⟩ (.slice (some ⟨w14.heap.size, 0, none⟩) 7 7)) := hb14.setCell (p := ⟨w.heap.size, 0, none⟩) (Nat.le_refl _) _
  exact bodyPost_ret (results_cell_row rfl _ _ (w.heap.size) _ _ (0, 0) _ rfl ((HRx14.out.store 0 _).alloc _) Try.underlying24 rfl (by kernel_rfl)) rfl ⟨_, _, rfl, exR_at (Lies.new (by simp)) (hL _ _ _ _ (by decide) HL0x14.out) (hL _ _ _ _ (by decide) HL1x14.out) (hL _ _ _ _ (by decide) HL2x14.out) (hL _ _ _ _ (by decide) HL3x14.out) (hL _ _ _ _ (by decide) HL4x14.out), Nat.le_refl _, hB.alloc hB.size _⟩
end
section
open Go.RowKit

theorem ex_lay : layE exR = 0 := by kernel_rfl
theorem ex_numbers : numbersL exR = [10, 20, 30, 40, 50] := by kernel_rfl
theorem ex_ask1 : askE exR [1, 1, 1, 1, 1] 10 = 0 := by kernel_rfl
theorem ex_expl1 : explL exR [1, 1, 1, 1, 1] 10 = [(30, 7), (50, 2)] := by kernel_rfl
theorem ex_tree : treeE exR [1, 1, 2, 1, 1] 10 = ([(0, 10, 1, 1), (1, 20, 1, 2), (2, 30, 2, 3), (2, 50, 1, 1), (1, 30, 2, 1)], 0) := by kernel_rfl
theorem ex_uses : usesE exR 30 = ([(10, 1), (10, 2), (20, 1)], 0) := by kernel_rfl
theorem ex_above : aboveE exR [2, 1, 1, 1, 1] 40 = ([10], 0) := by kernel_rfl
theorem ex_differ : differE exR 10 1 2 = ([(20, 2, 1), (30, 1, 2), (40, 0, 2)], [], 0) := by kernel_rfl
theorem ex_depth : depthE exR 10 = (3, 0) := by kernel_rfl
theorem ex_last : lastE exR 30 = (2, 0) := by kernel_rfl
theorem ex_clash : clashR exR exR exR.length = [] := by kernel_rfl
theorem ex_join : joinL exR exR = exR := by simp [joinL, exR]
theorem ex_merge : mergeE exR exR = (exR, 0) := by
  unfold mergeE
  rw [if_neg (by unfold bothE; rw [ex_lay]; simp), if_neg (by rw [ex_clash]; simp), ex_join, if_neg (by rw [ex_lay]; simp)]
end
section
open Go.RowKit

theorem capOfx {A : Option Addr} {n c : Nat} (h : n ≤ c) : CapOk (.slice A n c) := by
  intro A' n' c' e
  injection e with e1 e2 e3
  omega
theorem ints_lies {W : World} {a c : Nat} {cs : Array Value} {l : List Int} (h : Lies W a 3 cs) (hc : cs.toList = cellsN l) : IntsAt W (.slice (some ⟨a, 0, none⟩) l.length c) l := by
  refine ⟨_, _, a, 0, rfl, fun _ => rfl, fun i hi => ?_⟩
  have h1 : (cellsN l)[i]? = some (.int .i64 (l[i])) := by simp [cellsN, hi]
  rw [← hc] at h1
  rw [h.cell, Nat.zero_add]; simpa using h1
set_option maxHeartbeats 1000000 in
theorem first_any (w : World) : Calls Try.prog 53 #[] w fun e w' => ∃ A c, e = .returned (.slice A 5 c) ∧ IntsAt w' (.slice A 5 c) [1, 1, 1, 1, 1] ∧ Below w.heap.size w w' := by
  go_enter Try.func53, Try.ntmps53
  go_wp2
  go_ret
  exact ⟨_, _, rfl, ints_lies (c := 5) (l := [1, 1, 1, 1, 1]) (Lies.made w 3 #[.int .i64 1, .int .i64 1, .int .i64 1, .int .i64 1, .int .i64 1]) rfl, by exact BeL⟩
set_option maxHeartbeats 1000000 in
theorem second_any (w : World) : Calls Try.prog 52 #[] w fun e w' => ∃ A c, e = .returned (.slice A 5 c) ∧ IntsAt w' (.slice A 5 c) [2, 1, 1, 1, 1] ∧ Below w.heap.size w w' := by
  go_enter Try.func52, Try.ntmps52
  go_wp2
  go_ret
  exact ⟨_, _, rfl, ints_lies (c := 5) (l := [2, 1, 1, 1, 1]) (Lies.made w 3 #[.int .i64 2, .int .i64 1, .int .i64 1, .int .i64 1, .int .i64 1]) rfl, by exact BeL⟩
theorem exDraw {v : Value} {w : World} (h : RegAt w v exR) : Calls Try.prog 19 #[.agg #[v]] w fun e w' => ∃ A c, e = .returned (.tuple #[.slice A 5 c, .int .i64 0]) ∧ IntsAt w' (.slice A 5 c) [10, 20, 30, 40, 50] ∧ Below w.heap.size w w' := by
  have h2 : Calls Try.prog 19 #[.agg #[v]] w (DrawQ (layE exR) (if layE exR = 0 then numbersL exR else []) w) := sDrawings_any h
  rw [ex_lay, if_pos rfl, ex_numbers] at h2
  refine h2.mono ?_
  rintro e w' ⟨v, rfl, hi, hb⟩
  obtain ⟨A, c, rfl⟩ := hi.slice
  exact ⟨A, c, rfl, hi, hb⟩
theorem exExplode {v u : Value} {w : World} (h : RegAt w v exR) (hu : IntsAt w u [1, 1, 1, 1, 1]) : Calls Try.prog 32 #[.agg #[v], u, .int .i64 10] w fun e w' => ∃ A c, e = .returned (.tuple #[.slice A 2 c, .int .i64 0]) ∧ ItemsAt w' (.slice A 2 c) [(30, 7), (50, 2)] ∧ Below w.heap.size w w' := by
  have h2 := sExplode_any 10 h hu (by decide)
  rw [ex_ask1, ex_expl1] at h2
  refine h2.mono ?_
  rintro e w' ⟨v, rfl, hi, hb⟩
  have hi2 := hi
  obtain ⟨A, c, b, off, rfl, -⟩ := hi2
  exact ⟨A, c, rfl, hi, hb⟩
theorem exTree {v u : Value} {w : World} (h : RegAt w v exR) (hu : IntsAt w u [1, 1, 2, 1, 1]) : Calls Try.prog 34 #[.agg #[v], u, .int .i64 10] w fun e w' => ∃ A c, e = .returned (.tuple #[.slice A 5 c, .int .i64 0]) ∧ BranchesAt w' (.slice A 5 c) [(0, 10, 1, 1), (1, 20, 1, 2), (2, 30, 2, 3), (2, 50, 1, 1), (1, 30, 2, 1)] ∧ Below w.heap.size w w' := by
  have h2 := sTree_any 10 h hu (by decide)
  rw [ex_tree] at h2
  refine h2.mono ?_
  rintro e w' ⟨v, rfl, hi, hb⟩
  obtain ⟨A, c, rfl⟩ := hi.slice
  exact ⟨A, c, rfl, hi, hb⟩
theorem exUses {v : Value} {w : World} (h : RegAt w v exR) : Calls Try.prog 38 #[.agg #[v], .int .i64 30] w fun e w' => ∃ A c, e = .returned (.tuple #[.slice A 3 c, .int .i64 0]) ∧ RefsAt w' (.slice A 3 c) [(10, 1), (10, 2), (20, 1)] ∧ Below w.heap.size w w' := by
  have h2 := sUses_any 30 h
  rw [ex_uses] at h2
  refine h2.mono ?_
  rintro e w' ⟨v, rfl, hi, hb⟩
  obtain ⟨A, c, rfl⟩ := hi.slice
  exact ⟨A, c, rfl, hi, hb⟩
theorem exAbove {v u : Value} {w : World} (h : RegAt w v exR) (hu : IntsAt w u [2, 1, 1, 1, 1]) : Calls Try.prog 40 #[.agg #[v], u, .int .i64 40] w fun e w' => ∃ A c, e = .returned (.tuple #[.slice A 1 c, .int .i64 0]) ∧ IntsAt w' (.slice A 1 c) [10] ∧ Below w.heap.size w w' := by
  have h2 := sAbove_any 40 h hu (by decide)
  rw [ex_above] at h2
  refine h2.mono ?_
  rintro e w' ⟨v, rfl, hi, hb⟩
  obtain ⟨A, c, rfl⟩ := hi.slice
  exact ⟨A, c, rfl, hi, hb⟩
theorem exDiffer {v : Value} {w : World} (h : RegAt w v exR) : Calls Try.prog 43 #[.agg #[v], .int .i64 10, .int .i64 1, .int .i64 2] w fun e w' => ∃ A c B d, e = .returned (.tuple #[.slice A 3 c, .slice B 0 d, .int .i64 0]) ∧ ChangesAt w' (.slice A 3 c) [(20, 2, 1), (30, 1, 2), (40, 0, 2)] ∧ Below w.heap.size w w' := by
  have h2 := sDiffer_any 10 1 2 h
  rw [ex_differ] at h2
  refine h2.mono ?_
  rintro e w' ⟨v, u, rfl, hi, hj, hb⟩
  obtain ⟨A, c, rfl⟩ := hi.slice
  obtain ⟨B, d, rfl⟩ := hj.slice
  exact ⟨A, c, B, d, rfl, hi, hb⟩
theorem exDepth {v : Value} {w : World} (h : RegAt w v exR) : Calls Try.prog 28 #[.agg #[v], .int .i64 10] w fun e w' => e = .returned (.tuple #[.int .i64 3, .int .i64 0]) ∧ Below w.heap.size w w' := by
  have h2 := sDepth_any 10 h
  rw [ex_depth] at h2
  exact h2
theorem exLast {v : Value} {w : World} (h : RegAt w v exR) : Calls Try.prog 21 #[.agg #[v], .int .i64 30] w fun e w' => e = .returned (.tuple #[.int .i64 2, .int .i64 0]) ∧ Below w.heap.size w w' := by
  have h2 := sLast_any 30 h
  rw [ex_last] at h2
  exact h2
theorem exAt {v : Value} {w : World} (h : RegAt w v exR) : Calls Try.prog 26 #[.agg #[v], .agg #[.int .i64 30, .int .i64 2]] w fun e w' => ∃ A3 c3 A4 c4, e = .returned (.tuple #[.agg #[.int .i64 30, .int .i64 2, .int .u8 2, .slice A3 0 c3, .slice A4 1 c4], .int .i64 0]) ∧ ItemsAt w' (.slice A3 0 c3) [] ∧ DimsAt w' (.slice A4 1 c4) [(150, 120, 200)] ∧ Below w.heap.size w w' := by
  refine (sAt_any 30 2 h).mono ?_
  intro e w' h3
  obtain ⟨y, x, ee, rfl, hy, haq, hb⟩ := at_yat h3 0 (Nat.zero_le _)
  have hx : x = ⟨30, 2, 2, [], [(150, 120, 200)]⟩ ∧ ee = 0 := by
    refine AtQ.one (xs := exR) (d := 30) (l := 2) (x := ⟨30, 2, 2, [], [(150, 120, 200)]⟩) (ee := 0) (.inr (.inr ⟨ex_lay, ⟨4, by decide⟩, ⟨rfl, rfl⟩, ?_, rfl, rfl⟩)) haq
    intro j hj
    have hj2 : j.1 = 0 ∨ j.1 = 1 ∨ j.1 = 2 ∨ j.1 = 3 := by simp only at hj; omega
    obtain ⟨j, hj3⟩ := j
    simp only at hj2
    rcases hj2 with rfl | rfl | rfl | rfl
    · exact fun (h : (10 : Int) = 30 ∧ (1 : Int) = 2) => absurd h.2 (by decide)
    · exact fun (h : (10 : Int) = 30 ∧ (2 : Int) = 2) => absurd h.1 (by decide)
    · exact fun (h : (20 : Int) = 30 ∧ (1 : Int) = 2) => absurd h.2 (by decide)
    · exact fun (h : (30 : Int) = 30 ∧ (1 : Int) = 2) => absurd h.2 (by decide)
  obtain ⟨rfl, rfl⟩ := hx
  obtain ⟨A3, c3, g3, A4, c4, g4, rfl, h1, h2, -, -⟩ := hy
  exact ⟨A3, c3, A4, c4, rfl, h1, h2, hb⟩
theorem exMerge {A B : Option Addr} {c d : Nat} {w : World} (h : RegAt w (.slice A exR.length c) exR) (h2 : RegAt w (.slice B exR.length d) exR) (hc : exR.length ≤ c) (hd : exR.length ≤ d) : Calls Try.prog 48 #[.agg #[.slice A exR.length c], .agg #[.slice B exR.length d]] w fun e w' => ∃ A c, e = .returned (.tuple #[.agg #[.slice A exR.length c], .int .i64 0]) ∧ RegAt w' (.slice A exR.length c) exR ∧ Below w.heap.size w w' := by
  have h3 := sMerge_any h h2 (capOfx hc) (capOfx hd)
  rw [ex_merge] at h3
  refine h3.mono ?_
  rintro e w' ⟨v, rs, rfl, ho, hm, hb⟩
  simp only at hm
  have hl : rs.length = exR.length := by rw [← hm, List.length_map]
  have hr := ho.reg (by rw [hl]; decide) (by rw [hm]; decide)
  rw [hm] at hr
  obtain ⟨A, c, g, rfl, -, -⟩ := ho.form
  rw [hl] at hr ⊢
  exact ⟨A, c, rfl, hr, hb⟩
theorem rSameInts_t {l : List Int} {u v : Value} {w : World} (h1 : IntsAt w u l) (h2 : IntsAt w v l) (hl : l.length ≤ 1000) : Calls Try.prog 25 #[u, v] w fun e w' => e = .returned (.bool true) ∧ Below w.heap.size w w' := by
  have := rSameInts_v h1 h2 hl hl
  rw [decide_eq_true rfl] at this
  exact this
theorem rSameItems_t {l : List (Int × Int)} {u v : Value} {w : World} (h1 : ItemsAt w u l) (h2 : ItemsAt w v l) (hl : l.length ≤ 1000) : Calls Try.prog 36 #[u, v] w fun e w' => e = .returned (.bool true) ∧ Below w.heap.size w w' := by
  have := rSameItems_v h1 h2 hl hl
  rw [decide_eq_true rfl] at this
  exact this
theorem rSameBranches_t {l : List (Int × Int × Int × Int)} {u v : Value} {w : World} (h1 : BranchesAt w u l) (h2 : BranchesAt w v l) (hl : l.length ≤ 1000) : Calls Try.prog 37 #[u, v] w fun e w' => e = .returned (.bool true) ∧ Below w.heap.size w w' := by
  have := rSameBranches_v h1 h2 hl hl
  rw [decide_eq_true rfl] at this
  exact this
theorem rSameChanges_t {l : List (Int × Int × Int)} {u v : Value} {w : World} (h1 : ChangesAt w u l) (h2 : ChangesAt w v l) (hl : l.length ≤ 1000) : Calls Try.prog 45 #[u, v] w fun e w' => e = .returned (.bool true) ∧ Below w.heap.size w w' := by
  have := rSameChanges_v h1 h2 hl hl
  rw [decide_eq_true rfl] at this
  exact this
end
end Go.Proofs.Ytkjfceajakhlfaa
