/- The law SizeBoth: the walk. -/
import Derived.Test.YtldjkdomklgmaaaDoorF7
import Derived.Test.YtldjkdomklgmaaaDoorT5
import Derived.Deep.DeepCutAuto
import Derived.Deep.CutRange
namespace Go.Proofs.YtldjkdomklgmaaaDoor
set_option linter.unusedVariables false
set_option linter.unusedSimpArgs false
open Go.RowKit

def SomeD (w : World) (e : Ending) (w' : World) : Prop := ∃ a b c : Int, e = .returned (.agg #[.int .i64 a, .int .i64 b, .int .i64 c]) ∧ Below w.heap.size w w'
theorem dim_some (n l u : Int) (w : World) : Calls Tryd.prog 16 #[.int .i64 n, .int .i64 l, .int .i64 u] w (SomeD w) := (dim_any n l u w).mono fun e w' h => ⟨n, l, u, h.1, h.2⟩
theorem conv_exact {un st n l u : Int} (hun : (st = 100 ∧ un = 1) ∨ (st = 254 ∧ un = 2)) (h : okD n l u = true) (hx : exactS st n l u = true) : convS un n l u = ((n, l, u), 0) := by
  have hst : st = 100 ∨ st = 254 := by omega
  obtain ⟨e1, e2, e3⟩ := (exactS_iff hst h).1 hx
  have hs : stepU un = st := by rcases hun with ⟨rfl, rfl⟩ | ⟨rfl, rfl⟩ <;> rfl
  obtain ⟨-, -, -, h4, -⟩ := okD_iff.1 h
  obtain ⟨x, y, z, e, hv, ⟨rfl, hx, hy, hz, hyz, hok⟩ | ⟨rfl, rfl, rfl, rfl, hx⟩⟩ := conv_spec (un := un) (by omega) h
  · rw [hv, hx, hy, hz, hs, e1, e2, e3]
  · rw [hs, e2, e3] at hx; omega
theorem write_facts {un st n l u : Int} (hun : (st = 100 ∧ un = 1) ∨ (st = 254 ∧ un = 2)) (h : okD n l u = true) : (exactS st n l u = true ∧ ∃ t, writeS un n l u = (t, 0)) ∨ (exactS st n l u = false ∧ ∃ t, writeS un n l u = (t, 12)) := by
  cases hx : exactS st n l u <;> rcases hun with ⟨rfl, rfl⟩ | ⟨rfl, rfl⟩
  · exact .inr ⟨rfl, [], by unfold writeS; rw [if_neg (by rw [h]; simp), if_pos rfl, if_neg (by rw [hx]; simp)]⟩
  · exact .inr ⟨rfl, [], by unfold writeS; rw [if_neg (by rw [h]; simp), if_neg (by decide), if_pos rfl, if_neg (by rw [hx]; simp)]⟩
  · exact .inl ⟨rfl, _, by unfold writeS; rw [if_neg (by rw [h]; simp), if_pos rfl, if_pos hx]⟩
  · exact .inl ⟨rfl, _, by unfold writeS; rw [if_neg (by rw [h]; simp), if_neg (by decide), if_pos rfl, if_pos hx]⟩
/-- What is known of a valid size in both units: its units E, and what Convert and Write return. -/
theorem both_facts {n l u : Int} (h : okD n l u = true) : ∃ E x1 y1 z1 e1 t1 g1 x2 y2 z2 e2 t2 g2, exactR n l u = (E, 0) ∧ convS 1 n l u = ((x1, y1, z1), e1) ∧ writeS 1 n l u = (t1, g1) ∧ convS 2 n l u = ((x2, y2, z2), e2) ∧ writeS 2 n l u = (t2, g2) ∧
    ((E = 3 ∧ n % 12700 = 0 ∧ l % 12700 = 0 ∧ u % 12700 = 0 ∧ x1 = n ∧ y1 = l ∧ z1 = u ∧ e1 = 0 ∧ g1 = 0 ∧ x2 = n ∧ y2 = l ∧ z2 = u ∧ e2 = 0 ∧ g2 = 0) ∨
     (E = 1 ∧ ¬ (n % 12700 = 0 ∧ l % 12700 = 0 ∧ u % 12700 = 0) ∧ x1 = n ∧ y1 = l ∧ z1 = u ∧ e1 = 0 ∧ g1 = 0 ∧ g2 = 12) ∨
     (E = 2 ∧ ¬ (n % 12700 = 0 ∧ l % 12700 = 0 ∧ u % 12700 = 0) ∧ x2 = n ∧ y2 = l ∧ z2 = u ∧ e2 = 0 ∧ g2 = 0 ∧ g1 = 12) ∨
     (E = 0 ∧ ¬ (n % 12700 = 0 ∧ l % 12700 = 0 ∧ u % 12700 = 0) ∧ g1 = 12 ∧ g2 = 12)) := by
  have hR : exactR n l u = (exactU n l u, 0) := by unfold exactR; rw [h]; rfl
  obtain ⟨⟨⟨x1, y1, z1⟩, e1⟩, hv1⟩ : ∃ r, convS 1 n l u = r := ⟨_, rfl⟩
  obtain ⟨⟨⟨x2, y2, z2⟩, e2⟩, hv2⟩ : ∃ r, convS 2 n l u = r := ⟨_, rfl⟩
  obtain ⟨⟨t1, g1⟩, hw1⟩ : ∃ r, writeS 1 n l u = r := ⟨_, rfl⟩
  obtain ⟨⟨t2, g2⟩, hw2⟩ : ∃ r, writeS 2 n l u = r := ⟨_, rfl⟩
  refine ⟨_, x1, y1, z1, e1, t1, g1, x2, y2, z2, e2, t2, g2, hR, hv1, hw1, hv2, hw2, ?_⟩
  have f1 := write_facts (un := 1) (st := 100) (.inl ⟨rfl, rfl⟩) h
  have f2 := write_facts (un := 2) (st := 254) (.inr ⟨rfl, rfl⟩) h
  rw [hw1] at f1
  rw [hw2] at f2
  have c1 := conv_exact (un := 1) (st := 100) (.inl ⟨rfl, rfl⟩) h
  have c2 := conv_exact (un := 2) (st := 254) (.inr ⟨rfl, rfl⟩) h
  rw [hv1] at c1
  rw [hv2] at c2
  have d1 : exactS 100 n l u = true ↔ (n % 100 = 0 ∧ l % 100 = 0 ∧ u % 100 = 0) := by simp [exactS]
  have d2 : exactS 254 n l u = true ↔ (n % 254 = 0 ∧ l % 254 = 0 ∧ u % 254 = 0) := by simp [exactS]
  simp only [Prod.mk.injEq] at f1 f2 c1 c2
  rcases exactU_cases n l u with ⟨a, b, e⟩ | ⟨a, b, e⟩ | ⟨a, b, e⟩ | ⟨a, b, e⟩ <;> rw [e] <;> rw [a] at f1 c1 d1 <;> rw [b] at f2 c2 d2 <;> simp at f1 f2 c1 c2 d1 d2
  · obtain ⟨⟨rfl, rfl, rfl⟩, rfl⟩ := c1
    obtain ⟨⟨rfl, rfl, rfl⟩, rfl⟩ := c2
    refine .inl ⟨rfl, by omega, by omega, by omega, rfl, rfl, rfl, rfl, by omega, rfl, rfl, rfl, rfl, by omega⟩
  · obtain ⟨⟨rfl, rfl, rfl⟩, rfl⟩ := c1
    refine .inr (.inl ⟨rfl, by omega, rfl, rfl, rfl, rfl, by omega, by omega⟩)
  · obtain ⟨⟨rfl, rfl, rfl⟩, rfl⟩ := c2
    refine .inr (.inr (.inl ⟨rfl, by omega, rfl, rfl, rfl, rfl, by omega, by omega⟩))
  · refine .inr (.inr (.inr ⟨rfl, by omega, by omega, by omega⟩))

set_option maxHeartbeats 8000000 in
set_option maxRecDepth 100000 in
theorem both_no (n l u : Int) (w : World) (he : Env w) :
    Calls Tryd.prog 7 #[.agg #[.int .i64 n, .int .i64 l, .int .i64 u], .bool false] w (Trues w) := by
  have HE := Lib.hid (fun W (hW : Below w.heap.size w W) => he.after hW)
  clear he
  go_enter Tryd.func7, Tryd.ntmps7
  go_wp2_with fail
  refine (alive_any _ (HE.out _ (by (repeat' (first | (with_reducible exact Below.refl _ _) | (with_reducible assumption) | (with_reducible refine Below.alloc ?_ ?_ _) | (with_reducible refine Below.setCell ?_ ?_ _) | (with_reducible refine below_row ?_ ?_ _) | (with_reducible refine Below.drew ?_) | (with_reducible refine below_drewN ?_ _) | (with_reducible refine Below.trans ?_ (Below.mono (by assumption) ?_)) | (first | exact Nat.le_refl _ | omega | (simp; done) | (simp; omega))))))).mono ?_
  rintro _ w1 ⟨rfl, hb1⟩
  have s1 := hb1.size; try simp only [World.size_alloc, World.size_setCell, World.size_drew, setRow_size] at s1
  have B1 : Below w.heap.size w w1 := by (repeat' (first | (with_reducible exact Below.refl _ _) | (with_reducible assumption) | (with_reducible refine Below.alloc ?_ ?_ _) | (with_reducible refine Below.setCell ?_ ?_ _) | (with_reducible refine below_row ?_ ?_ _) | (with_reducible refine Below.drew ?_) | (with_reducible refine below_drewN ?_ _) | (with_reducible refine Below.trans ?_ (Below.mono (by assumption) ?_)) | (first | exact Nat.le_refl _ | omega | (simp; done) | (simp; omega))))
  have HP_1 := Lib.hid (show Lies w1 _ 28 #[.int .i64 n, .int .i64 l, .int .i64 u] from (by first | exact (Lies.made w 28 #[.int .i64 n, .int .i64 l, .int .i64 u]).after hb1 | exact ((Lies.made w 28 #[.int .i64 n, .int .i64 l, .int .i64 u]).alloc _).after hb1 | exact (((Lies.made w 28 #[.int .i64 n, .int .i64 l, .int .i64 u]).alloc _).alloc _).after hb1))
  have A1 : Below w.heap.size w w1 := B1
  clear hb1 B1
  obtain ⟨A, rfl⟩ : ∃ A, A = n := ⟨_, rfl⟩
  obtain ⟨B, rfl⟩ : ∃ B, B = l := ⟨_, rfl⟩
  obtain ⟨C, rfl⟩ : ∃ C, C = u := ⟨_, rfl⟩
  cases h : okD A B C
  · have HD := Lib.hid (fun W => h ▸ rDim_any A B C W)
    clear h
    have qP0 := HP_1.out.cell 0
    have qP1 := HP_1.out.cell 1
    have qP2 := HP_1.out.cell 2
    have zP := HP_1.out.lt
    go_wp2_with fail
    refine (HD.out _).mono ?_
    rintro _ w2 ⟨rfl, hb2⟩
    have s2 := hb2.size; try simp only [World.size_alloc, World.size_setCell, World.size_drew, setRow_size] at s2
    clear qP0 qP1 qP2 zP
    have B2 : Below w1.heap.size w1 w2 := by (repeat' (first | (with_reducible exact Below.refl _ _) | (with_reducible assumption) | (with_reducible refine Below.alloc ?_ ?_ _) | (with_reducible refine Below.setCell ?_ ?_ _) | (with_reducible refine below_row ?_ ?_ _) | (with_reducible refine Below.drew ?_) | (with_reducible refine below_drewN ?_ _) | (with_reducible refine Below.trans ?_ (Below.mono (by assumption) ?_)) | (first | exact Nat.le_refl _ | omega | (simp; done) | (simp; omega))))
    have HP_2 := Lib.hid (HP_1.out.after B2)
    clear HP_1
    have A2 : Below w.heap.size w w2 := A1.trans (B2.mono A1.size)
    clear A1 hb2 B2
    go_wp2
    go_ret
    exact ⟨rfl, by (repeat' (first | (with_reducible exact Below.refl _ _) | (with_reducible assumption) | (with_reducible refine Below.alloc ?_ ?_ _) | (with_reducible refine Below.setCell ?_ ?_ _) | (with_reducible refine below_row ?_ ?_ _) | (with_reducible refine Below.drew ?_) | (with_reducible refine below_drewN ?_ _) | (with_reducible refine Below.trans ?_ (Below.mono (by assumption) ?_)) | (first | exact Nat.le_refl _ | omega | (simp; done) | (simp; omega))))⟩
  have HD := Lib.hid (fun W => h ▸ rDim_any A B C W)
  obtain ⟨E, x1, y1, z1, e1, t1, g1, x2, y2, z2, e2, t2, g2, hR, hv1, hw1, hv2, hw2, hc⟩ := both_facts h
  have HX := Lib.hid (fun W => hR ▸ Exact_any A B C W)
  have HV1 := Lib.hid (fun W => hv1 ▸ Convert_any 1 A B C W)
  have HV2 := Lib.hid (fun W => hv2 ▸ Convert_any 2 A B C W)
  have HW1 := Lib.hid (fun W hW => hw1 ▸ Write_any 1 A B C W (HE.out W hW))
  have HW2 := Lib.hid (fun W hW => hw2 ▸ Write_any 2 A B C W (HE.out W hW))
  obtain ⟨n0, n1, l0, lu, u1⟩ := okD_iff.1 h
  clear h hR hv1 hw1 hv2 hw2
  generalize bs t1 = T1 at *
  generalize bs t2 = T2 at *
  have qP0 := HP_1.out.cell 0
  have qP1 := HP_1.out.cell 1
  have qP2 := HP_1.out.cell 2
  have zP := HP_1.out.lt
  go_wp2_with fail
  refine (HD.out _).mono ?_
  rintro _ w2 ⟨rfl, hb2⟩
  have s2 := hb2.size; try simp only [World.size_alloc, World.size_setCell, World.size_drew, setRow_size] at s2
  clear qP0 qP1 qP2 zP
  have B2 : Below w1.heap.size w1 w2 := by (repeat' (first | (with_reducible exact Below.refl _ _) | (with_reducible assumption) | (with_reducible refine Below.alloc ?_ ?_ _) | (with_reducible refine Below.setCell ?_ ?_ _) | (with_reducible refine below_row ?_ ?_ _) | (with_reducible refine Below.drew ?_) | (with_reducible refine below_drewN ?_ _) | (with_reducible refine Below.trans ?_ (Below.mono (by assumption) ?_)) | (first | exact Nat.le_refl _ | omega | (simp; done) | (simp; omega))))
  have HP_2 := Lib.hid (HP_1.out.after B2)
  clear HP_1
  have A2 : Below w.heap.size w w2 := A1.trans (B2.mono A1.size)
  clear A1 hb2 B2
  have qP0 := HP_2.out.cell 0
  have qP1 := HP_2.out.cell 1
  have qP2 := HP_2.out.cell 2
  have zP := HP_2.out.lt
  go_wp2_with fail
  refine (HX.out _).mono ?_
  rintro _ w3 ⟨rfl, hb3⟩
  have s3 := hb3.size; try simp only [World.size_alloc, World.size_setCell, World.size_drew, setRow_size] at s3
  clear qP0 qP1 qP2 zP
  have B3 : Below w2.heap.size w2 w3 := by (repeat' (first | (with_reducible exact Below.refl _ _) | (with_reducible assumption) | (with_reducible refine Below.alloc ?_ ?_ _) | (with_reducible refine Below.setCell ?_ ?_ _) | (with_reducible refine below_row ?_ ?_ _) | (with_reducible refine Below.drew ?_) | (with_reducible refine below_drewN ?_ _) | (with_reducible refine Below.trans ?_ (Below.mono (by assumption) ?_)) | (first | exact Nat.le_refl _ | omega | (simp; done) | (simp; omega))))
  have HP_3 := Lib.hid (HP_2.out.after B3)
  clear HP_2
  have A3 : Below w.heap.size w w3 := A2.trans (B3.mono A2.size)
  clear A2 hb3 B3
  have qP0 := HP_3.out.cell 0
  have qP1 := HP_3.out.cell 1
  have qP2 := HP_3.out.cell 2
  have zP := HP_3.out.lt
  have hb : (∃ c : Bool, c = decide (A % 12700 = 0 ∧ B % 12700 = 0 ∧ C % 12700 = 0)) := ⟨_, rfl⟩
  obtain ⟨c, hb⟩ := hb
  have Hc := Lib.hid hb
  clear hb
  have HH := Lib.hid hc
  clear hc
  go_upto_region 7 with fail
  go_cut [8] from 42 to 57 (fun s8 wx => s8 = .bool c ∧ wx = w3)
  case first =>
    have g0 : ((A % 12700) == 0) = true ∨ ((A % 12700) == 0) = false := by cases ((A % 12700) == 0) <;> simp
    have g1 : ((B % 12700) == 0) = true ∨ ((B % 12700) == 0) = false := by cases ((B % 12700) == 0) <;> simp
    have g2 : ((C % 12700) == 0) = true ∨ ((C % 12700) == 0) = false := by cases ((C % 12700) == 0) <;> simp
    rcases g0 with g0 | g0 <;> rcases g1 with g1 | g1 <;> rcases g2 with g2 | g2
    all_goals
      go_wp2
      go_meet
      refine ⟨?_, rfl⟩
      rw [Hc.out]
      simp only [beq_iff_eq, beq_eq_false_iff_ne] at g0 g1 g2
      simp [g0, g1, g2]
  case rest =>
    obtain ⟨rfl, rfl⟩ := hcut
    have hc := HH.out
    clear HH
    have hcc : (E = 3 ∧ c = true ∧ x1 = A ∧ y1 = B ∧ z1 = C ∧ e1 = 0 ∧ g1 = 0 ∧ x2 = A ∧ y2 = B ∧ z2 = C ∧ e2 = 0 ∧ g2 = 0) ∨ (E = 1 ∧ c = false ∧ x1 = A ∧ y1 = B ∧ z1 = C ∧ e1 = 0 ∧ g1 = 0 ∧ g2 = 12) ∨ (E = 2 ∧ c = false ∧ x2 = A ∧ y2 = B ∧ z2 = C ∧ e2 = 0 ∧ g2 = 0 ∧ g1 = 12) ∨ (E = 0 ∧ c = false ∧ g1 = 12 ∧ g2 = 12) := by
      rw [Hc.out]
      rcases hc with ⟨a, b1, b2, b3, h⟩ | ⟨a, b, h⟩ | ⟨a, b, h⟩ | ⟨a, b, h⟩
      · exact .inl ⟨a, decide_eq_true ⟨b1, b2, b3⟩, h⟩
      · exact .inr (.inl ⟨a, decide_eq_false b, h⟩)
      · exact .inr (.inr (.inl ⟨a, decide_eq_false b, h⟩))
      · exact .inr (.inr (.inr ⟨a, decide_eq_false b, h⟩))
    clear hc Hc
    rcases hcc with ⟨rfl, rfl, rfl, rfl, rfl, rfl, rfl, rfl, rfl, rfl, rfl, rfl⟩ | ⟨rfl, rfl, rfl, rfl, rfl, rfl, rfl, rfl⟩ | ⟨rfl, rfl, rfl, rfl, rfl, rfl, rfl, rfl⟩ | ⟨rfl, rfl, rfl, rfl⟩
    all_goals
      go_wp2_with fail
      go_loopw [9] (fun i wr => ∃ k : Int, 1 ≤ k ∧ k ≤ 3 ∧ i = .int .u8 k ∧ Hid (Lies wr w.heap.size 28 #[.int .i64 _, .int .i64 _, .int .i64 _]) ∧ Below w.heap.size w wr) (fun i _ => (3 - intOf i).toNat)
      case atStart => exact ⟨1, by omega, by omega, rfl, HP_3, A3⟩
      case round =>
        obtain ⟨k, k0, k1, rfl, HL, BL⟩ := hrel
        obtain ⟨w50, rfl⟩ : ∃ v : World, v = wr := ⟨_, rfl⟩
        have HP_50 := Lib.hid HL.out
        have A50 := BL
        have hk : k = 1 ∨ k = 2 ∨ k = 3 := by omega
        clear HL BL HP_3 A3 k0 k1
        rcases hk with rfl | rfl | rfl
        · have qP0 := HP_50.out.cell 0
          have qP1 := HP_50.out.cell 1
          have qP2 := HP_50.out.cell 2
          have zP := HP_50.out.lt
          go_wp2_with fail
          refine (HV1.out _).mono ?_
          rintro _ w51 ⟨rfl, hb51⟩
          have s51 := hb51.size; try simp only [World.size_alloc, World.size_setCell, World.size_drew, setRow_size] at s51
          clear qP0 qP1 qP2 zP
          have B51 : Below w50.heap.size w50 w51 := by (repeat' (first | (with_reducible exact Below.refl _ _) | (with_reducible assumption) | (with_reducible refine Below.alloc ?_ ?_ _) | (with_reducible refine Below.setCell ?_ ?_ _) | (with_reducible refine below_row ?_ ?_ _) | (with_reducible refine Below.drew ?_) | (with_reducible refine below_drewN ?_ _) | (with_reducible refine Below.trans ?_ (Below.mono (by assumption) ?_)) | (first | exact Nat.le_refl _ | omega | (simp; done) | (simp; omega))))
          have HP_51 := Lib.hid (HP_50.out.after B51)
          clear HP_50
          have A51 : Below w.heap.size w w51 := A50.trans (B51.mono A50.size)
          clear A50 hb51 B51
          have qP0 := HP_51.out.cell 0
          have qP1 := HP_51.out.cell 1
          have qP2 := HP_51.out.cell 2
          have zP := HP_51.out.lt
          go_wp2_with fail
          refine (HW1.out _ (A51.trans (Below.mono (by (repeat' (first | (with_reducible exact Below.refl _ _) | (with_reducible assumption) | (with_reducible refine Below.alloc ?_ ?_ _) | (with_reducible refine Below.setCell ?_ ?_ _) | (with_reducible refine below_row ?_ ?_ _) | (with_reducible refine Below.drew ?_) | (with_reducible refine below_drewN ?_ _) | (with_reducible refine Below.trans ?_ (Below.mono (by assumption) ?_)) | (first | exact Nat.le_refl _ | omega | (simp; done) | (simp; omega))))) A51.size))).mono ?_
          rintro _ w52 ⟨rfl, hb52⟩
          have s52 := hb52.size; try simp only [World.size_alloc, World.size_setCell, World.size_drew, setRow_size] at s52
          clear qP0 qP1 qP2 zP
          have B52 : Below w51.heap.size w51 w52 := by (repeat' (first | (with_reducible exact Below.refl _ _) | (with_reducible assumption) | (with_reducible refine Below.alloc ?_ ?_ _) | (with_reducible refine Below.setCell ?_ ?_ _) | (with_reducible refine below_row ?_ ?_ _) | (with_reducible refine Below.drew ?_) | (with_reducible refine below_drewN ?_ _) | (with_reducible refine Below.trans ?_ (Below.mono (by assumption) ?_)) | (first | exact Nat.le_refl _ | omega | (simp; done) | (simp; omega))))
          have HP_52 := Lib.hid (HP_51.out.after B52)
          have HX_52 := Lib.hid (show Lies w52 _ 28 #[.int .i64 _, .int .i64 _, .int .i64 _] from (by first | exact (Lies.made w51 28 #[.int .i64 _, .int .i64 _, .int .i64 _]).after hb52 | exact ((Lies.made w51 28 #[.int .i64 _, .int .i64 _, .int .i64 _]).alloc _).after hb52 | exact (((Lies.made w51 28 #[.int .i64 _, .int .i64 _, .int .i64 _]).alloc _).alloc _).after hb52))
          clear HP_51
          have A52 : Below w.heap.size w w52 := A51.trans (B52.mono A51.size)
          clear A51 hb52 B52
          have qP0 := HP_52.out.cell 0
          have qP1 := HP_52.out.cell 1
          have qP2 := HP_52.out.cell 2
          have qX0 := HX_52.out.cell 0
          have qX1 := HX_52.out.cell 1
          have qX2 := HX_52.out.cell 2
          have zP := HP_52.out.lt
          have zX := HX_52.out.lt
          go_wp2_with fail
          go_roundw
          case rel => exact ⟨2, by omega, by omega, rfl, HP_52, by (repeat' (first | (with_reducible exact Below.refl _ _) | (with_reducible assumption) | (with_reducible refine Below.alloc ?_ ?_ _) | (with_reducible refine Below.setCell ?_ ?_ _) | (with_reducible refine below_row ?_ ?_ _) | (with_reducible refine Below.drew ?_) | (with_reducible refine below_drewN ?_ _) | (with_reducible refine Below.trans ?_ (Below.mono (by assumption) ?_)) | (first | exact Nat.le_refl _ | omega | (simp; done) | (simp; omega))))⟩
          case measure => simp [intOf]
        · have qP0 := HP_50.out.cell 0
          have qP1 := HP_50.out.cell 1
          have qP2 := HP_50.out.cell 2
          have zP := HP_50.out.lt
          go_wp2_with fail
          refine (HV2.out _).mono ?_
          rintro _ w51 ⟨rfl, hb51⟩
          have s51 := hb51.size; try simp only [World.size_alloc, World.size_setCell, World.size_drew, setRow_size] at s51
          clear qP0 qP1 qP2 zP
          have B51 : Below w50.heap.size w50 w51 := by (repeat' (first | (with_reducible exact Below.refl _ _) | (with_reducible assumption) | (with_reducible refine Below.alloc ?_ ?_ _) | (with_reducible refine Below.setCell ?_ ?_ _) | (with_reducible refine below_row ?_ ?_ _) | (with_reducible refine Below.drew ?_) | (with_reducible refine below_drewN ?_ _) | (with_reducible refine Below.trans ?_ (Below.mono (by assumption) ?_)) | (first | exact Nat.le_refl _ | omega | (simp; done) | (simp; omega))))
          have HP_51 := Lib.hid (HP_50.out.after B51)
          clear HP_50
          have A51 : Below w.heap.size w w51 := A50.trans (B51.mono A50.size)
          clear A50 hb51 B51
          have qP0 := HP_51.out.cell 0
          have qP1 := HP_51.out.cell 1
          have qP2 := HP_51.out.cell 2
          have zP := HP_51.out.lt
          go_wp2_with fail
          refine (HW2.out _ (A51.trans (Below.mono (by (repeat' (first | (with_reducible exact Below.refl _ _) | (with_reducible assumption) | (with_reducible refine Below.alloc ?_ ?_ _) | (with_reducible refine Below.setCell ?_ ?_ _) | (with_reducible refine below_row ?_ ?_ _) | (with_reducible refine Below.drew ?_) | (with_reducible refine below_drewN ?_ _) | (with_reducible refine Below.trans ?_ (Below.mono (by assumption) ?_)) | (first | exact Nat.le_refl _ | omega | (simp; done) | (simp; omega))))) A51.size))).mono ?_
          rintro _ w52 ⟨rfl, hb52⟩
          have s52 := hb52.size; try simp only [World.size_alloc, World.size_setCell, World.size_drew, setRow_size] at s52
          clear qP0 qP1 qP2 zP
          have B52 : Below w51.heap.size w51 w52 := by (repeat' (first | (with_reducible exact Below.refl _ _) | (with_reducible assumption) | (with_reducible refine Below.alloc ?_ ?_ _) | (with_reducible refine Below.setCell ?_ ?_ _) | (with_reducible refine below_row ?_ ?_ _) | (with_reducible refine Below.drew ?_) | (with_reducible refine below_drewN ?_ _) | (with_reducible refine Below.trans ?_ (Below.mono (by assumption) ?_)) | (first | exact Nat.le_refl _ | omega | (simp; done) | (simp; omega))))
          have HP_52 := Lib.hid (HP_51.out.after B52)
          have HX_52 := Lib.hid (show Lies w52 _ 28 #[.int .i64 _, .int .i64 _, .int .i64 _] from (by first | exact (Lies.made w51 28 #[.int .i64 _, .int .i64 _, .int .i64 _]).after hb52 | exact ((Lies.made w51 28 #[.int .i64 _, .int .i64 _, .int .i64 _]).alloc _).after hb52 | exact (((Lies.made w51 28 #[.int .i64 _, .int .i64 _, .int .i64 _]).alloc _).alloc _).after hb52))
          clear HP_51
          have A52 : Below w.heap.size w w52 := A51.trans (B52.mono A51.size)
          clear A51 hb52 B52
          have qP0 := HP_52.out.cell 0
          have qP1 := HP_52.out.cell 1
          have qP2 := HP_52.out.cell 2
          have qX0 := HX_52.out.cell 0
          have qX1 := HX_52.out.cell 1
          have qX2 := HX_52.out.cell 2
          have zP := HP_52.out.lt
          have zX := HX_52.out.lt
          go_wp2_with fail
          go_roundw
          case rel => exact ⟨3, by omega, by omega, rfl, HP_52, by (repeat' (first | (with_reducible exact Below.refl _ _) | (with_reducible assumption) | (with_reducible refine Below.alloc ?_ ?_ _) | (with_reducible refine Below.setCell ?_ ?_ _) | (with_reducible refine below_row ?_ ?_ _) | (with_reducible refine Below.drew ?_) | (with_reducible refine below_drewN ?_ _) | (with_reducible refine Below.trans ?_ (Below.mono (by assumption) ?_)) | (first | exact Nat.le_refl _ | omega | (simp; done) | (simp; omega))))⟩
          case measure => simp [intOf]
        · go_wp2
          go_ret
          exact ⟨rfl, A50⟩
set_option maxHeartbeats 8000000 in
set_option maxRecDepth 100000 in
theorem both_yes (n l u : Int) (w : World) (he : Env w) :
    Calls Tryd.prog 7 #[.agg #[.int .i64 n, .int .i64 l, .int .i64 u], .bool true] w (Trues w) := by
  have HE := Lib.hid (fun W (hW : Below w.heap.size w W) => he.after hW)
  clear he
  go_enter Tryd.func7, Tryd.ntmps7
  go_wp2_with fail
  refine (alive_any _ (HE.out _ (by (repeat' (first | (with_reducible exact Below.refl _ _) | (with_reducible assumption) | (with_reducible refine Below.alloc ?_ ?_ _) | (with_reducible refine Below.setCell ?_ ?_ _) | (with_reducible refine below_row ?_ ?_ _) | (with_reducible refine Below.drew ?_) | (with_reducible refine below_drewN ?_ _) | (with_reducible refine Below.trans ?_ (Below.mono (by assumption) ?_)) | (first | exact Nat.le_refl _ | omega | (simp; done) | (simp; omega))))))).mono ?_
  rintro _ w1 ⟨rfl, hb1⟩
  have s1 := hb1.size; try simp only [World.size_alloc, World.size_setCell, World.size_drew, setRow_size] at s1
  have B1 : Below w.heap.size w w1 := by (repeat' (first | (with_reducible exact Below.refl _ _) | (with_reducible assumption) | (with_reducible refine Below.alloc ?_ ?_ _) | (with_reducible refine Below.setCell ?_ ?_ _) | (with_reducible refine below_row ?_ ?_ _) | (with_reducible refine Below.drew ?_) | (with_reducible refine below_drewN ?_ _) | (with_reducible refine Below.trans ?_ (Below.mono (by assumption) ?_)) | (first | exact Nat.le_refl _ | omega | (simp; done) | (simp; omega))))
  have HP_1 := Lib.hid (show Lies w1 _ 28 #[.int .i64 n, .int .i64 l, .int .i64 u] from (by first | exact (Lies.made w 28 #[.int .i64 n, .int .i64 l, .int .i64 u]).after hb1 | exact ((Lies.made w 28 #[.int .i64 n, .int .i64 l, .int .i64 u]).alloc _).after hb1 | exact (((Lies.made w 28 #[.int .i64 n, .int .i64 l, .int .i64 u]).alloc _).alloc _).after hb1))
  have A1 : Below w.heap.size w w1 := B1
  clear hb1 B1
  have qP0 := HP_1.out.cell 0
  have qP1 := HP_1.out.cell 1
  have qP2 := HP_1.out.cell 2
  have zP := HP_1.out.lt
  go_wp2_with fail
  refine (dim_some _ _ _ _).mono ?_
  rintro _ w2 ⟨A, B, C, rfl, hb2⟩
  have s2 := hb2.size; try simp only [World.size_alloc, World.size_setCell, World.size_drew, setRow_size] at s2
  clear qP0 qP1 qP2 zP
  have L2 := HP_1.out.after (show Below w1.heap.size w1 w2 from by (repeat' (first | (with_reducible exact Below.refl _ _) | (with_reducible assumption) | (with_reducible refine Below.alloc ?_ ?_ _) | (with_reducible refine Below.setCell ?_ ?_ _) | (with_reducible refine below_row ?_ ?_ _) | (with_reducible refine Below.drew ?_) | (with_reducible refine below_drewN ?_ _) | (with_reducible refine Below.trans ?_ (Below.mono (by assumption) ?_)) | (first | exact Nat.le_refl _ | omega | (simp; done) | (simp; omega)))))
  have B2 : Below w.heap.size w w2 := A1.trans (hb2.mono A1.size)
  have z2 := L2.lt
  have HP_2 := Lib.hid L2
  obtain ⟨q0, q1, q2, f0, f1, f2⟩ := L2.c3
  clear L2 HP_1 A1 hb2
  go_upto_region 4 with fail
  have LW : Lies (((w2.setCell ⟨w.heap.size, 0, none⟩ (.int .i64 A)).setCell ⟨w.heap.size, 1, none⟩ (.int .i64 B)).setCell ⟨w.heap.size, 2, none⟩ (.int .i64 C)) w.heap.size 28 #[.int .i64 A, .int .i64 B, .int .i64 C] := ((HP_2.out.store 0 _).store 1 _).store 2 _
  have A3 : Below w.heap.size w (((w2.setCell ⟨w.heap.size, 0, none⟩ (.int .i64 A)).setCell ⟨w.heap.size, 1, none⟩ (.int .i64 B)).setCell ⟨w.heap.size, 2, none⟩ (.int .i64 C)) := by (repeat' (first | (with_reducible exact Below.refl _ _) | (with_reducible assumption) | (with_reducible refine Below.alloc ?_ ?_ _) | (with_reducible refine Below.setCell ?_ ?_ _) | (with_reducible refine below_row ?_ ?_ _) | (with_reducible refine Below.drew ?_) | (with_reducible refine below_drewN ?_ _) | (with_reducible refine Below.trans ?_ (Below.mono (by assumption) ?_)) | (first | exact Nat.le_refl _ | omega | (simp; done) | (simp; omega))))
  generalize (((w2.setCell ⟨w.heap.size, 0, none⟩ (.int .i64 A)).setCell ⟨w.heap.size, 1, none⟩ (.int .i64 B)).setCell ⟨w.heap.size, 2, none⟩ (.int .i64 C)) = w3 at *
  have HP_3 := Lib.hid LW
  clear LW HP_2 B2 q0 q1 q2 f0 f1 f2 z2 s1 s2
  cases h : okD A B C
  · have HD := Lib.hid (fun W => h ▸ rDim_any A B C W)
    clear h
    have qP0 := HP_3.out.cell 0
    have qP1 := HP_3.out.cell 1
    have qP2 := HP_3.out.cell 2
    have zP := HP_3.out.lt
    go_wp2_with fail
    refine (HD.out _).mono ?_
    rintro _ w4 ⟨rfl, hb4⟩
    have s4 := hb4.size; try simp only [World.size_alloc, World.size_setCell, World.size_drew, setRow_size] at s4
    clear qP0 qP1 qP2 zP
    have B4 : Below w3.heap.size w3 w4 := by (repeat' (first | (with_reducible exact Below.refl _ _) | (with_reducible assumption) | (with_reducible refine Below.alloc ?_ ?_ _) | (with_reducible refine Below.setCell ?_ ?_ _) | (with_reducible refine below_row ?_ ?_ _) | (with_reducible refine Below.drew ?_) | (with_reducible refine below_drewN ?_ _) | (with_reducible refine Below.trans ?_ (Below.mono (by assumption) ?_)) | (first | exact Nat.le_refl _ | omega | (simp; done) | (simp; omega))))
    have HP_4 := Lib.hid (HP_3.out.after B4)
    clear HP_3
    have A4 : Below w.heap.size w w4 := A3.trans (B4.mono A3.size)
    clear A3 hb4 B4
    go_wp2
    go_ret
    exact ⟨rfl, by (repeat' (first | (with_reducible exact Below.refl _ _) | (with_reducible assumption) | (with_reducible refine Below.alloc ?_ ?_ _) | (with_reducible refine Below.setCell ?_ ?_ _) | (with_reducible refine below_row ?_ ?_ _) | (with_reducible refine Below.drew ?_) | (with_reducible refine below_drewN ?_ _) | (with_reducible refine Below.trans ?_ (Below.mono (by assumption) ?_)) | (first | exact Nat.le_refl _ | omega | (simp; done) | (simp; omega))))⟩
  have HD := Lib.hid (fun W => h ▸ rDim_any A B C W)
  obtain ⟨E, x1, y1, z1, e1, t1, g1, x2, y2, z2, e2, t2, g2, hR, hv1, hw1, hv2, hw2, hc⟩ := both_facts h
  have HX := Lib.hid (fun W => hR ▸ Exact_any A B C W)
  have HV1 := Lib.hid (fun W => hv1 ▸ Convert_any 1 A B C W)
  have HV2 := Lib.hid (fun W => hv2 ▸ Convert_any 2 A B C W)
  have HW1 := Lib.hid (fun W hW => hw1 ▸ Write_any 1 A B C W (HE.out W hW))
  have HW2 := Lib.hid (fun W hW => hw2 ▸ Write_any 2 A B C W (HE.out W hW))
  obtain ⟨n0, n1, l0, lu, u1⟩ := okD_iff.1 h
  clear h hR hv1 hw1 hv2 hw2
  generalize bs t1 = T1 at *
  generalize bs t2 = T2 at *
  have qP0 := HP_3.out.cell 0
  have qP1 := HP_3.out.cell 1
  have qP2 := HP_3.out.cell 2
  have zP := HP_3.out.lt
  go_wp2_with fail
  refine (HD.out _).mono ?_
  rintro _ w4 ⟨rfl, hb4⟩
  have s4 := hb4.size; try simp only [World.size_alloc, World.size_setCell, World.size_drew, setRow_size] at s4
  clear qP0 qP1 qP2 zP
  have B4 : Below w3.heap.size w3 w4 := by (repeat' (first | (with_reducible exact Below.refl _ _) | (with_reducible assumption) | (with_reducible refine Below.alloc ?_ ?_ _) | (with_reducible refine Below.setCell ?_ ?_ _) | (with_reducible refine below_row ?_ ?_ _) | (with_reducible refine Below.drew ?_) | (with_reducible refine below_drewN ?_ _) | (with_reducible refine Below.trans ?_ (Below.mono (by assumption) ?_)) | (first | exact Nat.le_refl _ | omega | (simp; done) | (simp; omega))))
  have HP_4 := Lib.hid (HP_3.out.after B4)
  clear HP_3
  have A4 : Below w.heap.size w w4 := A3.trans (B4.mono A3.size)
  clear A3 hb4 B4
  have qP0 := HP_4.out.cell 0
  have qP1 := HP_4.out.cell 1
  have qP2 := HP_4.out.cell 2
  have zP := HP_4.out.lt
  go_wp2_with fail
  refine (HX.out _).mono ?_
  rintro _ w5 ⟨rfl, hb5⟩
  have s5 := hb5.size; try simp only [World.size_alloc, World.size_setCell, World.size_drew, setRow_size] at s5
  clear qP0 qP1 qP2 zP
  have B5 : Below w4.heap.size w4 w5 := by (repeat' (first | (with_reducible exact Below.refl _ _) | (with_reducible assumption) | (with_reducible refine Below.alloc ?_ ?_ _) | (with_reducible refine Below.setCell ?_ ?_ _) | (with_reducible refine below_row ?_ ?_ _) | (with_reducible refine Below.drew ?_) | (with_reducible refine below_drewN ?_ _) | (with_reducible refine Below.trans ?_ (Below.mono (by assumption) ?_)) | (first | exact Nat.le_refl _ | omega | (simp; done) | (simp; omega))))
  have HP_5 := Lib.hid (HP_4.out.after B5)
  clear HP_4
  have A5 : Below w.heap.size w w5 := A4.trans (B5.mono A4.size)
  clear A4 hb5 B5
  have qP0 := HP_5.out.cell 0
  have qP1 := HP_5.out.cell 1
  have qP2 := HP_5.out.cell 2
  have zP := HP_5.out.lt
  have hb : (∃ c : Bool, c = decide (A % 12700 = 0 ∧ B % 12700 = 0 ∧ C % 12700 = 0)) := ⟨_, rfl⟩
  obtain ⟨c, hb⟩ := hb
  have Hc := Lib.hid hb
  clear hb
  have HH := Lib.hid hc
  clear hc
  go_upto_region 7 with fail
  go_cut [8] from 42 to 57 (fun s8 wx => s8 = .bool c ∧ wx = w5)
  case first =>
    have g0 : ((A % 12700) == 0) = true ∨ ((A % 12700) == 0) = false := by cases ((A % 12700) == 0) <;> simp
    have g1 : ((B % 12700) == 0) = true ∨ ((B % 12700) == 0) = false := by cases ((B % 12700) == 0) <;> simp
    have g2 : ((C % 12700) == 0) = true ∨ ((C % 12700) == 0) = false := by cases ((C % 12700) == 0) <;> simp
    rcases g0 with g0 | g0 <;> rcases g1 with g1 | g1 <;> rcases g2 with g2 | g2
    all_goals
      go_wp2
      go_meet
      refine ⟨?_, rfl⟩
      rw [Hc.out]
      simp only [beq_iff_eq, beq_eq_false_iff_ne] at g0 g1 g2
      simp [g0, g1, g2]
  case rest =>
    obtain ⟨rfl, rfl⟩ := hcut
    have hc := HH.out
    clear HH
    have hcc : (E = 3 ∧ c = true ∧ x1 = A ∧ y1 = B ∧ z1 = C ∧ e1 = 0 ∧ g1 = 0 ∧ x2 = A ∧ y2 = B ∧ z2 = C ∧ e2 = 0 ∧ g2 = 0) ∨ (E = 1 ∧ c = false ∧ x1 = A ∧ y1 = B ∧ z1 = C ∧ e1 = 0 ∧ g1 = 0 ∧ g2 = 12) ∨ (E = 2 ∧ c = false ∧ x2 = A ∧ y2 = B ∧ z2 = C ∧ e2 = 0 ∧ g2 = 0 ∧ g1 = 12) ∨ (E = 0 ∧ c = false ∧ g1 = 12 ∧ g2 = 12) := by
      rw [Hc.out]
      rcases hc with ⟨a, b1, b2, b3, h⟩ | ⟨a, b, h⟩ | ⟨a, b, h⟩ | ⟨a, b, h⟩
      · exact .inl ⟨a, decide_eq_true ⟨b1, b2, b3⟩, h⟩
      · exact .inr (.inl ⟨a, decide_eq_false b, h⟩)
      · exact .inr (.inr (.inl ⟨a, decide_eq_false b, h⟩))
      · exact .inr (.inr (.inr ⟨a, decide_eq_false b, h⟩))
    clear hc Hc
    rcases hcc with ⟨rfl, rfl, rfl, rfl, rfl, rfl, rfl, rfl, rfl, rfl, rfl, rfl⟩ | ⟨rfl, rfl, rfl, rfl, rfl, rfl, rfl, rfl⟩ | ⟨rfl, rfl, rfl, rfl, rfl, rfl, rfl, rfl⟩ | ⟨rfl, rfl, rfl, rfl⟩
    all_goals
      go_wp2_with fail
      go_loopw [9] (fun i wr => ∃ k : Int, 1 ≤ k ∧ k ≤ 3 ∧ i = .int .u8 k ∧ Hid (Lies wr w.heap.size 28 #[.int .i64 _, .int .i64 _, .int .i64 _]) ∧ Below w.heap.size w wr) (fun i _ => (3 - intOf i).toNat)
      case atStart => exact ⟨1, by omega, by omega, rfl, HP_5, A5⟩
      case round =>
        obtain ⟨k, k0, k1, rfl, HL, BL⟩ := hrel
        obtain ⟨w50, rfl⟩ : ∃ v : World, v = wr := ⟨_, rfl⟩
        have HP_50 := Lib.hid HL.out
        have A50 := BL
        have hk : k = 1 ∨ k = 2 ∨ k = 3 := by omega
        clear HL BL HP_5 A5 k0 k1
        rcases hk with rfl | rfl | rfl
        · have qP0 := HP_50.out.cell 0
          have qP1 := HP_50.out.cell 1
          have qP2 := HP_50.out.cell 2
          have zP := HP_50.out.lt
          go_wp2_with fail
          refine (HV1.out _).mono ?_
          rintro _ w51 ⟨rfl, hb51⟩
          have s51 := hb51.size; try simp only [World.size_alloc, World.size_setCell, World.size_drew, setRow_size] at s51
          clear qP0 qP1 qP2 zP
          have B51 : Below w50.heap.size w50 w51 := by (repeat' (first | (with_reducible exact Below.refl _ _) | (with_reducible assumption) | (with_reducible refine Below.alloc ?_ ?_ _) | (with_reducible refine Below.setCell ?_ ?_ _) | (with_reducible refine below_row ?_ ?_ _) | (with_reducible refine Below.drew ?_) | (with_reducible refine below_drewN ?_ _) | (with_reducible refine Below.trans ?_ (Below.mono (by assumption) ?_)) | (first | exact Nat.le_refl _ | omega | (simp; done) | (simp; omega))))
          have HP_51 := Lib.hid (HP_50.out.after B51)
          clear HP_50
          have A51 : Below w.heap.size w w51 := A50.trans (B51.mono A50.size)
          clear A50 hb51 B51
          have qP0 := HP_51.out.cell 0
          have qP1 := HP_51.out.cell 1
          have qP2 := HP_51.out.cell 2
          have zP := HP_51.out.lt
          go_wp2_with fail
          refine (HW1.out _ (A51.trans (Below.mono (by (repeat' (first | (with_reducible exact Below.refl _ _) | (with_reducible assumption) | (with_reducible refine Below.alloc ?_ ?_ _) | (with_reducible refine Below.setCell ?_ ?_ _) | (with_reducible refine below_row ?_ ?_ _) | (with_reducible refine Below.drew ?_) | (with_reducible refine below_drewN ?_ _) | (with_reducible refine Below.trans ?_ (Below.mono (by assumption) ?_)) | (first | exact Nat.le_refl _ | omega | (simp; done) | (simp; omega))))) A51.size))).mono ?_
          rintro _ w52 ⟨rfl, hb52⟩
          have s52 := hb52.size; try simp only [World.size_alloc, World.size_setCell, World.size_drew, setRow_size] at s52
          clear qP0 qP1 qP2 zP
          have B52 : Below w51.heap.size w51 w52 := by (repeat' (first | (with_reducible exact Below.refl _ _) | (with_reducible assumption) | (with_reducible refine Below.alloc ?_ ?_ _) | (with_reducible refine Below.setCell ?_ ?_ _) | (with_reducible refine below_row ?_ ?_ _) | (with_reducible refine Below.drew ?_) | (with_reducible refine below_drewN ?_ _) | (with_reducible refine Below.trans ?_ (Below.mono (by assumption) ?_)) | (first | exact Nat.le_refl _ | omega | (simp; done) | (simp; omega))))
          have HP_52 := Lib.hid (HP_51.out.after B52)
          have HX_52 := Lib.hid (show Lies w52 _ 28 #[.int .i64 _, .int .i64 _, .int .i64 _] from (by first | exact (Lies.made w51 28 #[.int .i64 _, .int .i64 _, .int .i64 _]).after hb52 | exact ((Lies.made w51 28 #[.int .i64 _, .int .i64 _, .int .i64 _]).alloc _).after hb52 | exact (((Lies.made w51 28 #[.int .i64 _, .int .i64 _, .int .i64 _]).alloc _).alloc _).after hb52))
          clear HP_51
          have A52 : Below w.heap.size w w52 := A51.trans (B52.mono A51.size)
          clear A51 hb52 B52
          have qP0 := HP_52.out.cell 0
          have qP1 := HP_52.out.cell 1
          have qP2 := HP_52.out.cell 2
          have qX0 := HX_52.out.cell 0
          have qX1 := HX_52.out.cell 1
          have qX2 := HX_52.out.cell 2
          have zP := HP_52.out.lt
          have zX := HX_52.out.lt
          go_wp2_with fail
          go_roundw
          case rel => exact ⟨2, by omega, by omega, rfl, HP_52, by (repeat' (first | (with_reducible exact Below.refl _ _) | (with_reducible assumption) | (with_reducible refine Below.alloc ?_ ?_ _) | (with_reducible refine Below.setCell ?_ ?_ _) | (with_reducible refine below_row ?_ ?_ _) | (with_reducible refine Below.drew ?_) | (with_reducible refine below_drewN ?_ _) | (with_reducible refine Below.trans ?_ (Below.mono (by assumption) ?_)) | (first | exact Nat.le_refl _ | omega | (simp; done) | (simp; omega))))⟩
          case measure => simp [intOf]
        · have qP0 := HP_50.out.cell 0
          have qP1 := HP_50.out.cell 1
          have qP2 := HP_50.out.cell 2
          have zP := HP_50.out.lt
          go_wp2_with fail
          refine (HV2.out _).mono ?_
          rintro _ w51 ⟨rfl, hb51⟩
          have s51 := hb51.size; try simp only [World.size_alloc, World.size_setCell, World.size_drew, setRow_size] at s51
          clear qP0 qP1 qP2 zP
          have B51 : Below w50.heap.size w50 w51 := by (repeat' (first | (with_reducible exact Below.refl _ _) | (with_reducible assumption) | (with_reducible refine Below.alloc ?_ ?_ _) | (with_reducible refine Below.setCell ?_ ?_ _) | (with_reducible refine below_row ?_ ?_ _) | (with_reducible refine Below.drew ?_) | (with_reducible refine below_drewN ?_ _) | (with_reducible refine Below.trans ?_ (Below.mono (by assumption) ?_)) | (first | exact Nat.le_refl _ | omega | (simp; done) | (simp; omega))))
          have HP_51 := Lib.hid (HP_50.out.after B51)
          clear HP_50
          have A51 : Below w.heap.size w w51 := A50.trans (B51.mono A50.size)
          clear A50 hb51 B51
          have qP0 := HP_51.out.cell 0
          have qP1 := HP_51.out.cell 1
          have qP2 := HP_51.out.cell 2
          have zP := HP_51.out.lt
          go_wp2_with fail
          refine (HW2.out _ (A51.trans (Below.mono (by (repeat' (first | (with_reducible exact Below.refl _ _) | (with_reducible assumption) | (with_reducible refine Below.alloc ?_ ?_ _) | (with_reducible refine Below.setCell ?_ ?_ _) | (with_reducible refine below_row ?_ ?_ _) | (with_reducible refine Below.drew ?_) | (with_reducible refine below_drewN ?_ _) | (with_reducible refine Below.trans ?_ (Below.mono (by assumption) ?_)) | (first | exact Nat.le_refl _ | omega | (simp; done) | (simp; omega))))) A51.size))).mono ?_
          rintro _ w52 ⟨rfl, hb52⟩
          have s52 := hb52.size; try simp only [World.size_alloc, World.size_setCell, World.size_drew, setRow_size] at s52
          clear qP0 qP1 qP2 zP
          have B52 : Below w51.heap.size w51 w52 := by (repeat' (first | (with_reducible exact Below.refl _ _) | (with_reducible assumption) | (with_reducible refine Below.alloc ?_ ?_ _) | (with_reducible refine Below.setCell ?_ ?_ _) | (with_reducible refine below_row ?_ ?_ _) | (with_reducible refine Below.drew ?_) | (with_reducible refine below_drewN ?_ _) | (with_reducible refine Below.trans ?_ (Below.mono (by assumption) ?_)) | (first | exact Nat.le_refl _ | omega | (simp; done) | (simp; omega))))
          have HP_52 := Lib.hid (HP_51.out.after B52)
          have HX_52 := Lib.hid (show Lies w52 _ 28 #[.int .i64 _, .int .i64 _, .int .i64 _] from (by first | exact (Lies.made w51 28 #[.int .i64 _, .int .i64 _, .int .i64 _]).after hb52 | exact ((Lies.made w51 28 #[.int .i64 _, .int .i64 _, .int .i64 _]).alloc _).after hb52 | exact (((Lies.made w51 28 #[.int .i64 _, .int .i64 _, .int .i64 _]).alloc _).alloc _).after hb52))
          clear HP_51
          have A52 : Below w.heap.size w w52 := A51.trans (B52.mono A51.size)
          clear A51 hb52 B52
          have qP0 := HP_52.out.cell 0
          have qP1 := HP_52.out.cell 1
          have qP2 := HP_52.out.cell 2
          have qX0 := HX_52.out.cell 0
          have qX1 := HX_52.out.cell 1
          have qX2 := HX_52.out.cell 2
          have zP := HP_52.out.lt
          have zX := HX_52.out.lt
          go_wp2_with fail
          go_roundw
          case rel => exact ⟨3, by omega, by omega, rfl, HP_52, by (repeat' (first | (with_reducible exact Below.refl _ _) | (with_reducible assumption) | (with_reducible refine Below.alloc ?_ ?_ _) | (with_reducible refine Below.setCell ?_ ?_ _) | (with_reducible refine below_row ?_ ?_ _) | (with_reducible refine Below.drew ?_) | (with_reducible refine below_drewN ?_ _) | (with_reducible refine Below.trans ?_ (Below.mono (by assumption) ?_)) | (first | exact Nat.le_refl _ | omega | (simp; done) | (simp; omega))))⟩
          case measure => simp [intOf]
        · go_wp2
          go_ret
          exact ⟨rfl, A50⟩
theorem both_any (n l u : Int) (b : Bool) (w : World) (he : Env w) : Calls Tryd.prog 7 #[.agg #[.int .i64 n, .int .i64 l, .int .i64 u], .bool b] w (Trues w) := by
  cases b
  · exact both_no n l u w he
  · exact both_yes n l u w he
end Go.Proofs.YtldjkdomklgmaaaDoor
