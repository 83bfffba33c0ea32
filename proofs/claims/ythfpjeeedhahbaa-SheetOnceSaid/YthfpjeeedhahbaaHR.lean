/- The package's Clash, Merge and At, with what they return told. -/
import Derived.Test.YthfpjeeedhahbaaRX
import Derived.Test.YthfpjeeedhahbaaRG
import Derived.Test.YthfpjeeedhahbaaHY
namespace Go.Proofs.Ythfpjeeedhahbaa
set_option linter.unusedVariables false
set_option linter.unusedSimpArgs false
open Go.RowKit

theorem clash_s {vI vJ : Value} {xs ys : List Iss} {w : World} (h : RegAt w vI xs) (h2 : RegAt w vJ ys) : Calls Try.prog 46 #[.agg #[vI], .agg #[vJ]] w fun e w' => ∃ A c, e = .returned (.tuple #[.slice A (clashE xs ys).1.length c, .int .i64 ((clashE xs ys).2)]) ∧ RefsAt w' (.slice A (clashE xs ys).1.length c) (clashE xs ys).1 ∧ Below w.heap.size w w' := by
  refine (sClash_any h h2).mono ?_
  rintro e w' ⟨v, rfl, hr, hb⟩
  obtain ⟨A, c, rfl⟩ := hr.slice
  exact ⟨A, c, rfl, hr, hb⟩
theorem merge_lenS (xs ys : List Iss) : (mergeE xs ys).1.length ≤ xs.length + ys.length := by
  unfold mergeE
  split
  · simp
  · split
    · simp
    · split
      · simp
      · exact joinL_len xs ys
theorem merge_smallS {xs ys : List Iss} {n : Nat} (hx : ∀ x ∈ xs, x.items.length ≤ n ∧ x.dims.length ≤ n) (hy : ∀ x ∈ ys, x.items.length ≤ n ∧ x.dims.length ≤ n) : ∀ x ∈ (mergeE xs ys).1, x.items.length ≤ n ∧ x.dims.length ≤ n := by
  unfold mergeE
  split
  · intro x h; cases h
  · split
    · intro x h; cases h
    · split
      · intro x h; cases h
      · exact join_small hx hy
theorem merge_s {vI vJ : Value} {xs ys z : List Iss} {g : Int} {w : World} (h : RegAt w vI xs) (h2 : RegAt w vJ ys) (c1 : CapOk vI) (c2 : CapOk vJ) (he : mergeE xs ys = (z, g)) (hl : xs.length + ys.length ≤ 1000) : Calls Try.prog 48 #[.agg #[vI], .agg #[vJ]] w fun e w' => ∃ A c, e = .returned (.tuple #[.agg #[.slice A z.length c], .int .i64 g]) ∧ RegAt w' (.slice A z.length c) z ∧ CapOk (.slice A z.length c) ∧ Below w.heap.size w w' := by
  have hln := merge_lenS xs ys
  have hsm := merge_smallS h.small h2.small
  have h3 := sMerge_any h h2 c1 c2
  rw [he] at h3 hln hsm
  refine h3.mono ?_
  rintro e w' ⟨v, rs, rfl, ho, hm, hb⟩
  simp only at hm hln hsm
  have hlen : rs.length = z.length := by rw [← hm, List.length_map]
  have hr := ho.reg (by omega) (by rw [hm]; exact hsm)
  rw [hm] at hr
  obtain ⟨A, c, g, rfl, hc, -⟩ := ho.form
  rw [hlen] at hr hc ⊢
  exact ⟨A, c, rfl, hr, capOfx hc, hb⟩
theorem lies_five {W : World} {g : Nat} {ty : TypeId} {z0 z1 z2 z3 z4 : Value} (h : Lies W g ty #[z0, z1, z2, z3, z4]) (u0 u1 u2 u3 u4 : Value) : Lies (((((W.setCell ⟨g, 0, none⟩ u0).setCell ⟨g, 1, none⟩ u1).setCell ⟨g, 2, none⟩ u2).setCell ⟨g, 3, none⟩ u3).setCell ⟨g, 4, none⟩ u4) g ty #[u0, u1, u2, u3, u4] :=
  ((((h.store 0 u0).store 1 u1).store 2 u2).store 3 u3).store 4 u4
theorem cell_five {W : World} {g : Nat} (u0 u1 u2 u3 u4 : Value) {a : Addr} (ha : g ≠ a.block) : (((((W.setCell ⟨g, 0, none⟩ u0).setCell ⟨g, 1, none⟩ u1).setCell ⟨g, 2, none⟩ u2).setCell ⟨g, 3, none⟩ u3).setCell ⟨g, 4, none⟩ u4).cell? a = W.cell? a := by
  rw [World.cell?_setCell_far _ _ _ _ ha, World.cell?_setCell_far _ _ _ _ ha, World.cell?_setCell_far _ _ _ _ ha, World.cell?_setCell_far _ _ _ _ ha, World.cell?_setCell_far _ _ _ _ ha]
theorem below_5s {w0 W : World} {B g : Nat} (hb : Below B w0 W) (hg : B ≤ g) (u0 u1 u2 u3 u4 : Value) : Below B w0 (((((W.setCell ⟨g, 0, none⟩ u0).setCell ⟨g, 1, none⟩ u1).setCell ⟨g, 2, none⟩ u2).setCell ⟨g, 3, none⟩ u3).setCell ⟨g, 4, none⟩ u4) :=
  ((((hb.setCell hg u0).setCell hg u1).setCell hg u2).setCell hg u3).setCell hg u4
theorem items_five {W : World} {g g3 : Nat} {A3 : Option Addr} {c3 : Nat} {l : List (Int × Int)} (h : ItemsAt W (.slice A3 l.length c3) l) (hA : 0 < l.length → A3 = some ⟨g3, 0, none⟩) (hne : 0 < l.length → g ≠ g3) (u0 u1 u2 u3 u4 : Value) : ItemsAt (((((W.setCell ⟨g, 0, none⟩ u0).setCell ⟨g, 1, none⟩ u1).setCell ⟨g, 2, none⟩ u2).setCell ⟨g, 3, none⟩ u3).setCell ⟨g, 4, none⟩ u4) (.slice A3 l.length c3) l := by
  obtain ⟨A', c', b, o, e, hA', hc⟩ := h
  injection e with e1 e2 e3
  subst e1 e3
  refine ⟨_, _, b, o, rfl, hA', fun i hi => ?_⟩
  have h1 := hA' (by omega)
  rw [hA (by omega)] at h1
  injection h1 with h1
  injection h1 with h1 h2
  have h3 := hne (by omega)
  rw [cell_five _ _ _ _ _ (by simp only; omega), cell_five _ _ _ _ _ (by simp only; omega)]
  exact hc i hi
theorem lies_apart2 {W : World} {g g' : Nat} {ty ty' : TypeId} {cs cs' : Array Value} (h : Lies W g ty cs) (h' : Lies W g' ty' cs') (hne : ty ≠ ty') : g ≠ g' := by
  rintro rfl
  unfold Lies at h h'
  rw [h] at h'
  injection h' with h1
  injection h1 with h2 h3
  exact hne h3
theorem dims_five {W : World} {g g3 : Nat} {A3 : Option Addr} {c3 : Nat} {l : List D3} (h : DimsAt W (.slice A3 l.length c3) l) (hA : 0 < l.length → A3 = some ⟨g3, 0, none⟩) (hne : 0 < l.length → g ≠ g3) (u0 u1 u2 u3 u4 : Value) : DimsAt (((((W.setCell ⟨g, 0, none⟩ u0).setCell ⟨g, 1, none⟩ u1).setCell ⟨g, 2, none⟩ u2).setCell ⟨g, 3, none⟩ u3).setCell ⟨g, 4, none⟩ u4) (.slice A3 l.length c3) l := by
  obtain ⟨A', c', b, o, e, hA', hc⟩ := h
  injection e with e1 e2 e3
  subst e1 e3
  refine ⟨_, _, b, o, rfl, hA', fun i hi => ?_⟩
  have h1 := hA' (by omega)
  rw [hA (by omega)] at h1
  injection h1 with h1
  injection h1 with h1 h2
  have h3 := hne (by omega)
  rw [cell_five _ _ _ _ _ (by simp only; omega), cell_five _ _ _ _ _ (by simp only; omega), cell_five _ _ _ _ _ (by simp only; omega)]
  exact hc i hi
set_option maxHeartbeats 1000000 in
theorem refOf_s (d l k : Int) (vi vd : Value) (w : World) : Calls Try.prog 56 #[.agg #[.int .i64 d, .int .i64 l, .int .u8 k, vi, vd]] w fun e w' => e = .returned (.agg #[.int .i64 d, .int .i64 l]) ∧ Below w.heap.size w w' := by
  go_enter Try.func56, Try.ntmps56
  go_wp2
  exact bodyPost_ret (v := .agg #[.int .i64 d, .int .i64 l]) (by simp [results, Try.results56, go_sem]) rfl ⟨rfl, by (repeat' (first | (with_reducible first | exact Below.refl _ _ | assumption | refine Below.alloc ?_ ?_ _ | refine Below.setCell ?_ ?_ _ | refine below_row ?_ ?_ _ | refine Below.drew ?_ | refine below_drewN ?_ _ | refine Below.trans ?_ (Below.mono (by assumption) ?_)) | exact Nat.le_refl _ | omega | (simp; done) | (simp; omega) | exact Below.size (by assumption)))⟩
/-- What At tells of any name. -/
theorem at_g {vI : Value} {xs : List Iss} {d l : Int} {w : World} (h : RegAt w vI xs) : Calls Try.prog 26 #[.agg #[vI], .agg #[.int .i64 d, .int .i64 l]] w fun e w' => ∃ y ee A3 c3 g3 A4 c4 g4, e = .returned (.tuple #[.agg #[.int .i64 y.d, .int .i64 y.l, .int .u8 y.k, .slice A3 y.items.length c3, .slice A4 y.dims.length c4], .int .i64 ee]) ∧ ItemsAt w' (.slice A3 y.items.length c3) y.items ∧ DimsAt w' (.slice A4 y.dims.length c4) y.dims ∧ (0 < y.items.length → A3 = some ⟨g3, 0, none⟩ ∧ ∃ cur, Lies w' g3 52 cur) ∧ (0 < y.dims.length → A4 = some ⟨g4, 0, none⟩ ∧ ∃ cur, Lies w' g4 54 cur) ∧ AtQ xs d l y ee ∧ (y.items.length ≤ 1000 ∧ y.dims.length ≤ 1000) ∧ Below w.heap.size w w' := by
  have hsm := h.small
  refine (sAt_any d l h).mono ?_
  intro e w' h3
  obtain ⟨y, x, ee, rfl, hy, haq, hb⟩ := at_yat h3 0 (Nat.zero_le _)
  obtain ⟨A3, c3, g3, A4, c4, g4, rfl, h5, h6, h7, h8⟩ := hy
  exact ⟨x, ee, A3, c3, g3, A4, c4, g4, rfl, h5, h6, fun h => ⟨(h7 h).2.1, (h7 h).2.2.imp fun _ h => h.1⟩, fun h => ⟨(h8 h).2.1, (h8 h).2.2.imp fun _ h => h.1⟩, haq, haq.small hsm, hb⟩
end Go.Proofs.Ythfpjeeedhahbaa
