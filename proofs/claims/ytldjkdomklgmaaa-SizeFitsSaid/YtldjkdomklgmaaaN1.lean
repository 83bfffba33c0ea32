/- The law SizeFits: the walk. -/
import Derived.Test.YtldjkdomklgmaaaS4
import Derived.Test.YtldjkdomklgmaaaR9
import Derived.Test.YtldjkdomklgmaaaR7
import Derived.Test.YtldjkdomklgmaaaM0
import Derived.Laws.AppendOwnNone
namespace Go.Proofs.Ytldjkdomklgmaaa
set_option linter.unusedVariables false
set_option linter.unusedSimpArgs false
open Go.RowKit

theorem info_dim : (Try.prog.info? 23).map (fun i => (i.zero, i.size, i.bytes)) = some (some (.agg #[.int .i64 0, .int .i64 0, .int .i64 0]), 3, 24) := by kernel_rfl
theorem cellsD_after {w W : World} {b off : Nat} {ds : List D3} (hb : Below w.heap.size w W) (h : cellsD w b off ds) (hlt : 0 < ds.length → b < w.heap.size) : cellsD W b off ds := fun i hi => by
  obtain ⟨h0, h1, h2⟩ := h i hi
  have hl := hlt (by omega)
  exact ⟨(hb.cell (p := ⟨b, off + i * 3, none⟩) hl).trans h0, (hb.cell (p := ⟨b, off + i * 3 + 1, none⟩) hl).trans h1, (hb.cell (p := ⟨b, off + i * 3 + 2, none⟩) hl).trans h2⟩
theorem add_none (b o k : Nat) : (⟨b, o, none⟩ : Addr).add k = ⟨b, o + k, none⟩ := by unfold Addr.add; split <;> simp_all
theorem news_dims {w W : World} {b off : Nat} {ds : List D3} (hb : Below w.heap.size w W) (h : cellsD w b off ds) (hlt : 0 < ds.length → b < w.heap.size) : ∀ j u, (cells3 ds)[j]? = some u → W.cell? ((⟨b, off, none⟩ : Addr).add j) = some u := by
  intro j u hj
  have hjl : j < ds.length * 3 := by rw [← cells3_length]; exact (List.getElem?_eq_some_iff.1 hj).1
  have hi : j / 3 < ds.length := by omega
  obtain ⟨c0, c1, c2⟩ := cellsD_after hb h hlt (j / 3) hi
  obtain ⟨d0, d1, d2⟩ := cells3_at ds (j / 3) hi
  rw [add_none]
  have hm : j % 3 = 0 ∨ j % 3 = 1 ∨ j % 3 = 2 := by omega
  rcases hm with e | e | e
  · have ej : j = j / 3 * 3 := by omega
    rw [ej] at hj ⊢; rw [c0, ← d0]; exact hj
  · have ej : j = j / 3 * 3 + 1 := by omega
    rw [ej] at hj ⊢; rw [← Nat.add_assoc, c1, ← d1]; exact hj
  · have ej : j = j / 3 * 3 + 2 := by omega
    rw [ej] at hj ⊢; rw [← Nat.add_assoc, c2, ← d2]; exact hj
theorem own_dims {w : World} {g : Nat} {ds : List D3} {cur : Array Value} (hg : w.heap[g]? = some (.cells cur 23 (0, 0))) (ht : cur.toList.take (ds.length * 3) = cells3 ds) : cellsD w g 0 ds := fun i hi => by
  obtain ⟨d0, d1, d2⟩ := cells3_at ds i hi
  have key : ∀ k u, k < ds.length * 3 → (cells3 ds)[k]? = some u → w.cell? ⟨g, 0 + k, none⟩ = some u := by
    intro k u hk hu
    rw [← ht, List.getElem?_take_of_lt hk] at hu
    simp [World.cell?, hg]
    simpa using hu
  have a0 := key (i * 3) _ (by omega) d0
  have a1 := key (i * 3 + 1) _ (by omega) d1
  have a2 := key (i * 3 + 2) _ (by omega) d2
  rw [← Nat.add_assoc] at a1 a2
  exact ⟨a0, a1, a2⟩

set_option maxHeartbeats 8000000 in
set_option maxRecDepth 100000 in
theorem fits_many (A : Option Addr) (k c : Nat) (an al au bn bl bu nom lo hi un : Int) (w0 : World) (hk : 40 < k) : Calls Try.prog 4 #[.agg #[.int .i64 an, .int .i64 al, .int .i64 au], .agg #[.int .i64 bn, .int .i64 bl, .int .i64 bu], .int .i64 nom, .agg #[.int .i64 lo, .int .i64 hi], .int .u8 un, .slice A k c] w0 fun e w' => e = .returned (.bool true) ∧ Below w0.heap.size w0 w' := by
  have h : (40 : Int) < (k : Int) := by omega
  go_enter Try.func4, Try.ntmps4
  go_wp2
  go_ret
  exact ⟨rfl, by (repeat' (first | (with_reducible exact Below.refl _ _) | (with_reducible assumption) | (with_reducible refine Below.alloc ?_ ?_ _) | (with_reducible refine Below.setCell ?_ ?_ _) | (with_reducible refine below_row ?_ ?_ _) | (with_reducible refine Below.drew ?_) | (with_reducible refine below_drewN ?_ _) | (with_reducible refine Below.trans ?_ (Below.mono (by assumption) ?_)) | (first | exact Nat.le_refl _ | omega | (simp; done) | (simp; omega))))⟩
set_option maxHeartbeats 8000000 in
set_option maxRecDepth 100000 in
theorem fits_none (an al au bn bl bu nom lo hi un : Int) (w0 : World) : Calls Try.prog 4 #[.agg #[.int .i64 an, .int .i64 al, .int .i64 au], .agg #[.int .i64 bn, .int .i64 bl, .int .i64 bu], .int .i64 nom, .agg #[.int .i64 lo, .int .i64 hi], .int .u8 un, .slice none 0 0] w0 fun e w' => e = .returned (.bool true) ∧ Below w0.heap.size w0 w' := by
  obtain ⟨i0, hi0, hz0, hz1, hz2⟩ := info_parts info_dim
  have HI := Lib.hid (fun W => Inside_any an al au bn bl bu W)
  have HIR := Lib.hid (fun W => rInside_any an al au bn bl bu W)
  have HF := Lib.hid (fun W => Fit_any an al au bn bl bu W)
  have HFR := Lib.hid (fun W => rFit_any an al au bn bl bu W)
  have HO := Lib.hid (fun W => Room_any an al au lo hi W)
  have HOR := Lib.hid (fun W => rRoom_any an al au lo hi W)
  have HH := Lib.hid (fun W => Share_any un nom lo hi W)
  have HHR := Lib.hid (fun W => rShare_any un nom lo hi W)
  generalize insS al au bl bu (bad2 an al au bn bl bu) = I1 at *
  generalize (bif bad2 an al au bn bl bu then (10 : Int) else 0) = I2 at *
  generalize fitS al au bl bu (bad2 an al au bn bl bu) = F at *
  generalize roomS an al au lo hi = R at *
  generalize shareS un nom lo hi = S at *
  obtain ⟨⟨f1, f2⟩, f3, f4⟩ := F
  obtain ⟨⟨r1, r2, r3⟩, r4⟩ := R
  obtain ⟨⟨x1, x2, x3⟩, ⟨y1, y2, y3⟩, x4⟩ := S
  simp only at HF HFR
  generalize hM : meetR [] = M at *
  have HMM := Lib.hid hM
  clear hM
  obtain ⟨⟨m1, m2⟩, m3⟩ := M
  have hown0 : ((((w0.alloc (.cells #[.int .i64 an, .int .i64 al, .int .i64 au] 23)).alloc (.cells #[.int .i64 bn, .int .i64 bl, .int .i64 bu] 23)).alloc (.cells #[.int .i64 lo, .int .i64 hi] 38)).alloc (.cells #[] 23)).ownsRow (w0.heap.size + 1 + 1 + 1) 23 3 (.slice (some ⟨w0.heap.size + 1 + 1 + 1, 0, none⟩) 0 0) 0 [] := by
    have h := World.ownsRow_made (base := w0.heap.size + 1 + 1 + 1) (e := 23) (size := 3) (((w0.alloc (.cells #[.int .i64 an, .int .i64 al, .int .i64 au] 23)).alloc (.cells #[.int .i64 bn, .int .i64 bl, .int .i64 bu] 23)).alloc (.cells #[.int .i64 lo, .int .i64 hi] 38)) #[] 0 (by simp) (by decide) rfl
    simpa using h
  go_enter Try.func4, Try.ntmps4
  go_wp2_with (first | (at_builtin; go_loud (refine wpList_append_own_none rfl (.tmp 37) (.tmp 38) 39 rfl (w0.heap.size + 1 + 1 + 1) 23 i0 3 Try.underlying39 hi0 (.slice (some ⟨w0.heap.size + 1 + 1 + 1, 0, none⟩) 0 0) 0 [] rfl hown0 rfl ?_)))
  · obtain ⟨w, hw1⟩ : ∃ w, (((w0.alloc (.cells #[.int .i64 an, .int .i64 al, .int .i64 au] 23)).alloc (.cells #[.int .i64 bn, .int .i64 bl, .int .i64 bu] 23)).alloc (.cells #[.int .i64 lo, .int .i64 hi] 38)).alloc (.cells #[] 23) = w := ⟨_, rfl⟩
    rw [hw1]
    have b0 : Below w0.heap.size w0 w := by subst hw1; (repeat' (first | (with_reducible exact Below.refl _ _) | (with_reducible assumption) | (with_reducible refine Below.alloc ?_ ?_ _) | (with_reducible refine Below.setCell ?_ ?_ _) | (with_reducible refine below_row ?_ ?_ _) | (with_reducible refine Below.drew ?_) | (with_reducible refine below_drewN ?_ _) | (with_reducible refine Below.trans ?_ (Below.mono (by assumption) ?_)) | (first | exact Nat.le_refl _ | omega | (simp; done) | (simp; omega))))
    have HP_0 := Lib.hid (show Lies w (w0.heap.size) 23 #[.int .i64 an, .int .i64 al, .int .i64 au] from (by subst hw1; exact (((Lies.made w0 23 #[.int .i64 an, .int .i64 al, .int .i64 au]).alloc _).alloc _).alloc _))
    have HQ_0 := Lib.hid (show Lies w (w0.heap.size + 1) 23 #[.int .i64 bn, .int .i64 bl, .int .i64 bu] from (by subst hw1; exact ((Lies.new (u := w0.alloc _) (by simp)).alloc _).alloc _))
    have HV_0 := Lib.hid (show Lies w (w0.heap.size + 1 + 1) 38 #[.int .i64 lo, .int .i64 hi] from (by subst hw1; exact (Lies.new (u := (w0.alloc _).alloc _) (by simp)).alloc _))
    have KM := Lib.hid (fun W (_ : Below w.heap.size w W) => HMM.out ▸ Meet_any (some ⟨w0.heap.size + 1 + 1 + 1, 0, none⟩) 0 0 [] 0 W (fun h => absurd h (by simp)) (fun i hi => absurd hi (by simp)))
    have KR := Lib.hid (fun W (_ : Below w.heap.size w W) => HMM.out ▸ rMeet_any none 0 0 [] 0 W (fun h => absurd h (by simp)) (fun i hi => absurd hi (by simp)))
    have KS := Lib.hid (fun W (_ : Below w.heap.size w W) => rSame_any (some ⟨w0.heap.size + 1 + 1 + 1, 0, none⟩) none 0 0 0 0 [] 0 0 W (by simp) (fun h => absurd h (by simp)) (fun i hi => absurd hi (by simp)) (fun h => absurd h (by simp)) (fun i hi => absurd hi (by simp)))
    simp only [List.length_nil] at KM KR KS
    clear hown0 hi0 hz0 hz1 hz2 hw1
    have qP0 := HP_0.out.cell 0
    have qP1 := HP_0.out.cell 1
    have qP2 := HP_0.out.cell 2
    have zP := HP_0.out.lt
    have qQ0 := HQ_0.out.cell 0
    have qQ1 := HQ_0.out.cell 1
    have qQ2 := HQ_0.out.cell 2
    have zQ := HQ_0.out.lt
    go_wp2_with fail
    refine (HI.out _).mono ?_
    rintro _ w1 ⟨rfl, hb1⟩
    have s1 := hb1.size; try simp only [World.size_alloc, World.size_setCell, World.size_drew, setRow_size] at s1
    clear qP0 qP1 qP2 zP qQ0 qQ1 qQ2 zQ
    have B1 : Below w.heap.size w w1 := by (repeat' (first | (with_reducible exact Below.refl _ _) | (with_reducible assumption) | (with_reducible refine Below.alloc ?_ ?_ _) | (with_reducible refine Below.setCell ?_ ?_ _) | (with_reducible refine below_row ?_ ?_ _) | (with_reducible refine Below.drew ?_) | (with_reducible refine below_drewN ?_ _) | (with_reducible refine Below.trans ?_ (Below.mono (by assumption) ?_)) | (first | exact Nat.le_refl _ | omega | (simp; done) | (simp; omega))))
    have HP_1 := Lib.hid (HP_0.out.after B1)
    have HQ_1 := Lib.hid (HQ_0.out.after B1)
    have HV_1 := Lib.hid (HV_0.out.after B1)
    have A1 : Below w.heap.size w w1 := B1
    clear hb1 B1
    have qP0 := HP_1.out.cell 0
    have qP1 := HP_1.out.cell 1
    have qP2 := HP_1.out.cell 2
    have zP := HP_1.out.lt
    have qQ0 := HQ_1.out.cell 0
    have qQ1 := HQ_1.out.cell 1
    have qQ2 := HQ_1.out.cell 2
    have zQ := HQ_1.out.lt
    go_wp2_with fail
    refine (HIR.out _).mono ?_
    rintro _ w2 ⟨rfl, hb2⟩
    have s2 := hb2.size; try simp only [World.size_alloc, World.size_setCell, World.size_drew, setRow_size] at s2
    clear qP0 qP1 qP2 zP qQ0 qQ1 qQ2 zQ
    have B2 : Below w1.heap.size w1 w2 := by (repeat' (first | (with_reducible exact Below.refl _ _) | (with_reducible assumption) | (with_reducible refine Below.alloc ?_ ?_ _) | (with_reducible refine Below.setCell ?_ ?_ _) | (with_reducible refine below_row ?_ ?_ _) | (with_reducible refine Below.drew ?_) | (with_reducible refine below_drewN ?_ _) | (with_reducible refine Below.trans ?_ (Below.mono (by assumption) ?_)) | (first | exact Nat.le_refl _ | omega | (simp; done) | (simp; omega))))
    have HP_2 := Lib.hid (HP_1.out.after B2)
    have HQ_2 := Lib.hid (HQ_1.out.after B2)
    have HV_2 := Lib.hid (HV_1.out.after B2)
    clear HP_1 HQ_1 HV_1
    have A2 : Below w.heap.size w w2 := A1.trans (B2.mono A1.size)
    clear A1 hb2 B2
    have qP0 := HP_2.out.cell 0
    have qP1 := HP_2.out.cell 1
    have qP2 := HP_2.out.cell 2
    have zP := HP_2.out.lt
    have qQ0 := HQ_2.out.cell 0
    have qQ1 := HQ_2.out.cell 1
    have qQ2 := HQ_2.out.cell 2
    have zQ := HQ_2.out.lt
    go_wp2_with fail
    refine (HF.out _).mono ?_
    rintro _ w3 ⟨rfl, hb3⟩
    have s3 := hb3.size; try simp only [World.size_alloc, World.size_setCell, World.size_drew, setRow_size] at s3
    clear qP0 qP1 qP2 zP qQ0 qQ1 qQ2 zQ
    have B3 : Below w2.heap.size w2 w3 := by (repeat' (first | (with_reducible exact Below.refl _ _) | (with_reducible assumption) | (with_reducible refine Below.alloc ?_ ?_ _) | (with_reducible refine Below.setCell ?_ ?_ _) | (with_reducible refine below_row ?_ ?_ _) | (with_reducible refine Below.drew ?_) | (with_reducible refine below_drewN ?_ _) | (with_reducible refine Below.trans ?_ (Below.mono (by assumption) ?_)) | (first | exact Nat.le_refl _ | omega | (simp; done) | (simp; omega))))
    have HP_3 := Lib.hid (HP_2.out.after B3)
    have HQ_3 := Lib.hid (HQ_2.out.after B3)
    have HV_3 := Lib.hid (HV_2.out.after B3)
    clear HP_2 HQ_2 HV_2
    have A3 : Below w.heap.size w w3 := A2.trans (B3.mono A2.size)
    clear A2 hb3 B3
    have qP0 := HP_3.out.cell 0
    have qP1 := HP_3.out.cell 1
    have qP2 := HP_3.out.cell 2
    have zP := HP_3.out.lt
    have qQ0 := HQ_3.out.cell 0
    have qQ1 := HQ_3.out.cell 1
    have qQ2 := HQ_3.out.cell 2
    have zQ := HQ_3.out.lt
    go_wp2_with fail
    refine (HFR.out _).mono ?_
    rintro _ w4 ⟨rfl, hb4⟩
    have s4 := hb4.size; try simp only [World.size_alloc, World.size_setCell, World.size_drew, setRow_size] at s4
    clear qP0 qP1 qP2 zP qQ0 qQ1 qQ2 zQ
    have B4 : Below w3.heap.size w3 w4 := by (repeat' (first | (with_reducible exact Below.refl _ _) | (with_reducible assumption) | (with_reducible refine Below.alloc ?_ ?_ _) | (with_reducible refine Below.setCell ?_ ?_ _) | (with_reducible refine below_row ?_ ?_ _) | (with_reducible refine Below.drew ?_) | (with_reducible refine below_drewN ?_ _) | (with_reducible refine Below.trans ?_ (Below.mono (by assumption) ?_)) | (first | exact Nat.le_refl _ | omega | (simp; done) | (simp; omega))))
    have HP_4 := Lib.hid (HP_3.out.after B4)
    have HQ_4 := Lib.hid (HQ_3.out.after B4)
    have HV_4 := Lib.hid (HV_3.out.after B4)
    have HF_4 := Lib.hid (show Lies w4 _ 38 #[.int .i64 f1, .int .i64 f2] from (by first | exact (Lies.made w3 38 #[.int .i64 f1, .int .i64 f2]).after hb4 | exact ((Lies.made w3 38 #[.int .i64 f1, .int .i64 f2]).alloc _).after hb4 | exact (((Lies.made w3 38 #[.int .i64 f1, .int .i64 f2]).alloc _).alloc _).after hb4))
    clear HP_3 HQ_3 HV_3
    have A4 : Below w.heap.size w w4 := A3.trans (B4.mono A3.size)
    clear A3 hb4 B4
    have qP0 := HP_4.out.cell 0
    have qP1 := HP_4.out.cell 1
    have qP2 := HP_4.out.cell 2
    have zP := HP_4.out.lt
    have qV0 := HV_4.out.cell 0
    have qV1 := HV_4.out.cell 1
    have zV := HV_4.out.lt
    go_wp2_with fail
    refine (HO.out _).mono ?_
    rintro _ w5 ⟨rfl, hb5⟩
    have s5 := hb5.size; try simp only [World.size_alloc, World.size_setCell, World.size_drew, setRow_size] at s5
    clear qP0 qP1 qP2 zP qV0 qV1 zV
    have B5 : Below w4.heap.size w4 w5 := by (repeat' (first | (with_reducible exact Below.refl _ _) | (with_reducible assumption) | (with_reducible refine Below.alloc ?_ ?_ _) | (with_reducible refine Below.setCell ?_ ?_ _) | (with_reducible refine below_row ?_ ?_ _) | (with_reducible refine Below.drew ?_) | (with_reducible refine below_drewN ?_ _) | (with_reducible refine Below.trans ?_ (Below.mono (by assumption) ?_)) | (first | exact Nat.le_refl _ | omega | (simp; done) | (simp; omega))))
    have HP_5 := Lib.hid (HP_4.out.after B5)
    have HQ_5 := Lib.hid (HQ_4.out.after B5)
    have HV_5 := Lib.hid (HV_4.out.after B5)
    have HF_5 := Lib.hid (HF_4.out.after B5)
    have HG_5 := Lib.hid (show Lies w5 _ 38 #[.int .i64 f1, .int .i64 f2] from (by first | exact (Lies.made w4 38 #[.int .i64 f1, .int .i64 f2]).after hb5 | exact ((Lies.made w4 38 #[.int .i64 f1, .int .i64 f2]).alloc _).after hb5 | exact (((Lies.made w4 38 #[.int .i64 f1, .int .i64 f2]).alloc _).alloc _).after hb5))
    clear HP_4 HQ_4 HV_4 HF_4
    have A5 : Below w.heap.size w w5 := A4.trans (B5.mono A4.size)
    clear A4 hb5 B5
    have qP0 := HP_5.out.cell 0
    have qP1 := HP_5.out.cell 1
    have qP2 := HP_5.out.cell 2
    have zP := HP_5.out.lt
    have qV0 := HV_5.out.cell 0
    have qV1 := HV_5.out.cell 1
    have zV := HV_5.out.lt
    go_wp2_with fail
    refine (HOR.out _).mono ?_
    rintro _ w6 ⟨rfl, hb6⟩
    have s6 := hb6.size; try simp only [World.size_alloc, World.size_setCell, World.size_drew, setRow_size] at s6
    clear qP0 qP1 qP2 zP qV0 qV1 zV
    have B6 : Below w5.heap.size w5 w6 := by (repeat' (first | (with_reducible exact Below.refl _ _) | (with_reducible assumption) | (with_reducible refine Below.alloc ?_ ?_ _) | (with_reducible refine Below.setCell ?_ ?_ _) | (with_reducible refine below_row ?_ ?_ _) | (with_reducible refine Below.drew ?_) | (with_reducible refine below_drewN ?_ _) | (with_reducible refine Below.trans ?_ (Below.mono (by assumption) ?_)) | (first | exact Nat.le_refl _ | omega | (simp; done) | (simp; omega))))
    have HP_6 := Lib.hid (HP_5.out.after B6)
    have HQ_6 := Lib.hid (HQ_5.out.after B6)
    have HV_6 := Lib.hid (HV_5.out.after B6)
    have HF_6 := Lib.hid (HF_5.out.after B6)
    have HG_6 := Lib.hid (HG_5.out.after B6)
    have HR_6 := Lib.hid (show Lies w6 _ 23 #[.int .i64 r1, .int .i64 r2, .int .i64 r3] from (by first | exact (Lies.made w5 23 #[.int .i64 r1, .int .i64 r2, .int .i64 r3]).after hb6 | exact ((Lies.made w5 23 #[.int .i64 r1, .int .i64 r2, .int .i64 r3]).alloc _).after hb6 | exact (((Lies.made w5 23 #[.int .i64 r1, .int .i64 r2, .int .i64 r3]).alloc _).alloc _).after hb6))
    clear HP_5 HQ_5 HV_5 HF_5 HG_5
    have A6 : Below w.heap.size w w6 := A5.trans (B6.mono A5.size)
    clear A5 hb6 B6
    have qV0 := HV_6.out.cell 0
    have qV1 := HV_6.out.cell 1
    have zV := HV_6.out.lt
    have qF0 := HF_6.out.cell 0
    have qF1 := HF_6.out.cell 1
    have zF := HF_6.out.lt
    have qG0 := HG_6.out.cell 0
    have qG1 := HG_6.out.cell 1
    have zG := HG_6.out.lt
    have qR0 := HR_6.out.cell 0
    have qR1 := HR_6.out.cell 1
    have qR2 := HR_6.out.cell 2
    have zR := HR_6.out.lt
    go_wp2_with fail
    refine (HH.out _).mono ?_
    rintro _ w7 ⟨rfl, hb7⟩
    have s7 := hb7.size; try simp only [World.size_alloc, World.size_setCell, World.size_drew, setRow_size] at s7
    clear qV0 qV1 zV qF0 qF1 zF qG0 qG1 zG qR0 qR1 qR2 zR
    have B7 : Below w6.heap.size w6 w7 := by (repeat' (first | (with_reducible exact Below.refl _ _) | (with_reducible assumption) | (with_reducible refine Below.alloc ?_ ?_ _) | (with_reducible refine Below.setCell ?_ ?_ _) | (with_reducible refine below_row ?_ ?_ _) | (with_reducible refine Below.drew ?_) | (with_reducible refine below_drewN ?_ _) | (with_reducible refine Below.trans ?_ (Below.mono (by assumption) ?_)) | (first | exact Nat.le_refl _ | omega | (simp; done) | (simp; omega))))
    have HP_7 := Lib.hid (HP_6.out.after B7)
    have HQ_7 := Lib.hid (HQ_6.out.after B7)
    have HV_7 := Lib.hid (HV_6.out.after B7)
    have HF_7 := Lib.hid (HF_6.out.after B7)
    have HG_7 := Lib.hid (HG_6.out.after B7)
    have HR_7 := Lib.hid (HR_6.out.after B7)
    clear HP_6 HQ_6 HV_6 HF_6 HG_6 HR_6
    have A7 : Below w.heap.size w w7 := A6.trans (B7.mono A6.size)
    clear A6 hb7 B7
    clear HF_7
    clear HG_7
    clear HR_7
    have zzV := Nat.lt_succ_of_lt HV_7.out.lt
    have qV0 := HV_7.out.cell 0
    have qV1 := HV_7.out.cell 1
    have zV := HV_7.out.lt
    go_wp2_with fail
    refine (HHR.out _).mono ?_
    rintro _ w8 ⟨rfl, hb8⟩
    have s8 := hb8.size; try simp only [World.size_alloc, World.size_setCell, World.size_drew, setRow_size] at s8
    clear qV0 qV1 zV
    have B8 : Below w7.heap.size w7 w8 := by (repeat' (first | (with_reducible exact Below.refl _ _) | (with_reducible assumption) | (with_reducible refine Below.alloc ?_ ?_ _) | (with_reducible refine Below.setCell ?_ ?_ _) | (with_reducible refine below_row ?_ ?_ _) | (with_reducible refine Below.drew ?_) | (with_reducible refine below_drewN ?_ _) | (with_reducible refine Below.trans ?_ (Below.mono (by assumption) ?_)) | (first | exact Nat.le_refl _ | omega | (simp; done) | (simp; omega))))
    have HP_8 := Lib.hid (HP_7.out.after B8)
    have HQ_8 := Lib.hid (HQ_7.out.after B8)
    have HV_8 := Lib.hid (HV_7.out.after B8)
    have HS_8 := Lib.hid (show Lies w8 _ 23 #[.int .i64 x1, .int .i64 x2, .int .i64 x3] from (by first | exact (Lies.made w7 23 #[.int .i64 x1, .int .i64 x2, .int .i64 x3]).after hb8 | exact ((Lies.made w7 23 #[.int .i64 x1, .int .i64 x2, .int .i64 x3]).alloc _).after hb8 | exact (((Lies.made w7 23 #[.int .i64 x1, .int .i64 x2, .int .i64 x3]).alloc _).alloc _).after hb8))
    have HT_8 := Lib.hid (show Lies w8 _ 23 #[.int .i64 y1, .int .i64 y2, .int .i64 y3] from (by first | exact (Lies.made (w7.alloc (.cells #[.int .i64 x1, .int .i64 x2, .int .i64 x3] 23)) 23 #[.int .i64 y1, .int .i64 y2, .int .i64 y3]).after hb8 | exact ((Lies.made (w7.alloc (.cells #[.int .i64 x1, .int .i64 x2, .int .i64 x3] 23)) 23 #[.int .i64 y1, .int .i64 y2, .int .i64 y3]).alloc _).after hb8 | exact (((Lies.made (w7.alloc (.cells #[.int .i64 x1, .int .i64 x2, .int .i64 x3] 23)) 23 #[.int .i64 y1, .int .i64 y2, .int .i64 y3]).alloc _).alloc _).after hb8))
    clear HP_7 HQ_7 HV_7
    have A8 : Below w.heap.size w w8 := A7.trans (B8.mono A7.size)
    clear A7 hb8 B8
    try simp only [World.size_alloc] at HT_8
    go_wp2_with fail
    refine (KM.out _ (A8.trans (Below.mono (by (repeat' (first | (with_reducible exact Below.refl _ _) | (with_reducible assumption) | (with_reducible refine Below.alloc ?_ ?_ _) | (with_reducible refine Below.setCell ?_ ?_ _) | (with_reducible refine below_row ?_ ?_ _) | (with_reducible refine Below.drew ?_) | (with_reducible refine below_drewN ?_ _) | (with_reducible refine Below.trans ?_ (Below.mono (by assumption) ?_)) | (first | exact Nat.le_refl _ | omega | (simp; done) | (simp; omega))))) A8.size))).mono ?_
    rintro _ w9 ⟨rfl, hb9⟩
    have s9 := hb9.size; try simp only [World.size_alloc, World.size_setCell, World.size_drew, setRow_size] at s9
    have B9 : Below w8.heap.size w8 w9 := by (repeat' (first | (with_reducible exact Below.refl _ _) | (with_reducible assumption) | (with_reducible refine Below.alloc ?_ ?_ _) | (with_reducible refine Below.setCell ?_ ?_ _) | (with_reducible refine below_row ?_ ?_ _) | (with_reducible refine Below.drew ?_) | (with_reducible refine below_drewN ?_ _) | (with_reducible refine Below.trans ?_ (Below.mono (by assumption) ?_)) | (first | exact Nat.le_refl _ | omega | (simp; done) | (simp; omega))))
    have HP_9 := Lib.hid (HP_8.out.after B9)
    have HQ_9 := Lib.hid (HQ_8.out.after B9)
    have HV_9 := Lib.hid (HV_8.out.after B9)
    have HS_9 := Lib.hid (HS_8.out.after B9)
    have HT_9 := Lib.hid (HT_8.out.after B9)
    have HX_9 := Lib.hid (show Lies w9 _ 23 #[.int .i64 x1, .int .i64 x2, .int .i64 x3] from (by first | exact (Lies.made w8 23 #[.int .i64 x1, .int .i64 x2, .int .i64 x3]).after hb9 | exact ((Lies.made w8 23 #[.int .i64 x1, .int .i64 x2, .int .i64 x3]).alloc _).after hb9 | exact (((Lies.made w8 23 #[.int .i64 x1, .int .i64 x2, .int .i64 x3]).alloc _).alloc _).after hb9))
    have HY_9 := Lib.hid (show Lies w9 _ 23 #[.int .i64 y1, .int .i64 y2, .int .i64 y3] from (by first | exact (Lies.made (w8.alloc (.cells #[.int .i64 x1, .int .i64 x2, .int .i64 x3] 23)) 23 #[.int .i64 y1, .int .i64 y2, .int .i64 y3]).after hb9 | exact ((Lies.made (w8.alloc (.cells #[.int .i64 x1, .int .i64 x2, .int .i64 x3] 23)) 23 #[.int .i64 y1, .int .i64 y2, .int .i64 y3]).alloc _).after hb9 | exact (((Lies.made (w8.alloc (.cells #[.int .i64 x1, .int .i64 x2, .int .i64 x3] 23)) 23 #[.int .i64 y1, .int .i64 y2, .int .i64 y3]).alloc _).alloc _).after hb9))
    clear HP_8 HQ_8 HV_8 HS_8 HT_8
    have A9 : Below w.heap.size w w9 := A8.trans (B9.mono A8.size)
    clear A8 hb9 B9
    try simp only [World.size_alloc] at HY_9
    go_wp2_with fail
    refine (KR.out _ (A9.trans (Below.mono (by (repeat' (first | (with_reducible exact Below.refl _ _) | (with_reducible assumption) | (with_reducible refine Below.alloc ?_ ?_ _) | (with_reducible refine Below.setCell ?_ ?_ _) | (with_reducible refine below_row ?_ ?_ _) | (with_reducible refine Below.drew ?_) | (with_reducible refine below_drewN ?_ _) | (with_reducible refine Below.trans ?_ (Below.mono (by assumption) ?_)) | (first | exact Nat.le_refl _ | omega | (simp; done) | (simp; omega))))) A9.size))).mono ?_
    rintro _ w10 ⟨rfl, hb10⟩
    have s10 := hb10.size; try simp only [World.size_alloc, World.size_setCell, World.size_drew, setRow_size] at s10
    have B10 : Below w9.heap.size w9 w10 := by (repeat' (first | (with_reducible exact Below.refl _ _) | (with_reducible assumption) | (with_reducible refine Below.alloc ?_ ?_ _) | (with_reducible refine Below.setCell ?_ ?_ _) | (with_reducible refine below_row ?_ ?_ _) | (with_reducible refine Below.drew ?_) | (with_reducible refine below_drewN ?_ _) | (with_reducible refine Below.trans ?_ (Below.mono (by assumption) ?_)) | (first | exact Nat.le_refl _ | omega | (simp; done) | (simp; omega))))
    have HP_10 := Lib.hid (HP_9.out.after B10)
    have HQ_10 := Lib.hid (HQ_9.out.after B10)
    have HV_10 := Lib.hid (HV_9.out.after B10)
    have HS_10 := Lib.hid (HS_9.out.after B10)
    have HT_10 := Lib.hid (HT_9.out.after B10)
    have HX_10 := Lib.hid (HX_9.out.after B10)
    have HY_10 := Lib.hid (HY_9.out.after B10)
    have HM_10 := Lib.hid (show Lies w10 _ 38 #[.int .i64 m1, .int .i64 m2] from (by first | exact (Lies.made w9 38 #[.int .i64 m1, .int .i64 m2]).after hb10 | exact ((Lies.made w9 38 #[.int .i64 m1, .int .i64 m2]).alloc _).after hb10 | exact (((Lies.made w9 38 #[.int .i64 m1, .int .i64 m2]).alloc _).alloc _).after hb10))
    clear HP_9 HQ_9 HV_9 HS_9 HT_9 HX_9 HY_9
    have A10 : Below w.heap.size w w10 := A9.trans (B10.mono A9.size)
    clear A9 hb10 B10
    have qS0 := HS_10.out.cell 0
    have qS1 := HS_10.out.cell 1
    have qS2 := HS_10.out.cell 2
    have zS := HS_10.out.lt
    have qT0 := HT_10.out.cell 0
    have qT1 := HT_10.out.cell 1
    have qT2 := HT_10.out.cell 2
    have zT := HT_10.out.lt
    have qX0 := HX_10.out.cell 0
    have qX1 := HX_10.out.cell 1
    have qX2 := HX_10.out.cell 2
    have zX := HX_10.out.lt
    have qY0 := HY_10.out.cell 0
    have qY1 := HY_10.out.cell 1
    have qY2 := HY_10.out.cell 2
    have zY := HY_10.out.lt
    have qM0 := HM_10.out.cell 0
    have qM1 := HM_10.out.cell 1
    have zM := HM_10.out.lt
    go_wp2_with fail
    refine (KS.out _ (A10.trans (Below.mono (by (repeat' (first | (with_reducible exact Below.refl _ _) | (with_reducible assumption) | (with_reducible refine Below.alloc ?_ ?_ _) | (with_reducible refine Below.setCell ?_ ?_ _) | (with_reducible refine below_row ?_ ?_ _) | (with_reducible refine Below.drew ?_) | (with_reducible refine below_drewN ?_ _) | (with_reducible refine Below.trans ?_ (Below.mono (by assumption) ?_)) | (first | exact Nat.le_refl _ | omega | (simp; done) | (simp; omega))))) A10.size))).mono ?_
    rintro _ w11 ⟨rfl, hb11⟩
    have s11 := hb11.size; try simp only [World.size_alloc, World.size_setCell, World.size_drew, setRow_size] at s11
    clear qS0 qS1 qS2 zS qT0 qT1 qT2 zT qX0 qX1 qX2 zX qY0 qY1 qY2 zY qM0 qM1 zM
    have B11 : Below w10.heap.size w10 w11 := by (repeat' (first | (with_reducible exact Below.refl _ _) | (with_reducible assumption) | (with_reducible refine Below.alloc ?_ ?_ _) | (with_reducible refine Below.setCell ?_ ?_ _) | (with_reducible refine below_row ?_ ?_ _) | (with_reducible refine Below.drew ?_) | (with_reducible refine below_drewN ?_ _) | (with_reducible refine Below.trans ?_ (Below.mono (by assumption) ?_)) | (first | exact Nat.le_refl _ | omega | (simp; done) | (simp; omega))))
    have HP_11 := Lib.hid (HP_10.out.after B11)
    have HQ_11 := Lib.hid (HQ_10.out.after B11)
    have HV_11 := Lib.hid (HV_10.out.after B11)
    have HS_11 := Lib.hid (HS_10.out.after B11)
    have HT_11 := Lib.hid (HT_10.out.after B11)
    have HX_11 := Lib.hid (HX_10.out.after B11)
    have HY_11 := Lib.hid (HY_10.out.after B11)
    have HM_11 := Lib.hid (HM_10.out.after B11)
    clear HP_10 HQ_10 HV_10 HS_10 HT_10 HX_10 HY_10 HM_10
    have A11 : Below w.heap.size w w11 := A10.trans (B11.mono A10.size)
    clear A10 hb11 B11
    go_wp2
    go_ret
    exact ⟨rfl, b0.trans (Below.mono (by (repeat' (first | (with_reducible exact Below.refl _ _) | (with_reducible assumption) | (with_reducible refine Below.alloc ?_ ?_ _) | (with_reducible refine Below.setCell ?_ ?_ _) | (with_reducible refine below_row ?_ ?_ _) | (with_reducible refine Below.drew ?_) | (with_reducible refine below_drewN ?_ _) | (with_reducible refine Below.trans ?_ (Below.mono (by assumption) ?_)) | (first | exact Nat.le_refl _ | omega | (simp; done) | (simp; omega))))) b0.size)⟩
set_option maxHeartbeats 8000000 in
set_option maxRecDepth 100000 in
theorem fits_some (b off : Nat) (ds : List D3) (c : Nat) (an al au bn bl bu nom lo hi un : Int) (w0 : World) (hl : ds.length ≤ 40) (hc : cellsD w0 b off ds) (hbb : 0 < ds.length → b < w0.heap.size) : Calls Try.prog 4 #[.agg #[.int .i64 an, .int .i64 al, .int .i64 au], .agg #[.int .i64 bn, .int .i64 bl, .int .i64 bu], .int .i64 nom, .agg #[.int .i64 lo, .int .i64 hi], .int .u8 un, .slice (some ⟨b, off, none⟩) ds.length c] w0 fun e w' => e = .returned (.bool true) ∧ Below w0.heap.size w0 w' := by
  have hlen : ((ds.length : Nat) : Int) ≤ 40 := by omega
  have h40 : decide ((40 : Int) < (ds.length : Int)) = false := by simp; omega
  obtain ⟨i0, hi0, hz0, hz1, hz2⟩ := info_parts info_dim
  have HC := Lib.hid hc
  clear hc
  have HI := Lib.hid (fun W => Inside_any an al au bn bl bu W)
  have HIR := Lib.hid (fun W => rInside_any an al au bn bl bu W)
  have HF := Lib.hid (fun W => Fit_any an al au bn bl bu W)
  have HFR := Lib.hid (fun W => rFit_any an al au bn bl bu W)
  have HO := Lib.hid (fun W => Room_any an al au lo hi W)
  have HOR := Lib.hid (fun W => rRoom_any an al au lo hi W)
  have HH := Lib.hid (fun W => Share_any un nom lo hi W)
  have HHR := Lib.hid (fun W => rShare_any un nom lo hi W)
  generalize insS al au bl bu (bad2 an al au bn bl bu) = I1 at *
  generalize (bif bad2 an al au bn bl bu then (10 : Int) else 0) = I2 at *
  generalize fitS al au bl bu (bad2 an al au bn bl bu) = F at *
  generalize roomS an al au lo hi = R at *
  generalize shareS un nom lo hi = S at *
  obtain ⟨⟨f1, f2⟩, f3, f4⟩ := F
  obtain ⟨⟨r1, r2, r3⟩, r4⟩ := R
  obtain ⟨⟨x1, x2, x3⟩, ⟨y1, y2, y3⟩, x4⟩ := S
  simp only at HF HFR
  generalize hM : meetR ds = M at *
  have HMM := Lib.hid hM
  clear hM
  obtain ⟨⟨m1, m2⟩, m3⟩ := M
  have hown0 : ((((w0.alloc (.cells #[.int .i64 an, .int .i64 al, .int .i64 au] 23)).alloc (.cells #[.int .i64 bn, .int .i64 bl, .int .i64 bu] 23)).alloc (.cells #[.int .i64 lo, .int .i64 hi] 38)).alloc (.cells #[] 23)).ownsRow (w0.heap.size + 1 + 1 + 1) 23 3 (.slice (some ⟨w0.heap.size + 1 + 1 + 1, 0, none⟩) 0 0) 0 [] := by
    have h := World.ownsRow_made (base := w0.heap.size + 1 + 1 + 1) (e := 23) (size := 3) (((w0.alloc (.cells #[.int .i64 an, .int .i64 al, .int .i64 au] 23)).alloc (.cells #[.int .i64 bn, .int .i64 bl, .int .i64 bu] 23)).alloc (.cells #[.int .i64 lo, .int .i64 hi] 38)) #[] 0 (by simp) (by decide) rfl
    simpa using h
  go_enter Try.func4, Try.ntmps4
  go_wp2_with (first | (at_builtin; go_loud (refine wpList_append_own _ rfl (.tmp 37) (.tmp 38) 39 rfl (w0.heap.size + 1 + 1 + 1) 23 i0 (.agg #[.int .i64 0, .int .i64 0, .int .i64 0]) 3 24 Try.underlying39 hi0 hz0 hz1 hz2 rfl (by decide) (.slice (some ⟨w0.heap.size + 1 + 1 + 1, 0, none⟩) 0 0) 0 [] rfl hown0 ⟨b, off, none⟩ ds.length c (cells3 ds) rfl ?c1 ?c2 ?c3 ?c4 ?c5 ?c6 ?_)))
  case c1 => rw [cells3_length]
  case c2 => exact news_dims (by (repeat' (first | (with_reducible exact Below.refl _ _) | (with_reducible assumption) | (with_reducible refine Below.alloc ?_ ?_ _) | (with_reducible refine Below.setCell ?_ ?_ _) | (with_reducible refine below_row ?_ ?_ _) | (with_reducible refine Below.drew ?_) | (with_reducible refine below_drewN ?_ _) | (with_reducible refine Below.trans ?_ (Below.mono (by assumption) ?_)) | (first | exact Nat.le_refl _ | omega | (simp; done) | (simp; omega))))) HC.out hbb
  case c3 => exact cells3_one ds
  case c4 => unfold maxLen; omega
  case c5 => omega
  case c6 => simp
  · intro v' w hown hgrow hnil
    obtain ⟨-, (⟨h, -⟩ | ⟨g, cap, cur, rfl, hg, hgg, hnc, hcm, hcs, htk⟩)⟩ := hown
    · exact absurd h (by simpa using hnil)
    have b0 : Below w0.heap.size w0 w := by
      refine Below.grown ?_ hgrow (by simp; omega) (fun k hk => by simp [Value.ownBlock] at hk; omega)
      (repeat' (first | (with_reducible exact Below.refl _ _) | (with_reducible assumption) | (with_reducible refine Below.alloc ?_ ?_ _) | (with_reducible refine Below.setCell ?_ ?_ _) | (with_reducible refine below_row ?_ ?_ _) | (with_reducible refine Below.drew ?_) | (with_reducible refine below_drewN ?_ _) | (with_reducible refine Below.trans ?_ (Below.mono (by assumption) ?_)) | (first | exact Nat.le_refl _ | omega | (simp; done) | (simp; omega))))
    try simp only [Nat.zero_add, List.nil_append] at htk
    have HOW := Lib.hid (own_dims hgg htk)
    have hgl : g < w.heap.size := (Array.getElem?_eq_some_iff.1 hgg).1
    have HC1 := Lib.hid (cellsD_after b0 HC.out hbb)
    have hbb1 : 0 < ds.length → b < w.heap.size := fun h => Nat.lt_of_lt_of_le (hbb h) b0.size
    have HP_0 := Lib.hid (show Lies w (w0.heap.size) 23 #[.int .i64 an, .int .i64 al, .int .i64 au] from (hgrow.block (w0.heap.size) (by first | (simp; done) | (simp; omega)) (by first | (simp [Value.ownBlock]; done) | (simp [Value.ownBlock]; omega))).trans ((((Lies.made w0 23 #[.int .i64 an, .int .i64 al, .int .i64 au]).alloc _).alloc _).alloc _))
    have HQ_0 := Lib.hid (show Lies w (w0.heap.size + 1) 23 #[.int .i64 bn, .int .i64 bl, .int .i64 bu] from (hgrow.block (w0.heap.size + 1) (by first | (simp; done) | (simp; omega)) (by first | (simp [Value.ownBlock]; done) | (simp [Value.ownBlock]; omega))).trans (((Lies.new (u := w0.alloc _) (by simp)).alloc _).alloc _))
    have HV_0 := Lib.hid (show Lies w (w0.heap.size + 1 + 1) 38 #[.int .i64 lo, .int .i64 hi] from (hgrow.block (w0.heap.size + 1 + 1) (by first | (simp; done) | (simp; omega)) (by first | (simp [Value.ownBlock]; done) | (simp [Value.ownBlock]; omega))).trans ((Lies.new (u := (w0.alloc _).alloc _) (by simp)).alloc _))
    have KM := Lib.hid (fun W (hW : Below w.heap.size w W) => HMM.out ▸ Meet_any (some ⟨g, 0, none⟩) g 0 ds cap W (fun _ => rfl) (cellsD_after hW HOW.out (fun _ => hgl)))
    have KR := Lib.hid (fun W (hW : Below w.heap.size w W) => HMM.out ▸ rMeet_any (some ⟨b, off, none⟩) b off ds c W (fun _ => rfl) (cellsD_after hW HC1.out hbb1))
    have KS := Lib.hid (fun W (hW : Below w.heap.size w W) => rSame_any (some ⟨g, 0, none⟩) (some ⟨b, off, none⟩) g 0 b off ds cap c W hl (fun _ => rfl) (cellsD_after hW HOW.out (fun _ => hgl)) (fun _ => rfl) (cellsD_after hW HC1.out hbb1))
    clear hgg hnc hcm hcs htk hnil hgrow hown0 hi0 hz0 hz1 hz2 HOW HC1 hbb1 hbb HC
    have qP0 := HP_0.out.cell 0
    have qP1 := HP_0.out.cell 1
    have qP2 := HP_0.out.cell 2
    have zP := HP_0.out.lt
    have qQ0 := HQ_0.out.cell 0
    have qQ1 := HQ_0.out.cell 1
    have qQ2 := HQ_0.out.cell 2
    have zQ := HQ_0.out.lt
    go_wp2_with fail
    refine (HI.out _).mono ?_
    rintro _ w1 ⟨rfl, hb1⟩
    have s1 := hb1.size; try simp only [World.size_alloc, World.size_setCell, World.size_drew, setRow_size] at s1
    clear qP0 qP1 qP2 zP qQ0 qQ1 qQ2 zQ
    have B1 : Below w.heap.size w w1 := by (repeat' (first | (with_reducible exact Below.refl _ _) | (with_reducible assumption) | (with_reducible refine Below.alloc ?_ ?_ _) | (with_reducible refine Below.setCell ?_ ?_ _) | (with_reducible refine below_row ?_ ?_ _) | (with_reducible refine Below.drew ?_) | (with_reducible refine below_drewN ?_ _) | (with_reducible refine Below.trans ?_ (Below.mono (by assumption) ?_)) | (first | exact Nat.le_refl _ | omega | (simp; done) | (simp; omega))))
    have HP_1 := Lib.hid (HP_0.out.after B1)
    have HQ_1 := Lib.hid (HQ_0.out.after B1)
    have HV_1 := Lib.hid (HV_0.out.after B1)
    have A1 : Below w.heap.size w w1 := B1
    clear hb1 B1
    have qP0 := HP_1.out.cell 0
    have qP1 := HP_1.out.cell 1
    have qP2 := HP_1.out.cell 2
    have zP := HP_1.out.lt
    have qQ0 := HQ_1.out.cell 0
    have qQ1 := HQ_1.out.cell 1
    have qQ2 := HQ_1.out.cell 2
    have zQ := HQ_1.out.lt
    go_wp2_with fail
    refine (HIR.out _).mono ?_
    rintro _ w2 ⟨rfl, hb2⟩
    have s2 := hb2.size; try simp only [World.size_alloc, World.size_setCell, World.size_drew, setRow_size] at s2
    clear qP0 qP1 qP2 zP qQ0 qQ1 qQ2 zQ
    have B2 : Below w1.heap.size w1 w2 := by (repeat' (first | (with_reducible exact Below.refl _ _) | (with_reducible assumption) | (with_reducible refine Below.alloc ?_ ?_ _) | (with_reducible refine Below.setCell ?_ ?_ _) | (with_reducible refine below_row ?_ ?_ _) | (with_reducible refine Below.drew ?_) | (with_reducible refine below_drewN ?_ _) | (with_reducible refine Below.trans ?_ (Below.mono (by assumption) ?_)) | (first | exact Nat.le_refl _ | omega | (simp; done) | (simp; omega))))
    have HP_2 := Lib.hid (HP_1.out.after B2)
    have HQ_2 := Lib.hid (HQ_1.out.after B2)
    have HV_2 := Lib.hid (HV_1.out.after B2)
    clear HP_1 HQ_1 HV_1
    have A2 : Below w.heap.size w w2 := A1.trans (B2.mono A1.size)
    clear A1 hb2 B2
    have qP0 := HP_2.out.cell 0
    have qP1 := HP_2.out.cell 1
    have qP2 := HP_2.out.cell 2
    have zP := HP_2.out.lt
    have qQ0 := HQ_2.out.cell 0
    have qQ1 := HQ_2.out.cell 1
    have qQ2 := HQ_2.out.cell 2
    have zQ := HQ_2.out.lt
    go_wp2_with fail
    refine (HF.out _).mono ?_
    rintro _ w3 ⟨rfl, hb3⟩
    have s3 := hb3.size; try simp only [World.size_alloc, World.size_setCell, World.size_drew, setRow_size] at s3
    clear qP0 qP1 qP2 zP qQ0 qQ1 qQ2 zQ
    have B3 : Below w2.heap.size w2 w3 := by (repeat' (first | (with_reducible exact Below.refl _ _) | (with_reducible assumption) | (with_reducible refine Below.alloc ?_ ?_ _) | (with_reducible refine Below.setCell ?_ ?_ _) | (with_reducible refine below_row ?_ ?_ _) | (with_reducible refine Below.drew ?_) | (with_reducible refine below_drewN ?_ _) | (with_reducible refine Below.trans ?_ (Below.mono (by assumption) ?_)) | (first | exact Nat.le_refl _ | omega | (simp; done) | (simp; omega))))
    have HP_3 := Lib.hid (HP_2.out.after B3)
    have HQ_3 := Lib.hid (HQ_2.out.after B3)
    have HV_3 := Lib.hid (HV_2.out.after B3)
    clear HP_2 HQ_2 HV_2
    have A3 : Below w.heap.size w w3 := A2.trans (B3.mono A2.size)
    clear A2 hb3 B3
    have qP0 := HP_3.out.cell 0
    have qP1 := HP_3.out.cell 1
    have qP2 := HP_3.out.cell 2
    have zP := HP_3.out.lt
    have qQ0 := HQ_3.out.cell 0
    have qQ1 := HQ_3.out.cell 1
    have qQ2 := HQ_3.out.cell 2
    have zQ := HQ_3.out.lt
    go_wp2_with fail
    refine (HFR.out _).mono ?_
    rintro _ w4 ⟨rfl, hb4⟩
    have s4 := hb4.size; try simp only [World.size_alloc, World.size_setCell, World.size_drew, setRow_size] at s4
    clear qP0 qP1 qP2 zP qQ0 qQ1 qQ2 zQ
    have B4 : Below w3.heap.size w3 w4 := by (repeat' (first | (with_reducible exact Below.refl _ _) | (with_reducible assumption) | (with_reducible refine Below.alloc ?_ ?_ _) | (with_reducible refine Below.setCell ?_ ?_ _) | (with_reducible refine below_row ?_ ?_ _) | (with_reducible refine Below.drew ?_) | (with_reducible refine below_drewN ?_ _) | (with_reducible refine Below.trans ?_ (Below.mono (by assumption) ?_)) | (first | exact Nat.le_refl _ | omega | (simp; done) | (simp; omega))))
    have HP_4 := Lib.hid (HP_3.out.after B4)
    have HQ_4 := Lib.hid (HQ_3.out.after B4)
    have HV_4 := Lib.hid (HV_3.out.after B4)
    have HF_4 := Lib.hid (show Lies w4 _ 38 #[.int .i64 f1, .int .i64 f2] from (by first | exact (Lies.made w3 38 #[.int .i64 f1, .int .i64 f2]).after hb4 | exact ((Lies.made w3 38 #[.int .i64 f1, .int .i64 f2]).alloc _).after hb4 | exact (((Lies.made w3 38 #[.int .i64 f1, .int .i64 f2]).alloc _).alloc _).after hb4))
    clear HP_3 HQ_3 HV_3
    have A4 : Below w.heap.size w w4 := A3.trans (B4.mono A3.size)
    clear A3 hb4 B4
    have qP0 := HP_4.out.cell 0
    have qP1 := HP_4.out.cell 1
    have qP2 := HP_4.out.cell 2
    have zP := HP_4.out.lt
    have qV0 := HV_4.out.cell 0
    have qV1 := HV_4.out.cell 1
    have zV := HV_4.out.lt
    go_wp2_with fail
    refine (HO.out _).mono ?_
    rintro _ w5 ⟨rfl, hb5⟩
    have s5 := hb5.size; try simp only [World.size_alloc, World.size_setCell, World.size_drew, setRow_size] at s5
    clear qP0 qP1 qP2 zP qV0 qV1 zV
    have B5 : Below w4.heap.size w4 w5 := by (repeat' (first | (with_reducible exact Below.refl _ _) | (with_reducible assumption) | (with_reducible refine Below.alloc ?_ ?_ _) | (with_reducible refine Below.setCell ?_ ?_ _) | (with_reducible refine below_row ?_ ?_ _) | (with_reducible refine Below.drew ?_) | (with_reducible refine below_drewN ?_ _) | (with_reducible refine Below.trans ?_ (Below.mono (by assumption) ?_)) | (first | exact Nat.le_refl _ | omega | (simp; done) | (simp; omega))))
    have HP_5 := Lib.hid (HP_4.out.after B5)
    have HQ_5 := Lib.hid (HQ_4.out.after B5)
    have HV_5 := Lib.hid (HV_4.out.after B5)
    have HF_5 := Lib.hid (HF_4.out.after B5)
    have HG_5 := Lib.hid (show Lies w5 _ 38 #[.int .i64 f1, .int .i64 f2] from (by first | exact (Lies.made w4 38 #[.int .i64 f1, .int .i64 f2]).after hb5 | exact ((Lies.made w4 38 #[.int .i64 f1, .int .i64 f2]).alloc _).after hb5 | exact (((Lies.made w4 38 #[.int .i64 f1, .int .i64 f2]).alloc _).alloc _).after hb5))
    clear HP_4 HQ_4 HV_4 HF_4
    have A5 : Below w.heap.size w w5 := A4.trans (B5.mono A4.size)
    clear A4 hb5 B5
    have qP0 := HP_5.out.cell 0
    have qP1 := HP_5.out.cell 1
    have qP2 := HP_5.out.cell 2
    have zP := HP_5.out.lt
    have qV0 := HV_5.out.cell 0
    have qV1 := HV_5.out.cell 1
    have zV := HV_5.out.lt
    go_wp2_with fail
    refine (HOR.out _).mono ?_
    rintro _ w6 ⟨rfl, hb6⟩
    have s6 := hb6.size; try simp only [World.size_alloc, World.size_setCell, World.size_drew, setRow_size] at s6
    clear qP0 qP1 qP2 zP qV0 qV1 zV
    have B6 : Below w5.heap.size w5 w6 := by (repeat' (first | (with_reducible exact Below.refl _ _) | (with_reducible assumption) | (with_reducible refine Below.alloc ?_ ?_ _) | (with_reducible refine Below.setCell ?_ ?_ _) | (with_reducible refine below_row ?_ ?_ _) | (with_reducible refine Below.drew ?_) | (with_reducible refine below_drewN ?_ _) | (with_reducible refine Below.trans ?_ (Below.mono (by assumption) ?_)) | (first | exact Nat.le_refl _ | omega | (simp; done) | (simp; omega))))
    have HP_6 := Lib.hid (HP_5.out.after B6)
    have HQ_6 := Lib.hid (HQ_5.out.after B6)
    have HV_6 := Lib.hid (HV_5.out.after B6)
    have HF_6 := Lib.hid (HF_5.out.after B6)
    have HG_6 := Lib.hid (HG_5.out.after B6)
    have HR_6 := Lib.hid (show Lies w6 _ 23 #[.int .i64 r1, .int .i64 r2, .int .i64 r3] from (by first | exact (Lies.made w5 23 #[.int .i64 r1, .int .i64 r2, .int .i64 r3]).after hb6 | exact ((Lies.made w5 23 #[.int .i64 r1, .int .i64 r2, .int .i64 r3]).alloc _).after hb6 | exact (((Lies.made w5 23 #[.int .i64 r1, .int .i64 r2, .int .i64 r3]).alloc _).alloc _).after hb6))
    clear HP_5 HQ_5 HV_5 HF_5 HG_5
    have A6 : Below w.heap.size w w6 := A5.trans (B6.mono A5.size)
    clear A5 hb6 B6
    have qV0 := HV_6.out.cell 0
    have qV1 := HV_6.out.cell 1
    have zV := HV_6.out.lt
    have qF0 := HF_6.out.cell 0
    have qF1 := HF_6.out.cell 1
    have zF := HF_6.out.lt
    have qG0 := HG_6.out.cell 0
    have qG1 := HG_6.out.cell 1
    have zG := HG_6.out.lt
    have qR0 := HR_6.out.cell 0
    have qR1 := HR_6.out.cell 1
    have qR2 := HR_6.out.cell 2
    have zR := HR_6.out.lt
    go_wp2_with fail
    refine (HH.out _).mono ?_
    rintro _ w7 ⟨rfl, hb7⟩
    have s7 := hb7.size; try simp only [World.size_alloc, World.size_setCell, World.size_drew, setRow_size] at s7
    clear qV0 qV1 zV qF0 qF1 zF qG0 qG1 zG qR0 qR1 qR2 zR
    have B7 : Below w6.heap.size w6 w7 := by (repeat' (first | (with_reducible exact Below.refl _ _) | (with_reducible assumption) | (with_reducible refine Below.alloc ?_ ?_ _) | (with_reducible refine Below.setCell ?_ ?_ _) | (with_reducible refine below_row ?_ ?_ _) | (with_reducible refine Below.drew ?_) | (with_reducible refine below_drewN ?_ _) | (with_reducible refine Below.trans ?_ (Below.mono (by assumption) ?_)) | (first | exact Nat.le_refl _ | omega | (simp; done) | (simp; omega))))
    have HP_7 := Lib.hid (HP_6.out.after B7)
    have HQ_7 := Lib.hid (HQ_6.out.after B7)
    have HV_7 := Lib.hid (HV_6.out.after B7)
    have HF_7 := Lib.hid (HF_6.out.after B7)
    have HG_7 := Lib.hid (HG_6.out.after B7)
    have HR_7 := Lib.hid (HR_6.out.after B7)
    clear HP_6 HQ_6 HV_6 HF_6 HG_6 HR_6
    have A7 : Below w.heap.size w w7 := A6.trans (B7.mono A6.size)
    clear A6 hb7 B7
    clear HF_7
    clear HG_7
    clear HR_7
    have zzV := Nat.lt_succ_of_lt HV_7.out.lt
    have qV0 := HV_7.out.cell 0
    have qV1 := HV_7.out.cell 1
    have zV := HV_7.out.lt
    go_wp2_with fail
    refine (HHR.out _).mono ?_
    rintro _ w8 ⟨rfl, hb8⟩
    have s8 := hb8.size; try simp only [World.size_alloc, World.size_setCell, World.size_drew, setRow_size] at s8
    clear qV0 qV1 zV
    have B8 : Below w7.heap.size w7 w8 := by (repeat' (first | (with_reducible exact Below.refl _ _) | (with_reducible assumption) | (with_reducible refine Below.alloc ?_ ?_ _) | (with_reducible refine Below.setCell ?_ ?_ _) | (with_reducible refine below_row ?_ ?_ _) | (with_reducible refine Below.drew ?_) | (with_reducible refine below_drewN ?_ _) | (with_reducible refine Below.trans ?_ (Below.mono (by assumption) ?_)) | (first | exact Nat.le_refl _ | omega | (simp; done) | (simp; omega))))
    have HP_8 := Lib.hid (HP_7.out.after B8)
    have HQ_8 := Lib.hid (HQ_7.out.after B8)
    have HV_8 := Lib.hid (HV_7.out.after B8)
    have HS_8 := Lib.hid (show Lies w8 _ 23 #[.int .i64 x1, .int .i64 x2, .int .i64 x3] from (by first | exact (Lies.made w7 23 #[.int .i64 x1, .int .i64 x2, .int .i64 x3]).after hb8 | exact ((Lies.made w7 23 #[.int .i64 x1, .int .i64 x2, .int .i64 x3]).alloc _).after hb8 | exact (((Lies.made w7 23 #[.int .i64 x1, .int .i64 x2, .int .i64 x3]).alloc _).alloc _).after hb8))
    have HT_8 := Lib.hid (show Lies w8 _ 23 #[.int .i64 y1, .int .i64 y2, .int .i64 y3] from (by first | exact (Lies.made (w7.alloc (.cells #[.int .i64 x1, .int .i64 x2, .int .i64 x3] 23)) 23 #[.int .i64 y1, .int .i64 y2, .int .i64 y3]).after hb8 | exact ((Lies.made (w7.alloc (.cells #[.int .i64 x1, .int .i64 x2, .int .i64 x3] 23)) 23 #[.int .i64 y1, .int .i64 y2, .int .i64 y3]).alloc _).after hb8 | exact (((Lies.made (w7.alloc (.cells #[.int .i64 x1, .int .i64 x2, .int .i64 x3] 23)) 23 #[.int .i64 y1, .int .i64 y2, .int .i64 y3]).alloc _).alloc _).after hb8))
    clear HP_7 HQ_7 HV_7
    have A8 : Below w.heap.size w w8 := A7.trans (B8.mono A7.size)
    clear A7 hb8 B8
    try simp only [World.size_alloc] at HT_8
    go_wp2_with fail
    refine (KM.out _ (A8.trans (Below.mono (by (repeat' (first | (with_reducible exact Below.refl _ _) | (with_reducible assumption) | (with_reducible refine Below.alloc ?_ ?_ _) | (with_reducible refine Below.setCell ?_ ?_ _) | (with_reducible refine below_row ?_ ?_ _) | (with_reducible refine Below.drew ?_) | (with_reducible refine below_drewN ?_ _) | (with_reducible refine Below.trans ?_ (Below.mono (by assumption) ?_)) | (first | exact Nat.le_refl _ | omega | (simp; done) | (simp; omega))))) A8.size))).mono ?_
    rintro _ w9 ⟨rfl, hb9⟩
    have s9 := hb9.size; try simp only [World.size_alloc, World.size_setCell, World.size_drew, setRow_size] at s9
    have B9 : Below w8.heap.size w8 w9 := by (repeat' (first | (with_reducible exact Below.refl _ _) | (with_reducible assumption) | (with_reducible refine Below.alloc ?_ ?_ _) | (with_reducible refine Below.setCell ?_ ?_ _) | (with_reducible refine below_row ?_ ?_ _) | (with_reducible refine Below.drew ?_) | (with_reducible refine below_drewN ?_ _) | (with_reducible refine Below.trans ?_ (Below.mono (by assumption) ?_)) | (first | exact Nat.le_refl _ | omega | (simp; done) | (simp; omega))))
    have HP_9 := Lib.hid (HP_8.out.after B9)
    have HQ_9 := Lib.hid (HQ_8.out.after B9)
    have HV_9 := Lib.hid (HV_8.out.after B9)
    have HS_9 := Lib.hid (HS_8.out.after B9)
    have HT_9 := Lib.hid (HT_8.out.after B9)
    have HX_9 := Lib.hid (show Lies w9 _ 23 #[.int .i64 x1, .int .i64 x2, .int .i64 x3] from (by first | exact (Lies.made w8 23 #[.int .i64 x1, .int .i64 x2, .int .i64 x3]).after hb9 | exact ((Lies.made w8 23 #[.int .i64 x1, .int .i64 x2, .int .i64 x3]).alloc _).after hb9 | exact (((Lies.made w8 23 #[.int .i64 x1, .int .i64 x2, .int .i64 x3]).alloc _).alloc _).after hb9))
    have HY_9 := Lib.hid (show Lies w9 _ 23 #[.int .i64 y1, .int .i64 y2, .int .i64 y3] from (by first | exact (Lies.made (w8.alloc (.cells #[.int .i64 x1, .int .i64 x2, .int .i64 x3] 23)) 23 #[.int .i64 y1, .int .i64 y2, .int .i64 y3]).after hb9 | exact ((Lies.made (w8.alloc (.cells #[.int .i64 x1, .int .i64 x2, .int .i64 x3] 23)) 23 #[.int .i64 y1, .int .i64 y2, .int .i64 y3]).alloc _).after hb9 | exact (((Lies.made (w8.alloc (.cells #[.int .i64 x1, .int .i64 x2, .int .i64 x3] 23)) 23 #[.int .i64 y1, .int .i64 y2, .int .i64 y3]).alloc _).alloc _).after hb9))
    clear HP_8 HQ_8 HV_8 HS_8 HT_8
    have A9 : Below w.heap.size w w9 := A8.trans (B9.mono A8.size)
    clear A8 hb9 B9
    try simp only [World.size_alloc] at HY_9
    go_wp2_with fail
    refine (KR.out _ (A9.trans (Below.mono (by (repeat' (first | (with_reducible exact Below.refl _ _) | (with_reducible assumption) | (with_reducible refine Below.alloc ?_ ?_ _) | (with_reducible refine Below.setCell ?_ ?_ _) | (with_reducible refine below_row ?_ ?_ _) | (with_reducible refine Below.drew ?_) | (with_reducible refine below_drewN ?_ _) | (with_reducible refine Below.trans ?_ (Below.mono (by assumption) ?_)) | (first | exact Nat.le_refl _ | omega | (simp; done) | (simp; omega))))) A9.size))).mono ?_
    rintro _ w10 ⟨rfl, hb10⟩
    have s10 := hb10.size; try simp only [World.size_alloc, World.size_setCell, World.size_drew, setRow_size] at s10
    have B10 : Below w9.heap.size w9 w10 := by (repeat' (first | (with_reducible exact Below.refl _ _) | (with_reducible assumption) | (with_reducible refine Below.alloc ?_ ?_ _) | (with_reducible refine Below.setCell ?_ ?_ _) | (with_reducible refine below_row ?_ ?_ _) | (with_reducible refine Below.drew ?_) | (with_reducible refine below_drewN ?_ _) | (with_reducible refine Below.trans ?_ (Below.mono (by assumption) ?_)) | (first | exact Nat.le_refl _ | omega | (simp; done) | (simp; omega))))
    have HP_10 := Lib.hid (HP_9.out.after B10)
    have HQ_10 := Lib.hid (HQ_9.out.after B10)
    have HV_10 := Lib.hid (HV_9.out.after B10)
    have HS_10 := Lib.hid (HS_9.out.after B10)
    have HT_10 := Lib.hid (HT_9.out.after B10)
    have HX_10 := Lib.hid (HX_9.out.after B10)
    have HY_10 := Lib.hid (HY_9.out.after B10)
    have HM_10 := Lib.hid (show Lies w10 _ 38 #[.int .i64 m1, .int .i64 m2] from (by first | exact (Lies.made w9 38 #[.int .i64 m1, .int .i64 m2]).after hb10 | exact ((Lies.made w9 38 #[.int .i64 m1, .int .i64 m2]).alloc _).after hb10 | exact (((Lies.made w9 38 #[.int .i64 m1, .int .i64 m2]).alloc _).alloc _).after hb10))
    clear HP_9 HQ_9 HV_9 HS_9 HT_9 HX_9 HY_9
    have A10 : Below w.heap.size w w10 := A9.trans (B10.mono A9.size)
    clear A9 hb10 B10
    have qS0 := HS_10.out.cell 0
    have qS1 := HS_10.out.cell 1
    have qS2 := HS_10.out.cell 2
    have zS := HS_10.out.lt
    have qT0 := HT_10.out.cell 0
    have qT1 := HT_10.out.cell 1
    have qT2 := HT_10.out.cell 2
    have zT := HT_10.out.lt
    have qX0 := HX_10.out.cell 0
    have qX1 := HX_10.out.cell 1
    have qX2 := HX_10.out.cell 2
    have zX := HX_10.out.lt
    have qY0 := HY_10.out.cell 0
    have qY1 := HY_10.out.cell 1
    have qY2 := HY_10.out.cell 2
    have zY := HY_10.out.lt
    have qM0 := HM_10.out.cell 0
    have qM1 := HM_10.out.cell 1
    have zM := HM_10.out.lt
    go_wp2_with fail
    refine (KS.out _ (A10.trans (Below.mono (by (repeat' (first | (with_reducible exact Below.refl _ _) | (with_reducible assumption) | (with_reducible refine Below.alloc ?_ ?_ _) | (with_reducible refine Below.setCell ?_ ?_ _) | (with_reducible refine below_row ?_ ?_ _) | (with_reducible refine Below.drew ?_) | (with_reducible refine below_drewN ?_ _) | (with_reducible refine Below.trans ?_ (Below.mono (by assumption) ?_)) | (first | exact Nat.le_refl _ | omega | (simp; done) | (simp; omega))))) A10.size))).mono ?_
    rintro _ w11 ⟨rfl, hb11⟩
    have s11 := hb11.size; try simp only [World.size_alloc, World.size_setCell, World.size_drew, setRow_size] at s11
    clear qS0 qS1 qS2 zS qT0 qT1 qT2 zT qX0 qX1 qX2 zX qY0 qY1 qY2 zY qM0 qM1 zM
    have B11 : Below w10.heap.size w10 w11 := by (repeat' (first | (with_reducible exact Below.refl _ _) | (with_reducible assumption) | (with_reducible refine Below.alloc ?_ ?_ _) | (with_reducible refine Below.setCell ?_ ?_ _) | (with_reducible refine below_row ?_ ?_ _) | (with_reducible refine Below.drew ?_) | (with_reducible refine below_drewN ?_ _) | (with_reducible refine Below.trans ?_ (Below.mono (by assumption) ?_)) | (first | exact Nat.le_refl _ | omega | (simp; done) | (simp; omega))))
    have HP_11 := Lib.hid (HP_10.out.after B11)
    have HQ_11 := Lib.hid (HQ_10.out.after B11)
    have HV_11 := Lib.hid (HV_10.out.after B11)
    have HS_11 := Lib.hid (HS_10.out.after B11)
    have HT_11 := Lib.hid (HT_10.out.after B11)
    have HX_11 := Lib.hid (HX_10.out.after B11)
    have HY_11 := Lib.hid (HY_10.out.after B11)
    have HM_11 := Lib.hid (HM_10.out.after B11)
    clear HP_10 HQ_10 HV_10 HS_10 HT_10 HX_10 HY_10 HM_10
    have A11 : Below w.heap.size w w11 := A10.trans (B11.mono A10.size)
    clear A10 hb11 B11
    go_wp2
    go_ret
    exact ⟨rfl, b0.trans (Below.mono (by (repeat' (first | (with_reducible exact Below.refl _ _) | (with_reducible assumption) | (with_reducible refine Below.alloc ?_ ?_ _) | (with_reducible refine Below.setCell ?_ ?_ _) | (with_reducible refine below_row ?_ ?_ _) | (with_reducible refine Below.drew ?_) | (with_reducible refine below_drewN ?_ _) | (with_reducible refine Below.trans ?_ (Below.mono (by assumption) ?_)) | (first | exact Nat.le_refl _ | omega | (simp; done) | (simp; omega))))) b0.size)⟩
set_option maxHeartbeats 8000000 in
set_option maxRecDepth 100000 in
theorem fits_empty (ad : Addr) (c : Nat) (an al au bn bl bu nom lo hi un : Int) (w0 : World)  : Calls Try.prog 4 #[.agg #[.int .i64 an, .int .i64 al, .int .i64 au], .agg #[.int .i64 bn, .int .i64 bl, .int .i64 bu], .int .i64 nom, .agg #[.int .i64 lo, .int .i64 hi], .int .u8 un, .slice (some ad) 0 c] w0 fun e w' => e = .returned (.bool true) ∧ Below w0.heap.size w0 w' := by
  obtain ⟨i0, hi0, hz0, hz1, hz2⟩ := info_parts info_dim
  have HI := Lib.hid (fun W => Inside_any an al au bn bl bu W)
  have HIR := Lib.hid (fun W => rInside_any an al au bn bl bu W)
  have HF := Lib.hid (fun W => Fit_any an al au bn bl bu W)
  have HFR := Lib.hid (fun W => rFit_any an al au bn bl bu W)
  have HO := Lib.hid (fun W => Room_any an al au lo hi W)
  have HOR := Lib.hid (fun W => rRoom_any an al au lo hi W)
  have HH := Lib.hid (fun W => Share_any un nom lo hi W)
  have HHR := Lib.hid (fun W => rShare_any un nom lo hi W)
  generalize insS al au bl bu (bad2 an al au bn bl bu) = I1 at *
  generalize (bif bad2 an al au bn bl bu then (10 : Int) else 0) = I2 at *
  generalize fitS al au bl bu (bad2 an al au bn bl bu) = F at *
  generalize roomS an al au lo hi = R at *
  generalize shareS un nom lo hi = S at *
  obtain ⟨⟨f1, f2⟩, f3, f4⟩ := F
  obtain ⟨⟨r1, r2, r3⟩, r4⟩ := R
  obtain ⟨⟨x1, x2, x3⟩, ⟨y1, y2, y3⟩, x4⟩ := S
  simp only at HF HFR
  generalize hM : meetR [] = M at *
  have HMM := Lib.hid hM
  clear hM
  obtain ⟨⟨m1, m2⟩, m3⟩ := M
  have hown0 : ((((w0.alloc (.cells #[.int .i64 an, .int .i64 al, .int .i64 au] 23)).alloc (.cells #[.int .i64 bn, .int .i64 bl, .int .i64 bu] 23)).alloc (.cells #[.int .i64 lo, .int .i64 hi] 38)).alloc (.cells #[] 23)).ownsRow (w0.heap.size + 1 + 1 + 1) 23 3 (.slice (some ⟨w0.heap.size + 1 + 1 + 1, 0, none⟩) 0 0) 0 [] := by
    have h := World.ownsRow_made (base := w0.heap.size + 1 + 1 + 1) (e := 23) (size := 3) (((w0.alloc (.cells #[.int .i64 an, .int .i64 al, .int .i64 au] 23)).alloc (.cells #[.int .i64 bn, .int .i64 bl, .int .i64 bu] 23)).alloc (.cells #[.int .i64 lo, .int .i64 hi] 38)) #[] 0 (by simp) (by decide) rfl
    simpa using h
  go_enter Try.func4, Try.ntmps4
  go_wp2_with (first | (at_builtin; go_loud (refine wpList_append_own _ rfl (.tmp 37) (.tmp 38) 39 rfl (w0.heap.size + 1 + 1 + 1) 23 i0 (.agg #[.int .i64 0, .int .i64 0, .int .i64 0]) 3 24 Try.underlying39 hi0 hz0 hz1 hz2 rfl (by decide) (.slice (some ⟨w0.heap.size + 1 + 1 + 1, 0, none⟩) 0 0) 0 [] rfl hown0 ad 0 c [] rfl ?c1 ?c2 ?c3 ?c4 ?c5 ?c6 ?_)))
  case c1 => rfl
  case c2 => intro j u h; simp at h
  case c3 => intro v h; simp at h
  case c4 => unfold maxLen; omega
  case c5 => omega
  case c6 => simp
  · intro v' w hown hgrow hnil
    obtain ⟨-, (⟨h, -⟩ | ⟨g, cap, cur, rfl, hg, hgg, hnc, hcm, hcs, htk⟩)⟩ := hown
    · exact absurd h (by simpa using hnil)
    have b0 : Below w0.heap.size w0 w := by
      refine Below.grown ?_ hgrow (by simp; omega) (fun k hk => by simp [Value.ownBlock] at hk; omega)
      (repeat' (first | (with_reducible exact Below.refl _ _) | (with_reducible assumption) | (with_reducible refine Below.alloc ?_ ?_ _) | (with_reducible refine Below.setCell ?_ ?_ _) | (with_reducible refine below_row ?_ ?_ _) | (with_reducible refine Below.drew ?_) | (with_reducible refine below_drewN ?_ _) | (with_reducible refine Below.trans ?_ (Below.mono (by assumption) ?_)) | (first | exact Nat.le_refl _ | omega | (simp; done) | (simp; omega))))
    have hgl : g < w.heap.size := (Array.getElem?_eq_some_iff.1 hgg).1
    have HP_0 := Lib.hid (show Lies w (w0.heap.size) 23 #[.int .i64 an, .int .i64 al, .int .i64 au] from (hgrow.block (w0.heap.size) (by first | (simp; done) | (simp; omega)) (by first | (simp [Value.ownBlock]; done) | (simp [Value.ownBlock]; omega))).trans ((((Lies.made w0 23 #[.int .i64 an, .int .i64 al, .int .i64 au]).alloc _).alloc _).alloc _))
    have HQ_0 := Lib.hid (show Lies w (w0.heap.size + 1) 23 #[.int .i64 bn, .int .i64 bl, .int .i64 bu] from (hgrow.block (w0.heap.size + 1) (by first | (simp; done) | (simp; omega)) (by first | (simp [Value.ownBlock]; done) | (simp [Value.ownBlock]; omega))).trans (((Lies.new (u := w0.alloc _) (by simp)).alloc _).alloc _))
    have HV_0 := Lib.hid (show Lies w (w0.heap.size + 1 + 1) 38 #[.int .i64 lo, .int .i64 hi] from (hgrow.block (w0.heap.size + 1 + 1) (by first | (simp; done) | (simp; omega)) (by first | (simp [Value.ownBlock]; done) | (simp [Value.ownBlock]; omega))).trans ((Lies.new (u := (w0.alloc _).alloc _) (by simp)).alloc _))
    have KM := Lib.hid (fun W (_ : Below w.heap.size w W) => HMM.out ▸ Meet_any (some ⟨g, 0, none⟩) 0 0 [] cap W (fun h => absurd h (by simp)) (fun i hi => absurd hi (by simp)))
    have KR := Lib.hid (fun W (_ : Below w.heap.size w W) => HMM.out ▸ rMeet_any (some ad) 0 0 [] c W (fun h => absurd h (by simp)) (fun i hi => absurd hi (by simp)))
    have KS := Lib.hid (fun W (_ : Below w.heap.size w W) => rSame_any (some ⟨g, 0, none⟩) (some ad) 0 0 0 0 [] cap c W (by simp) (fun h => absurd h (by simp)) (fun i hi => absurd hi (by simp)) (fun h => absurd h (by simp)) (fun i hi => absurd hi (by simp)))
    simp only [List.length_nil] at KM KR KS
    clear hgg hnc hcm hcs htk hnil hgrow hown0 hi0 hz0 hz1 hz2
    have qP0 := HP_0.out.cell 0
    have qP1 := HP_0.out.cell 1
    have qP2 := HP_0.out.cell 2
    have zP := HP_0.out.lt
    have qQ0 := HQ_0.out.cell 0
    have qQ1 := HQ_0.out.cell 1
    have qQ2 := HQ_0.out.cell 2
    have zQ := HQ_0.out.lt
    go_wp2_with fail
    refine (HI.out _).mono ?_
    rintro _ w1 ⟨rfl, hb1⟩
    have s1 := hb1.size; try simp only [World.size_alloc, World.size_setCell, World.size_drew, setRow_size] at s1
    clear qP0 qP1 qP2 zP qQ0 qQ1 qQ2 zQ
    have B1 : Below w.heap.size w w1 := by (repeat' (first | (with_reducible exact Below.refl _ _) | (with_reducible assumption) | (with_reducible refine Below.alloc ?_ ?_ _) | (with_reducible refine Below.setCell ?_ ?_ _) | (with_reducible refine below_row ?_ ?_ _) | (with_reducible refine Below.drew ?_) | (with_reducible refine below_drewN ?_ _) | (with_reducible refine Below.trans ?_ (Below.mono (by assumption) ?_)) | (first | exact Nat.le_refl _ | omega | (simp; done) | (simp; omega))))
    have HP_1 := Lib.hid (HP_0.out.after B1)
    have HQ_1 := Lib.hid (HQ_0.out.after B1)
    have HV_1 := Lib.hid (HV_0.out.after B1)
    have A1 : Below w.heap.size w w1 := B1
    clear hb1 B1
    have qP0 := HP_1.out.cell 0
    have qP1 := HP_1.out.cell 1
    have qP2 := HP_1.out.cell 2
    have zP := HP_1.out.lt
    have qQ0 := HQ_1.out.cell 0
    have qQ1 := HQ_1.out.cell 1
    have qQ2 := HQ_1.out.cell 2
    have zQ := HQ_1.out.lt
    go_wp2_with fail
    refine (HIR.out _).mono ?_
    rintro _ w2 ⟨rfl, hb2⟩
    have s2 := hb2.size; try simp only [World.size_alloc, World.size_setCell, World.size_drew, setRow_size] at s2
    clear qP0 qP1 qP2 zP qQ0 qQ1 qQ2 zQ
    have B2 : Below w1.heap.size w1 w2 := by (repeat' (first | (with_reducible exact Below.refl _ _) | (with_reducible assumption) | (with_reducible refine Below.alloc ?_ ?_ _) | (with_reducible refine Below.setCell ?_ ?_ _) | (with_reducible refine below_row ?_ ?_ _) | (with_reducible refine Below.drew ?_) | (with_reducible refine below_drewN ?_ _) | (with_reducible refine Below.trans ?_ (Below.mono (by assumption) ?_)) | (first | exact Nat.le_refl _ | omega | (simp; done) | (simp; omega))))
    have HP_2 := Lib.hid (HP_1.out.after B2)
    have HQ_2 := Lib.hid (HQ_1.out.after B2)
    have HV_2 := Lib.hid (HV_1.out.after B2)
    clear HP_1 HQ_1 HV_1
    have A2 : Below w.heap.size w w2 := A1.trans (B2.mono A1.size)
    clear A1 hb2 B2
    have qP0 := HP_2.out.cell 0
    have qP1 := HP_2.out.cell 1
    have qP2 := HP_2.out.cell 2
    have zP := HP_2.out.lt
    have qQ0 := HQ_2.out.cell 0
    have qQ1 := HQ_2.out.cell 1
    have qQ2 := HQ_2.out.cell 2
    have zQ := HQ_2.out.lt
    go_wp2_with fail
    refine (HF.out _).mono ?_
    rintro _ w3 ⟨rfl, hb3⟩
    have s3 := hb3.size; try simp only [World.size_alloc, World.size_setCell, World.size_drew, setRow_size] at s3
    clear qP0 qP1 qP2 zP qQ0 qQ1 qQ2 zQ
    have B3 : Below w2.heap.size w2 w3 := by (repeat' (first | (with_reducible exact Below.refl _ _) | (with_reducible assumption) | (with_reducible refine Below.alloc ?_ ?_ _) | (with_reducible refine Below.setCell ?_ ?_ _) | (with_reducible refine below_row ?_ ?_ _) | (with_reducible refine Below.drew ?_) | (with_reducible refine below_drewN ?_ _) | (with_reducible refine Below.trans ?_ (Below.mono (by assumption) ?_)) | (first | exact Nat.le_refl _ | omega | (simp; done) | (simp; omega))))
    have HP_3 := Lib.hid (HP_2.out.after B3)
    have HQ_3 := Lib.hid (HQ_2.out.after B3)
    have HV_3 := Lib.hid (HV_2.out.after B3)
    clear HP_2 HQ_2 HV_2
    have A3 : Below w.heap.size w w3 := A2.trans (B3.mono A2.size)
    clear A2 hb3 B3
    have qP0 := HP_3.out.cell 0
    have qP1 := HP_3.out.cell 1
    have qP2 := HP_3.out.cell 2
    have zP := HP_3.out.lt
    have qQ0 := HQ_3.out.cell 0
    have qQ1 := HQ_3.out.cell 1
    have qQ2 := HQ_3.out.cell 2
    have zQ := HQ_3.out.lt
    go_wp2_with fail
    refine (HFR.out _).mono ?_
    rintro _ w4 ⟨rfl, hb4⟩
    have s4 := hb4.size; try simp only [World.size_alloc, World.size_setCell, World.size_drew, setRow_size] at s4
    clear qP0 qP1 qP2 zP qQ0 qQ1 qQ2 zQ
    have B4 : Below w3.heap.size w3 w4 := by (repeat' (first | (with_reducible exact Below.refl _ _) | (with_reducible assumption) | (with_reducible refine Below.alloc ?_ ?_ _) | (with_reducible refine Below.setCell ?_ ?_ _) | (with_reducible refine below_row ?_ ?_ _) | (with_reducible refine Below.drew ?_) | (with_reducible refine below_drewN ?_ _) | (with_reducible refine Below.trans ?_ (Below.mono (by assumption) ?_)) | (first | exact Nat.le_refl _ | omega | (simp; done) | (simp; omega))))
    have HP_4 := Lib.hid (HP_3.out.after B4)
    have HQ_4 := Lib.hid (HQ_3.out.after B4)
    have HV_4 := Lib.hid (HV_3.out.after B4)
    have HF_4 := Lib.hid (show Lies w4 _ 38 #[.int .i64 f1, .int .i64 f2] from (by first | exact (Lies.made w3 38 #[.int .i64 f1, .int .i64 f2]).after hb4 | exact ((Lies.made w3 38 #[.int .i64 f1, .int .i64 f2]).alloc _).after hb4 | exact (((Lies.made w3 38 #[.int .i64 f1, .int .i64 f2]).alloc _).alloc _).after hb4))
    clear HP_3 HQ_3 HV_3
    have A4 : Below w.heap.size w w4 := A3.trans (B4.mono A3.size)
    clear A3 hb4 B4
    have qP0 := HP_4.out.cell 0
    have qP1 := HP_4.out.cell 1
    have qP2 := HP_4.out.cell 2
    have zP := HP_4.out.lt
    have qV0 := HV_4.out.cell 0
    have qV1 := HV_4.out.cell 1
    have zV := HV_4.out.lt
    go_wp2_with fail
    refine (HO.out _).mono ?_
    rintro _ w5 ⟨rfl, hb5⟩
    have s5 := hb5.size; try simp only [World.size_alloc, World.size_setCell, World.size_drew, setRow_size] at s5
    clear qP0 qP1 qP2 zP qV0 qV1 zV
    have B5 : Below w4.heap.size w4 w5 := by (repeat' (first | (with_reducible exact Below.refl _ _) | (with_reducible assumption) | (with_reducible refine Below.alloc ?_ ?_ _) | (with_reducible refine Below.setCell ?_ ?_ _) | (with_reducible refine below_row ?_ ?_ _) | (with_reducible refine Below.drew ?_) | (with_reducible refine below_drewN ?_ _) | (with_reducible refine Below.trans ?_ (Below.mono (by assumption) ?_)) | (first | exact Nat.le_refl _ | omega | (simp; done) | (simp; omega))))
    have HP_5 := Lib.hid (HP_4.out.after B5)
    have HQ_5 := Lib.hid (HQ_4.out.after B5)
    have HV_5 := Lib.hid (HV_4.out.after B5)
    have HF_5 := Lib.hid (HF_4.out.after B5)
    have HG_5 := Lib.hid (show Lies w5 _ 38 #[.int .i64 f1, .int .i64 f2] from (by first | exact (Lies.made w4 38 #[.int .i64 f1, .int .i64 f2]).after hb5 | exact ((Lies.made w4 38 #[.int .i64 f1, .int .i64 f2]).alloc _).after hb5 | exact (((Lies.made w4 38 #[.int .i64 f1, .int .i64 f2]).alloc _).alloc _).after hb5))
    clear HP_4 HQ_4 HV_4 HF_4
    have A5 : Below w.heap.size w w5 := A4.trans (B5.mono A4.size)
    clear A4 hb5 B5
    have qP0 := HP_5.out.cell 0
    have qP1 := HP_5.out.cell 1
    have qP2 := HP_5.out.cell 2
    have zP := HP_5.out.lt
    have qV0 := HV_5.out.cell 0
    have qV1 := HV_5.out.cell 1
    have zV := HV_5.out.lt
    go_wp2_with fail
    refine (HOR.out _).mono ?_
    rintro _ w6 ⟨rfl, hb6⟩
    have s6 := hb6.size; try simp only [World.size_alloc, World.size_setCell, World.size_drew, setRow_size] at s6
    clear qP0 qP1 qP2 zP qV0 qV1 zV
    have B6 : Below w5.heap.size w5 w6 := by (repeat' (first | (with_reducible exact Below.refl _ _) | (with_reducible assumption) | (with_reducible refine Below.alloc ?_ ?_ _) | (with_reducible refine Below.setCell ?_ ?_ _) | (with_reducible refine below_row ?_ ?_ _) | (with_reducible refine Below.drew ?_) | (with_reducible refine below_drewN ?_ _) | (with_reducible refine Below.trans ?_ (Below.mono (by assumption) ?_)) | (first | exact Nat.le_refl _ | omega | (simp; done) | (simp; omega))))
    have HP_6 := Lib.hid (HP_5.out.after B6)
    have HQ_6 := Lib.hid (HQ_5.out.after B6)
    have HV_6 := Lib.hid (HV_5.out.after B6)
    have HF_6 := Lib.hid (HF_5.out.after B6)
    have HG_6 := Lib.hid (HG_5.out.after B6)
    have HR_6 := Lib.hid (show Lies w6 _ 23 #[.int .i64 r1, .int .i64 r2, .int .i64 r3] from (by first | exact (Lies.made w5 23 #[.int .i64 r1, .int .i64 r2, .int .i64 r3]).after hb6 | exact ((Lies.made w5 23 #[.int .i64 r1, .int .i64 r2, .int .i64 r3]).alloc _).after hb6 | exact (((Lies.made w5 23 #[.int .i64 r1, .int .i64 r2, .int .i64 r3]).alloc _).alloc _).after hb6))
    clear HP_5 HQ_5 HV_5 HF_5 HG_5
    have A6 : Below w.heap.size w w6 := A5.trans (B6.mono A5.size)
    clear A5 hb6 B6
    have qV0 := HV_6.out.cell 0
    have qV1 := HV_6.out.cell 1
    have zV := HV_6.out.lt
    have qF0 := HF_6.out.cell 0
    have qF1 := HF_6.out.cell 1
    have zF := HF_6.out.lt
    have qG0 := HG_6.out.cell 0
    have qG1 := HG_6.out.cell 1
    have zG := HG_6.out.lt
    have qR0 := HR_6.out.cell 0
    have qR1 := HR_6.out.cell 1
    have qR2 := HR_6.out.cell 2
    have zR := HR_6.out.lt
    go_wp2_with fail
    refine (HH.out _).mono ?_
    rintro _ w7 ⟨rfl, hb7⟩
    have s7 := hb7.size; try simp only [World.size_alloc, World.size_setCell, World.size_drew, setRow_size] at s7
    clear qV0 qV1 zV qF0 qF1 zF qG0 qG1 zG qR0 qR1 qR2 zR
    have B7 : Below w6.heap.size w6 w7 := by (repeat' (first | (with_reducible exact Below.refl _ _) | (with_reducible assumption) | (with_reducible refine Below.alloc ?_ ?_ _) | (with_reducible refine Below.setCell ?_ ?_ _) | (with_reducible refine below_row ?_ ?_ _) | (with_reducible refine Below.drew ?_) | (with_reducible refine below_drewN ?_ _) | (with_reducible refine Below.trans ?_ (Below.mono (by assumption) ?_)) | (first | exact Nat.le_refl _ | omega | (simp; done) | (simp; omega))))
    have HP_7 := Lib.hid (HP_6.out.after B7)
    have HQ_7 := Lib.hid (HQ_6.out.after B7)
    have HV_7 := Lib.hid (HV_6.out.after B7)
    have HF_7 := Lib.hid (HF_6.out.after B7)
    have HG_7 := Lib.hid (HG_6.out.after B7)
    have HR_7 := Lib.hid (HR_6.out.after B7)
    clear HP_6 HQ_6 HV_6 HF_6 HG_6 HR_6
    have A7 : Below w.heap.size w w7 := A6.trans (B7.mono A6.size)
    clear A6 hb7 B7
    clear HF_7
    clear HG_7
    clear HR_7
    have zzV := Nat.lt_succ_of_lt HV_7.out.lt
    have qV0 := HV_7.out.cell 0
    have qV1 := HV_7.out.cell 1
    have zV := HV_7.out.lt
    go_wp2_with fail
    refine (HHR.out _).mono ?_
    rintro _ w8 ⟨rfl, hb8⟩
    have s8 := hb8.size; try simp only [World.size_alloc, World.size_setCell, World.size_drew, setRow_size] at s8
    clear qV0 qV1 zV
    have B8 : Below w7.heap.size w7 w8 := by (repeat' (first | (with_reducible exact Below.refl _ _) | (with_reducible assumption) | (with_reducible refine Below.alloc ?_ ?_ _) | (with_reducible refine Below.setCell ?_ ?_ _) | (with_reducible refine below_row ?_ ?_ _) | (with_reducible refine Below.drew ?_) | (with_reducible refine below_drewN ?_ _) | (with_reducible refine Below.trans ?_ (Below.mono (by assumption) ?_)) | (first | exact Nat.le_refl _ | omega | (simp; done) | (simp; omega))))
    have HP_8 := Lib.hid (HP_7.out.after B8)
    have HQ_8 := Lib.hid (HQ_7.out.after B8)
    have HV_8 := Lib.hid (HV_7.out.after B8)
    have HS_8 := Lib.hid (show Lies w8 _ 23 #[.int .i64 x1, .int .i64 x2, .int .i64 x3] from (by first | exact (Lies.made w7 23 #[.int .i64 x1, .int .i64 x2, .int .i64 x3]).after hb8 | exact ((Lies.made w7 23 #[.int .i64 x1, .int .i64 x2, .int .i64 x3]).alloc _).after hb8 | exact (((Lies.made w7 23 #[.int .i64 x1, .int .i64 x2, .int .i64 x3]).alloc _).alloc _).after hb8))
    have HT_8 := Lib.hid (show Lies w8 _ 23 #[.int .i64 y1, .int .i64 y2, .int .i64 y3] from (by first | exact (Lies.made (w7.alloc (.cells #[.int .i64 x1, .int .i64 x2, .int .i64 x3] 23)) 23 #[.int .i64 y1, .int .i64 y2, .int .i64 y3]).after hb8 | exact ((Lies.made (w7.alloc (.cells #[.int .i64 x1, .int .i64 x2, .int .i64 x3] 23)) 23 #[.int .i64 y1, .int .i64 y2, .int .i64 y3]).alloc _).after hb8 | exact (((Lies.made (w7.alloc (.cells #[.int .i64 x1, .int .i64 x2, .int .i64 x3] 23)) 23 #[.int .i64 y1, .int .i64 y2, .int .i64 y3]).alloc _).alloc _).after hb8))
    clear HP_7 HQ_7 HV_7
    have A8 : Below w.heap.size w w8 := A7.trans (B8.mono A7.size)
    clear A7 hb8 B8
    try simp only [World.size_alloc] at HT_8
    go_wp2_with fail
    refine (KM.out _ (A8.trans (Below.mono (by (repeat' (first | (with_reducible exact Below.refl _ _) | (with_reducible assumption) | (with_reducible refine Below.alloc ?_ ?_ _) | (with_reducible refine Below.setCell ?_ ?_ _) | (with_reducible refine below_row ?_ ?_ _) | (with_reducible refine Below.drew ?_) | (with_reducible refine below_drewN ?_ _) | (with_reducible refine Below.trans ?_ (Below.mono (by assumption) ?_)) | (first | exact Nat.le_refl _ | omega | (simp; done) | (simp; omega))))) A8.size))).mono ?_
    rintro _ w9 ⟨rfl, hb9⟩
    have s9 := hb9.size; try simp only [World.size_alloc, World.size_setCell, World.size_drew, setRow_size] at s9
    have B9 : Below w8.heap.size w8 w9 := by (repeat' (first | (with_reducible exact Below.refl _ _) | (with_reducible assumption) | (with_reducible refine Below.alloc ?_ ?_ _) | (with_reducible refine Below.setCell ?_ ?_ _) | (with_reducible refine below_row ?_ ?_ _) | (with_reducible refine Below.drew ?_) | (with_reducible refine below_drewN ?_ _) | (with_reducible refine Below.trans ?_ (Below.mono (by assumption) ?_)) | (first | exact Nat.le_refl _ | omega | (simp; done) | (simp; omega))))
    have HP_9 := Lib.hid (HP_8.out.after B9)
    have HQ_9 := Lib.hid (HQ_8.out.after B9)
    have HV_9 := Lib.hid (HV_8.out.after B9)
    have HS_9 := Lib.hid (HS_8.out.after B9)
    have HT_9 := Lib.hid (HT_8.out.after B9)
    have HX_9 := Lib.hid (show Lies w9 _ 23 #[.int .i64 x1, .int .i64 x2, .int .i64 x3] from (by first | exact (Lies.made w8 23 #[.int .i64 x1, .int .i64 x2, .int .i64 x3]).after hb9 | exact ((Lies.made w8 23 #[.int .i64 x1, .int .i64 x2, .int .i64 x3]).alloc _).after hb9 | exact (((Lies.made w8 23 #[.int .i64 x1, .int .i64 x2, .int .i64 x3]).alloc _).alloc _).after hb9))
    have HY_9 := Lib.hid (show Lies w9 _ 23 #[.int .i64 y1, .int .i64 y2, .int .i64 y3] from (by first | exact (Lies.made (w8.alloc (.cells #[.int .i64 x1, .int .i64 x2, .int .i64 x3] 23)) 23 #[.int .i64 y1, .int .i64 y2, .int .i64 y3]).after hb9 | exact ((Lies.made (w8.alloc (.cells #[.int .i64 x1, .int .i64 x2, .int .i64 x3] 23)) 23 #[.int .i64 y1, .int .i64 y2, .int .i64 y3]).alloc _).after hb9 | exact (((Lies.made (w8.alloc (.cells #[.int .i64 x1, .int .i64 x2, .int .i64 x3] 23)) 23 #[.int .i64 y1, .int .i64 y2, .int .i64 y3]).alloc _).alloc _).after hb9))
    clear HP_8 HQ_8 HV_8 HS_8 HT_8
    have A9 : Below w.heap.size w w9 := A8.trans (B9.mono A8.size)
    clear A8 hb9 B9
    try simp only [World.size_alloc] at HY_9
    go_wp2_with fail
    refine (KR.out _ (A9.trans (Below.mono (by (repeat' (first | (with_reducible exact Below.refl _ _) | (with_reducible assumption) | (with_reducible refine Below.alloc ?_ ?_ _) | (with_reducible refine Below.setCell ?_ ?_ _) | (with_reducible refine below_row ?_ ?_ _) | (with_reducible refine Below.drew ?_) | (with_reducible refine below_drewN ?_ _) | (with_reducible refine Below.trans ?_ (Below.mono (by assumption) ?_)) | (first | exact Nat.le_refl _ | omega | (simp; done) | (simp; omega))))) A9.size))).mono ?_
    rintro _ w10 ⟨rfl, hb10⟩
    have s10 := hb10.size; try simp only [World.size_alloc, World.size_setCell, World.size_drew, setRow_size] at s10
    have B10 : Below w9.heap.size w9 w10 := by (repeat' (first | (with_reducible exact Below.refl _ _) | (with_reducible assumption) | (with_reducible refine Below.alloc ?_ ?_ _) | (with_reducible refine Below.setCell ?_ ?_ _) | (with_reducible refine below_row ?_ ?_ _) | (with_reducible refine Below.drew ?_) | (with_reducible refine below_drewN ?_ _) | (with_reducible refine Below.trans ?_ (Below.mono (by assumption) ?_)) | (first | exact Nat.le_refl _ | omega | (simp; done) | (simp; omega))))
    have HP_10 := Lib.hid (HP_9.out.after B10)
    have HQ_10 := Lib.hid (HQ_9.out.after B10)
    have HV_10 := Lib.hid (HV_9.out.after B10)
    have HS_10 := Lib.hid (HS_9.out.after B10)
    have HT_10 := Lib.hid (HT_9.out.after B10)
    have HX_10 := Lib.hid (HX_9.out.after B10)
    have HY_10 := Lib.hid (HY_9.out.after B10)
    have HM_10 := Lib.hid (show Lies w10 _ 38 #[.int .i64 m1, .int .i64 m2] from (by first | exact (Lies.made w9 38 #[.int .i64 m1, .int .i64 m2]).after hb10 | exact ((Lies.made w9 38 #[.int .i64 m1, .int .i64 m2]).alloc _).after hb10 | exact (((Lies.made w9 38 #[.int .i64 m1, .int .i64 m2]).alloc _).alloc _).after hb10))
    clear HP_9 HQ_9 HV_9 HS_9 HT_9 HX_9 HY_9
    have A10 : Below w.heap.size w w10 := A9.trans (B10.mono A9.size)
    clear A9 hb10 B10
    have qS0 := HS_10.out.cell 0
    have qS1 := HS_10.out.cell 1
    have qS2 := HS_10.out.cell 2
    have zS := HS_10.out.lt
    have qT0 := HT_10.out.cell 0
    have qT1 := HT_10.out.cell 1
    have qT2 := HT_10.out.cell 2
    have zT := HT_10.out.lt
    have qX0 := HX_10.out.cell 0
    have qX1 := HX_10.out.cell 1
    have qX2 := HX_10.out.cell 2
    have zX := HX_10.out.lt
    have qY0 := HY_10.out.cell 0
    have qY1 := HY_10.out.cell 1
    have qY2 := HY_10.out.cell 2
    have zY := HY_10.out.lt
    have qM0 := HM_10.out.cell 0
    have qM1 := HM_10.out.cell 1
    have zM := HM_10.out.lt
    go_wp2_with fail
    refine (KS.out _ (A10.trans (Below.mono (by (repeat' (first | (with_reducible exact Below.refl _ _) | (with_reducible assumption) | (with_reducible refine Below.alloc ?_ ?_ _) | (with_reducible refine Below.setCell ?_ ?_ _) | (with_reducible refine below_row ?_ ?_ _) | (with_reducible refine Below.drew ?_) | (with_reducible refine below_drewN ?_ _) | (with_reducible refine Below.trans ?_ (Below.mono (by assumption) ?_)) | (first | exact Nat.le_refl _ | omega | (simp; done) | (simp; omega))))) A10.size))).mono ?_
    rintro _ w11 ⟨rfl, hb11⟩
    have s11 := hb11.size; try simp only [World.size_alloc, World.size_setCell, World.size_drew, setRow_size] at s11
    clear qS0 qS1 qS2 zS qT0 qT1 qT2 zT qX0 qX1 qX2 zX qY0 qY1 qY2 zY qM0 qM1 zM
    have B11 : Below w10.heap.size w10 w11 := by (repeat' (first | (with_reducible exact Below.refl _ _) | (with_reducible assumption) | (with_reducible refine Below.alloc ?_ ?_ _) | (with_reducible refine Below.setCell ?_ ?_ _) | (with_reducible refine below_row ?_ ?_ _) | (with_reducible refine Below.drew ?_) | (with_reducible refine below_drewN ?_ _) | (with_reducible refine Below.trans ?_ (Below.mono (by assumption) ?_)) | (first | exact Nat.le_refl _ | omega | (simp; done) | (simp; omega))))
    have HP_11 := Lib.hid (HP_10.out.after B11)
    have HQ_11 := Lib.hid (HQ_10.out.after B11)
    have HV_11 := Lib.hid (HV_10.out.after B11)
    have HS_11 := Lib.hid (HS_10.out.after B11)
    have HT_11 := Lib.hid (HT_10.out.after B11)
    have HX_11 := Lib.hid (HX_10.out.after B11)
    have HY_11 := Lib.hid (HY_10.out.after B11)
    have HM_11 := Lib.hid (HM_10.out.after B11)
    clear HP_10 HQ_10 HV_10 HS_10 HT_10 HX_10 HY_10 HM_10
    have A11 : Below w.heap.size w w11 := A10.trans (B11.mono A10.size)
    clear A10 hb11 B11
    go_wp2
    go_ret
    exact ⟨rfl, b0.trans (Below.mono (by (repeat' (first | (with_reducible exact Below.refl _ _) | (with_reducible assumption) | (with_reducible refine Below.alloc ?_ ?_ _) | (with_reducible refine Below.setCell ?_ ?_ _) | (with_reducible refine below_row ?_ ?_ _) | (with_reducible refine Below.drew ?_) | (with_reducible refine below_drewN ?_ _) | (with_reducible refine Below.trans ?_ (Below.mono (by assumption) ?_)) | (first | exact Nat.le_refl _ | omega | (simp; done) | (simp; omega))))) b0.size)⟩
end Go.Proofs.Ytldjkdomklgmaaa
