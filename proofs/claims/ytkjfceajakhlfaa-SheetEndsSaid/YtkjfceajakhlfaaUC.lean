/- Where two lists differ: differing, at int, Dim, Item. -/
import Derived.Test.YtkjfceajakhlfaaLG
import Derived.Deep.RegionHeld3
import Derived.IntWalk
namespace Go.Proofs.Ytkjfceajakhlfaa
set_option linter.unusedVariables false
set_option linter.unusedSimpArgs false
open Go.RowKit

def diffJ {α : Type} [DecidableEq α] (a b : List α) (k : Nat) : List Int := ((List.range k).filter fun i => decide (a[i]? ≠ b[i]?)).map Int.ofNat
def diffL {α : Type} [DecidableEq α] (a b : List α) : List Int := diffJ a b (max a.length b.length)
theorem diffJ_step {α : Type} [DecidableEq α] (a b : List α) (k : Nat) : diffJ a b (k + 1) = diffJ a b k ++ if a[k]? ≠ b[k]? then [(k : Int)] else [] := by
  unfold diffJ
  rw [List.range_succ, List.filter_append, List.map_append]
  congr 1
  by_cases e : a[k]? ≠ b[k]?
  · rw [if_pos e, List.filter_cons_of_pos (by simpa using e)]; rfl
  · rw [if_neg e, List.filter_cons_of_neg (by simpa using e)]; rfl
theorem diffJ_le {α : Type} [DecidableEq α] (a b : List α) (k : Nat) : (diffJ a b k).length ≤ k := by
  unfold diffJ
  rw [List.length_map]
  exact Nat.le_trans (List.length_filter_le _ _) (by simp)
theorem ownsRow_drewN {w : World} {base : Nat} {e : TypeId} {size n : Nat} {v : Value} {xs : List Value} (h : w.ownsRow base e size v n xs) (k : Nat) : (w.drewN k).ownsRow base e size v n xs := h
theorem eqN_any (x y : Int) (w : World) : Calls Try.prog 90 #[.int .i64 x, .int .i64 y] w fun e w' => e = .returned (.bool (decide (x = y))) ∧ Below w.heap.size w w' := by
  have hd : (x == y) = decide (x = y) := by rw [Bool.eq_iff_iff]; simp
  have HD := Lib.hid hd
  clear hd
  go_enter Try.func90, Try.ntmps90
  go_wp2
  go_ret
  exact ⟨ret_bool HD.out, Below.refl _ _⟩
set_option maxRecDepth 100000 in
set_option maxHeartbeats 16000000 in
theorem diffN_any (A B : Option Addr) (cA bA oA cB bB oB : Nat) (a b : List (Int)) (w : World) (hla : a.length ≤ 1000) (hlb : b.length ≤ 1000) (hA : 0 < a.length → A = some ⟨bA, oA, none⟩) (hc : ∀ i (h : i < a.length), w.cell? ⟨bA, oA + i, none⟩ = some (.int .i64 a[i]))
    (hB : 0 < b.length → B = some ⟨bB, oB, none⟩) (hd : ∀ i (h : i < b.length), w.cell? ⟨bB, oB + i, none⟩ = some (.int .i64 b[i])) :
    Calls Try.prog 89 #[.slice A a.length cA, .slice B b.length cB, .func (.func 90) #[] #[]] w fun e w' => ∃ v, e = .returned v ∧ w'.ownsRow w.heap.size 3 1 v (diffL a b).length (cellsN (diffL a b)) ∧ Below w.heap.size w w' := by
  have HA := Lib.hid hA
  have HB := Lib.hid hB
  have HC := Lib.hid hc
  have HD := Lib.hid hd
  obtain ⟨i0, hi0, hz0, hz1, hz2⟩ := info_parts infoN
  clear hA hB hc hd
  by_cases hm : (a.length : Int) < (b.length : Int)
  · go_enter Try.func89, Try.ntmps89
    go_wp2_with fail
    go_loopw [7, 14] (fun v i wr => ∃ (k : Nat) (AO : Option Addr) (cO : Nat), k ≤ b.length ∧ i = .int .i64 k ∧ v = .slice AO (diffJ a b k).length cO ∧ Hid (wr.ownsRow w.heap.size 3 1 (.slice AO (diffJ a b k).length cO) (diffJ a b k).length (cellsN (diffJ a b k))) ∧ Below w.heap.size w wr) (fun _ i _ => b.length - (intOf i).toNat)
    case atStart => exact ⟨0, none, 0, by omega, rfl, rfl, Lib.hid (World.ownsRow_nil _ _ _ _), by (repeat' (first | (with_reducible first | exact Below.refl _ _ | assumption | refine Below.alloc ?_ ?_ _ | refine Below.setCell ?_ ?_ _ | refine below_row ?_ ?_ _ | refine Below.drew ?_ | refine below_drewN ?_ _ | refine Below.trans ?_ (Below.mono (by assumption) ?_)) | exact Nat.le_refl _ | omega | (simp; done) | (simp; omega) | exact Below.size (by assumption)))⟩
    case round =>
      obtain ⟨k, AO, cO, hk, rfl, rfl, HO, hb⟩ := hrel
      have hzz := hb.size
      have hle := diffJ_le a b k
      have HST := Lib.hid (diffJ_step a b k)
      by_cases hlt : k < b.length
      · have kl1 : (k : Int) < (b.length : Int) := by omega
        have HYES : Hid (a[k]? ≠ b[k]? → diffJ a b (k + 1) = diffJ a b k ++ [(k : Int)]) := Lib.hid (fun h => by rw [HST.out, if_pos h])
        have HNO : Hid (a[k]? = b[k]? → diffJ a b (k + 1) = diffJ a b k) := Lib.hid (fun h => by rw [HST.out, if_neg (fun h2 => h2 h), List.append_nil])
        clear HST
        generalize diffJ a b k = dj at *
        by_cases ha : k < a.length
        · have ga1 : decide (a.length ≤ k) = false := by simp; omega
          have ga2 : decide ((a.length : Int) ≤ (k : Int)) = false := by simp; omega
          by_cases hb' : k < b.length
          · have gb1 : decide (b.length ≤ k) = false := by simp; omega
            have gb2 : decide ((b.length : Int) ≤ (k : Int)) = false := by simp; omega
            have ka1 : (k : Int) < (a.length : Int) := by omega
            have kb1 : (k : Int) < (b.length : Int) := by omega
            obtain rfl := HA.out (by omega)
            obtain rfl := HB.out (by omega)
            have HXY : Hid (∃ x y, a[k] = x ∧ b[k] = y) := Lib.hid ⟨_, _, rfl, rfl⟩
            obtain ⟨x, y, hx, hy⟩ := HXY.out
            have HRA := Lib.hid (fun W (hW : Below w.heap.size w W) => cell_keep hW (HC.out k ha))
            have HRB := Lib.hid (fun W (hW : Below w.heap.size w W) => cell_keep hW (HD.out k hb'))
            rw [hx] at HRA
            rw [hy] at HRB
            have hab : (a[k]? = b[k]?) = (x = y) := by rw [List.getElem?_eq_getElem ha, List.getElem?_eq_getElem hb', hx, hy]; simp
            have HAB := Lib.hid hab
            clear hx hy HXY hab
            obtain ⟨x0, rfl⟩ : ∃ x0, x0 = x := ⟨_, rfl⟩
            obtain ⟨y0, rfl⟩ : ∃ y0, y0 = y := ⟨_, rfl⟩
            have HRA2 : Hid (∀ W, Below w.heap.size w W → W.cell? ⟨bA, oA + k, none⟩ = some (.int .i64 x0)) := Lib.hid HRA.out
            have HRB2 : Hid (∀ W, Below w.heap.size w W → W.cell? ⟨bB, oB + k, none⟩ = some (.int .i64 y0)) := Lib.hid HRB.out
            have r0 := HRA2.out wr hb
            have t0 := HRB2.out wr hb
            have HEQ := Lib.hid (fun W => eqN_any x0 y0 W)
            have HXE : Hid ((x0 = y0) = (x0 = y0)) := Lib.hid (by simp)
            have HE2 : Hid (∃ r, decide (x0 = y0) = r) := Lib.hid ⟨_, rfl⟩
            obtain ⟨r, hr⟩ := HE2.out
            rw [hr] at HEQ
            have HRR := Lib.hid hr
            clear hr HE2 HRA HRB
            cases r
            · have HST2 := Lib.hid (HYES.out (fun h => by rw [HAB.out, HXE.out] at h; have := HRR.out; rw [decide_eq_true h] at this; cases this))
              go_wp2_with fail
              go_region_held3 (fun W2 => W2.cell? ⟨bA, oA + k, none⟩ = some (.int .i64 x0) ∧ W2.cell? ⟨bB, oB + k, none⟩ = some (.int .i64 y0)) (go_keep) ((go_at_call 90; refine (HEQ.out _).mono ?_; rintro e w3 ⟨rfl, hb3⟩; have hbw3 : Below w.heap.size w w3 := (by (repeat' (first | (with_reducible first | exact Below.refl _ _ | assumption | refine Below.alloc ?_ ?_ _ | refine Below.setCell ?_ ?_ _ | refine below_row ?_ ?_ _ | refine Below.drew ?_ | refine below_drewN ?_ _ | refine Below.trans ?_ (Below.mono (by assumption) ?_)) | exact Nat.le_refl _ | omega | (simp; done) | (simp; omega) | exact Below.size (by assumption)))); have HO3 := Lib.hid (own_after HO.out.drew hb3); have m0 := HRA2.out w3 hbw3; have p0 := HRB2.out w3 hbw3; have s3 := hbw3.size; clear hb3))
              go_wp2_with (at_builtin; refine wpList_append_own _ rfl _ _ 29 rfl w.heap.size 3 i0 (.int .i64 0) 1 8 Try.underlying29 hi0 hz0 hz1 hz2 rfl (by decide) _ _ _ rfl (HO3.out.alloc _) ⟨_, 0, none⟩ 1 1 [.int .i64 (k : Int)] rfl rfl (World.news_of_block (cs := #[.int .i64 (k : Int)]) (t := 3) (fr := (0, 0)) (Lies.new (by simp))) (by simp [Value.oneCell']) (by unfold maxLen; omega) (by omega) (by simp; omega) ?_; intro v' w8 hown' hgrow _; have HB8 := Lib.hid (below_own (w0 := w) (B := w.heap.size) (by (repeat' (first | (with_reducible first | exact Below.refl _ _ | assumption | refine Below.alloc ?_ ?_ _ | refine Below.setCell ?_ ?_ _ | refine below_row ?_ ?_ _ | refine Below.drew ?_ | refine below_drewN ?_ _ | refine Below.trans ?_ (Below.mono (by assumption) ?_)) | exact Nat.le_refl _ | omega | (simp; done) | (simp; omega) | exact Below.size (by assumption)))) (HO3.out.alloc (.cells #[.int .i64 (k : Int)] 3)) hgrow (Nat.le_refl _) (by simp; omega)); have HO8 := Lib.hid hown'; obtain ⟨A8, c8, g8, rfl, -⟩ := own_form hown'; clear hown' hgrow)
              go_roundw
              case rel => exact ⟨k + 1, A8, c8, by omega, by go_num, by rw [HST2.out]; simp, Lib.hid (by rw [HST2.out]; have := HO8.out; simpa [cellsN] using this), HB8.out⟩
              case measure => simp [intOf]; omega
            · have HST2 := Lib.hid (HNO.out (by rw [HAB.out, HXE.out]; exact of_decide_eq_true HRR.out))
              go_wp2_with fail
              go_region_held3 (fun W2 => W2.cell? ⟨bA, oA + k, none⟩ = some (.int .i64 x0) ∧ W2.cell? ⟨bB, oB + k, none⟩ = some (.int .i64 y0)) (go_keep) ((go_at_call 90; refine (HEQ.out _).mono ?_; rintro e w3 ⟨rfl, hb3⟩; have hbw3 : Below w.heap.size w w3 := (by (repeat' (first | (with_reducible first | exact Below.refl _ _ | assumption | refine Below.alloc ?_ ?_ _ | refine Below.setCell ?_ ?_ _ | refine below_row ?_ ?_ _ | refine Below.drew ?_ | refine below_drewN ?_ _ | refine Below.trans ?_ (Below.mono (by assumption) ?_)) | exact Nat.le_refl _ | omega | (simp; done) | (simp; omega) | exact Below.size (by assumption)))); have HO3 := Lib.hid (own_after HO.out.drew hb3); have m0 := HRA2.out w3 hbw3; have p0 := HRB2.out w3 hbw3; have s3 := hbw3.size; clear hb3))
              go_wp2_with fail
              go_roundw
              case rel => exact ⟨k + 1, AO, cO, by omega, by go_num, by rw [HST2.out], Lib.hid (by rw [HST2.out]; exact HO3.out), hbw3⟩
              case measure => simp [intOf]; omega
          · exact absurd hlt hb'
        · have ga1 : decide (a.length ≤ k) = true := by simp; omega
          have ga2 : decide ((a.length : Int) ≤ (k : Int)) = true := by simp; omega
          have hb' : k < b.length := by omega
          have HST2 := Lib.hid (HYES.out (by rw [List.getElem?_eq_getElem hb', List.getElem?_eq_none (Nat.le_of_not_lt ha)]; simp))
          go_wp2_with fail
          go_quiet (fail)
          have HO3 := Lib.hid (ownsRow_drewN HO.out nq)
          go_wp2_with (at_builtin; refine wpList_append_own _ rfl _ _ 29 rfl w.heap.size 3 i0 (.int .i64 0) 1 8 Try.underlying29 hi0 hz0 hz1 hz2 rfl (by decide) _ _ _ rfl (HO3.out.alloc _) ⟨_, 0, none⟩ 1 1 [.int .i64 (k : Int)] rfl rfl (World.news_of_block (cs := #[.int .i64 (k : Int)]) (t := 3) (fr := (0, 0)) (Lies.new (by simp))) (by simp [Value.oneCell']) (by unfold maxLen; omega) (by omega) (by simp; omega) ?_; intro v' w8 hown' hgrow _; have HB8 := Lib.hid (below_own (w0 := w) (B := w.heap.size) (by (repeat' (first | (with_reducible first | exact Below.refl _ _ | assumption | refine Below.alloc ?_ ?_ _ | refine Below.setCell ?_ ?_ _ | refine below_row ?_ ?_ _ | refine Below.drew ?_ | refine below_drewN ?_ _ | refine Below.trans ?_ (Below.mono (by assumption) ?_)) | exact Nat.le_refl _ | omega | (simp; done) | (simp; omega) | exact Below.size (by assumption)))) (HO3.out.alloc (.cells #[.int .i64 (k : Int)] 3)) hgrow (Nat.le_refl _) (by simp; omega)); have HO8 := Lib.hid hown'; obtain ⟨A8, c8, g8, rfl, -⟩ := own_form hown'; clear hown' hgrow)
          go_roundw
          case rel => exact ⟨k + 1, A8, c8, by omega, by go_num, by rw [HST2.out]; simp, Lib.hid (by rw [HST2.out]; have := HO8.out; simpa [cellsN] using this), HB8.out⟩
          case measure => simp [intOf]; omega
      · have hke : k = b.length := by omega
        have HR : Hid (diffJ a b k = diffL a b) := Lib.hid (by unfold diffL; rw [hke]; congr 1; omega)
        have HO2 := Lib.hid HO.out
        rw [HR.out] at HO2
        have hkk : (diffJ a b k).length = (diffL a b).length := by rw [HR.out]
        have HKK := Lib.hid hkk
        have kl0 : ¬ (k : Int) < (b.length : Int) := by omega
        have kl2 : decide ((k : Int) < (b.length : Int)) = false := by simpa using kl0
        clear hke hkk HO HST
        rw [HR.out]
        go_wp2_with fail
        go_ret
        exact ⟨_, rfl, HO2.out, hb⟩
  · go_enter Try.func89, Try.ntmps89
    go_wp2_with fail
    go_loopw [7, 14] (fun v i wr => ∃ (k : Nat) (AO : Option Addr) (cO : Nat), k ≤ a.length ∧ i = .int .i64 k ∧ v = .slice AO (diffJ a b k).length cO ∧ Hid (wr.ownsRow w.heap.size 3 1 (.slice AO (diffJ a b k).length cO) (diffJ a b k).length (cellsN (diffJ a b k))) ∧ Below w.heap.size w wr) (fun _ i _ => a.length - (intOf i).toNat)
    case atStart => exact ⟨0, none, 0, by omega, rfl, rfl, Lib.hid (World.ownsRow_nil _ _ _ _), by (repeat' (first | (with_reducible first | exact Below.refl _ _ | assumption | refine Below.alloc ?_ ?_ _ | refine Below.setCell ?_ ?_ _ | refine below_row ?_ ?_ _ | refine Below.drew ?_ | refine below_drewN ?_ _ | refine Below.trans ?_ (Below.mono (by assumption) ?_)) | exact Nat.le_refl _ | omega | (simp; done) | (simp; omega) | exact Below.size (by assumption)))⟩
    case round =>
      obtain ⟨k, AO, cO, hk, rfl, rfl, HO, hb⟩ := hrel
      have hzz := hb.size
      have hle := diffJ_le a b k
      have HST := Lib.hid (diffJ_step a b k)
      by_cases hlt : k < a.length
      · have kl1 : (k : Int) < (a.length : Int) := by omega
        have HYES : Hid (a[k]? ≠ b[k]? → diffJ a b (k + 1) = diffJ a b k ++ [(k : Int)]) := Lib.hid (fun h => by rw [HST.out, if_pos h])
        have HNO : Hid (a[k]? = b[k]? → diffJ a b (k + 1) = diffJ a b k) := Lib.hid (fun h => by rw [HST.out, if_neg (fun h2 => h2 h), List.append_nil])
        clear HST
        generalize diffJ a b k = dj at *
        by_cases ha : k < a.length
        · have ga1 : decide (a.length ≤ k) = false := by simp; omega
          have ga2 : decide ((a.length : Int) ≤ (k : Int)) = false := by simp; omega
          by_cases hb' : k < b.length
          · have gb1 : decide (b.length ≤ k) = false := by simp; omega
            have gb2 : decide ((b.length : Int) ≤ (k : Int)) = false := by simp; omega
            have ka1 : (k : Int) < (a.length : Int) := by omega
            have kb1 : (k : Int) < (b.length : Int) := by omega
            obtain rfl := HA.out (by omega)
            obtain rfl := HB.out (by omega)
            have HXY : Hid (∃ x y, a[k] = x ∧ b[k] = y) := Lib.hid ⟨_, _, rfl, rfl⟩
            obtain ⟨x, y, hx, hy⟩ := HXY.out
            have HRA := Lib.hid (fun W (hW : Below w.heap.size w W) => cell_keep hW (HC.out k ha))
            have HRB := Lib.hid (fun W (hW : Below w.heap.size w W) => cell_keep hW (HD.out k hb'))
            rw [hx] at HRA
            rw [hy] at HRB
            have hab : (a[k]? = b[k]?) = (x = y) := by rw [List.getElem?_eq_getElem ha, List.getElem?_eq_getElem hb', hx, hy]; simp
            have HAB := Lib.hid hab
            clear hx hy HXY hab
            obtain ⟨x0, rfl⟩ : ∃ x0, x0 = x := ⟨_, rfl⟩
            obtain ⟨y0, rfl⟩ : ∃ y0, y0 = y := ⟨_, rfl⟩
            have HRA2 : Hid (∀ W, Below w.heap.size w W → W.cell? ⟨bA, oA + k, none⟩ = some (.int .i64 x0)) := Lib.hid HRA.out
            have HRB2 : Hid (∀ W, Below w.heap.size w W → W.cell? ⟨bB, oB + k, none⟩ = some (.int .i64 y0)) := Lib.hid HRB.out
            have r0 := HRA2.out wr hb
            have t0 := HRB2.out wr hb
            have HEQ := Lib.hid (fun W => eqN_any x0 y0 W)
            have HXE : Hid ((x0 = y0) = (x0 = y0)) := Lib.hid (by simp)
            have HE2 : Hid (∃ r, decide (x0 = y0) = r) := Lib.hid ⟨_, rfl⟩
            obtain ⟨r, hr⟩ := HE2.out
            rw [hr] at HEQ
            have HRR := Lib.hid hr
            clear hr HE2 HRA HRB
            cases r
            · have HST2 := Lib.hid (HYES.out (fun h => by rw [HAB.out, HXE.out] at h; have := HRR.out; rw [decide_eq_true h] at this; cases this))
              go_wp2_with fail
              go_region_held3 (fun W2 => W2.cell? ⟨bA, oA + k, none⟩ = some (.int .i64 x0) ∧ W2.cell? ⟨bB, oB + k, none⟩ = some (.int .i64 y0)) (go_keep) ((go_at_call 90; refine (HEQ.out _).mono ?_; rintro e w3 ⟨rfl, hb3⟩; have hbw3 : Below w.heap.size w w3 := (by (repeat' (first | (with_reducible first | exact Below.refl _ _ | assumption | refine Below.alloc ?_ ?_ _ | refine Below.setCell ?_ ?_ _ | refine below_row ?_ ?_ _ | refine Below.drew ?_ | refine below_drewN ?_ _ | refine Below.trans ?_ (Below.mono (by assumption) ?_)) | exact Nat.le_refl _ | omega | (simp; done) | (simp; omega) | exact Below.size (by assumption)))); have HO3 := Lib.hid (own_after HO.out.drew hb3); have m0 := HRA2.out w3 hbw3; have p0 := HRB2.out w3 hbw3; have s3 := hbw3.size; clear hb3))
              go_wp2_with (at_builtin; refine wpList_append_own _ rfl _ _ 29 rfl w.heap.size 3 i0 (.int .i64 0) 1 8 Try.underlying29 hi0 hz0 hz1 hz2 rfl (by decide) _ _ _ rfl (HO3.out.alloc _) ⟨_, 0, none⟩ 1 1 [.int .i64 (k : Int)] rfl rfl (World.news_of_block (cs := #[.int .i64 (k : Int)]) (t := 3) (fr := (0, 0)) (Lies.new (by simp))) (by simp [Value.oneCell']) (by unfold maxLen; omega) (by omega) (by simp; omega) ?_; intro v' w8 hown' hgrow _; have HB8 := Lib.hid (below_own (w0 := w) (B := w.heap.size) (by (repeat' (first | (with_reducible first | exact Below.refl _ _ | assumption | refine Below.alloc ?_ ?_ _ | refine Below.setCell ?_ ?_ _ | refine below_row ?_ ?_ _ | refine Below.drew ?_ | refine below_drewN ?_ _ | refine Below.trans ?_ (Below.mono (by assumption) ?_)) | exact Nat.le_refl _ | omega | (simp; done) | (simp; omega) | exact Below.size (by assumption)))) (HO3.out.alloc (.cells #[.int .i64 (k : Int)] 3)) hgrow (Nat.le_refl _) (by simp; omega)); have HO8 := Lib.hid hown'; obtain ⟨A8, c8, g8, rfl, -⟩ := own_form hown'; clear hown' hgrow)
              go_roundw
              case rel => exact ⟨k + 1, A8, c8, by omega, by go_num, by rw [HST2.out]; simp, Lib.hid (by rw [HST2.out]; have := HO8.out; simpa [cellsN] using this), HB8.out⟩
              case measure => simp [intOf]; omega
            · have HST2 := Lib.hid (HNO.out (by rw [HAB.out, HXE.out]; exact of_decide_eq_true HRR.out))
              go_wp2_with fail
              go_region_held3 (fun W2 => W2.cell? ⟨bA, oA + k, none⟩ = some (.int .i64 x0) ∧ W2.cell? ⟨bB, oB + k, none⟩ = some (.int .i64 y0)) (go_keep) ((go_at_call 90; refine (HEQ.out _).mono ?_; rintro e w3 ⟨rfl, hb3⟩; have hbw3 : Below w.heap.size w w3 := (by (repeat' (first | (with_reducible first | exact Below.refl _ _ | assumption | refine Below.alloc ?_ ?_ _ | refine Below.setCell ?_ ?_ _ | refine below_row ?_ ?_ _ | refine Below.drew ?_ | refine below_drewN ?_ _ | refine Below.trans ?_ (Below.mono (by assumption) ?_)) | exact Nat.le_refl _ | omega | (simp; done) | (simp; omega) | exact Below.size (by assumption)))); have HO3 := Lib.hid (own_after HO.out.drew hb3); have m0 := HRA2.out w3 hbw3; have p0 := HRB2.out w3 hbw3; have s3 := hbw3.size; clear hb3))
              go_wp2_with fail
              go_roundw
              case rel => exact ⟨k + 1, AO, cO, by omega, by go_num, by rw [HST2.out], Lib.hid (by rw [HST2.out]; exact HO3.out), hbw3⟩
              case measure => simp [intOf]; omega
          · have gb1 : decide (b.length ≤ k) = true := by simp; omega
            have gb2 : decide ((b.length : Int) ≤ (k : Int)) = true := by simp; omega
            have HST2 := Lib.hid (HYES.out (by rw [List.getElem?_eq_getElem ha, List.getElem?_eq_none (Nat.le_of_not_lt hb')]; simp))
            go_wp2_with fail
            go_quiet (fail)
            have HO3 := Lib.hid (ownsRow_drewN HO.out nq)
            go_wp2_with (at_builtin; refine wpList_append_own _ rfl _ _ 29 rfl w.heap.size 3 i0 (.int .i64 0) 1 8 Try.underlying29 hi0 hz0 hz1 hz2 rfl (by decide) _ _ _ rfl (HO3.out.alloc _) ⟨_, 0, none⟩ 1 1 [.int .i64 (k : Int)] rfl rfl (World.news_of_block (cs := #[.int .i64 (k : Int)]) (t := 3) (fr := (0, 0)) (Lies.new (by simp))) (by simp [Value.oneCell']) (by unfold maxLen; omega) (by omega) (by simp; omega) ?_; intro v' w8 hown' hgrow _; have HB8 := Lib.hid (below_own (w0 := w) (B := w.heap.size) (by (repeat' (first | (with_reducible first | exact Below.refl _ _ | assumption | refine Below.alloc ?_ ?_ _ | refine Below.setCell ?_ ?_ _ | refine below_row ?_ ?_ _ | refine Below.drew ?_ | refine below_drewN ?_ _ | refine Below.trans ?_ (Below.mono (by assumption) ?_)) | exact Nat.le_refl _ | omega | (simp; done) | (simp; omega) | exact Below.size (by assumption)))) (HO3.out.alloc (.cells #[.int .i64 (k : Int)] 3)) hgrow (Nat.le_refl _) (by simp; omega)); have HO8 := Lib.hid hown'; obtain ⟨A8, c8, g8, rfl, -⟩ := own_form hown'; clear hown' hgrow)
            go_roundw
            case rel => exact ⟨k + 1, A8, c8, by omega, by go_num, by rw [HST2.out]; simp, Lib.hid (by rw [HST2.out]; have := HO8.out; simpa [cellsN] using this), HB8.out⟩
            case measure => simp [intOf]; omega
        · exact absurd hlt ha
      · have hke : k = a.length := by omega
        have HR : Hid (diffJ a b k = diffL a b) := Lib.hid (by unfold diffL; rw [hke]; congr 1; omega)
        have HO2 := Lib.hid HO.out
        rw [HR.out] at HO2
        have hkk : (diffJ a b k).length = (diffL a b).length := by rw [HR.out]
        have HKK := Lib.hid hkk
        have kl0 : ¬ (k : Int) < (a.length : Int) := by omega
        have kl2 : decide ((k : Int) < (a.length : Int)) = false := by simpa using kl0
        clear hke hkk HO HST
        rw [HR.out]
        go_wp2_with fail
        go_ret
        exact ⟨_, rfl, HO2.out, hb⟩
end Go.Proofs.Ytkjfceajakhlfaa
