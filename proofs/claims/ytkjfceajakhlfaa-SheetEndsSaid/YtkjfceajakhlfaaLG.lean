/- K11: The reference: SameInts, SameItems. Z4: The reference: SameBranches; branches in memory. Z6: The reference: SameRefs, SameChanges; names and changes in memory. K13: The reference: SameIssue, Same. K19: The reference: Same. K14: The reference: Find. K18: The reference: Check, Drawings, Last, Depth. Z1: The reference: Letters, asked. -/
import Derived.Test.YtkjfceajakhlfaaLA
import Derived.Test.YtkjfceajakhlfaaLF
import Derived.StillTailTactics
import Derived.Test.YtkjfceajakhlfaaLE
import Derived.Deep.RegionHeld3
import Derived.Deep.DeepCutAuto
namespace Go.Proofs.Ytkjfceajakhlfaa
set_option linter.unusedVariables false
set_option linter.unusedSimpArgs false
section
open Go.RowKit

theorem ne_at {α : Type} {a b : List α} {k : Nat} (h1 : k < a.length) (h2 : k < b.length) (h : a[k] ≠ b[k]) : a ≠ b := by
  rintro rfl; exact h rfl
theorem eq_all {α : Type} {a b : List α} (hl : a.length = b.length) (h : ∀ k (h1 : k < a.length) (h2 : k < b.length), a[k] = b[k]) : a = b := List.ext_getElem hl h
set_option maxHeartbeats 2000000 in
theorem rSameInts_any (A B : Option Addr) (c b off c2 b2 off2 : Nat) (l m : List Int) (w : World) (hl : l.length ≤ 1000) (hl2 : m.length ≤ 1000) (hA : 0 < l.length → A = some ⟨b, off, none⟩) (hc : ∀ i (h : i < l.length), w.cell? ⟨b, off + i, none⟩ = some (.int .i64 (l[i])))
    (hB : 0 < m.length → B = some ⟨b2, off2, none⟩) (hd : ∀ i (h : i < m.length), w.cell? ⟨b2, off2 + i, none⟩ = some (.int .i64 (m[i]))) :
    Calls Try.prog 25 #[.slice A l.length c, .slice B m.length c2] w fun e w' => e = .returned (.bool (decide (l = m))) ∧ Below w.heap.size w w' := by
  have HA := Lib.hid hA
  have HC := Lib.hid hc
  have HB := Lib.hid hB
  have HD := Lib.hid hd
  clear hA hc hB hd
  by_cases hlen : l.length = m.length
  · have hlb : ((l.length : Int) != (m.length : Int)) = false := by simp [hlen]
    have HL := Lib.hid hlen
    go_enter Try.func25, Try.ntmps25
    clear hlen
    go_wp2
    go_loopw [5] (fun i wr => ∃ k : Nat, k ≤ l.length ∧ i = .int .i64 k ∧ Hid (∀ j (_ : j < k) (h1 : j < l.length) (h2 : j < m.length), l[j] = m[j]) ∧ Below w.heap.size w wr) (fun i _ => l.length - (intOf i).toNat)
    case atStart => exact ⟨0, by omega, rfl, Lib.hid (fun j hj => by omega), by (repeat' (first | (with_reducible first | exact Below.refl _ _ | assumption | refine Below.alloc ?_ ?_ _ | refine Below.setCell ?_ ?_ _ | refine below_row ?_ ?_ _ | refine Below.drew ?_ | refine below_drewN ?_ _ | refine Below.trans ?_ (Below.mono (by assumption) ?_)) | exact Nat.le_refl _ | omega | (simp; done) | (simp; omega) | exact Below.size (by assumption)))⟩
    case round =>
      obtain ⟨k, hk, rfl, HJ, hb⟩ := hrel
      by_cases hlt : k < l.length
      · have hlt2 : k < m.length := by rw [← HL.out]; exact hlt
        obtain rfl := HA.out (by omega)
        obtain rfl := HB.out (by omega)
        have r0 := cell_keep hb (HC.out k hlt)
        have r1 := cell_keep hb (HD.out k hlt2)
        have kl1 : (k : Int) < (l.length : Int) := by omega
        have kl2 : (k : Int) < (m.length : Int) := by omega
        obtain ⟨x, hx⟩ : ∃ x, l[k] = x := ⟨_, rfl⟩
        obtain ⟨y, hy⟩ : ∃ y, m[k] = y := ⟨_, rfl⟩
        have HX := Lib.hid hx
        have HY := Lib.hid hy
        rw [hx] at r0
        rw [hy] at r1
        clear hx hy
        by_cases e : x = y
        · subst e
          have eb : (x != x) = false := by simp
          go_wp2_with fail
          go_quiet (fail)
          go_wp2_with fail
          go_roundw
          case rel =>
            refine ⟨k + 1, by omega, by go_num, Lib.hid (fun j hj h1 h2 => ?_), below_drewN hb _⟩
            by_cases e : j = k
            · subst e; rw [HX.out, HY.out]
            · exact HJ.out j (by omega) h1 h2
          case measure => simp [intOf]; omega
        · have eb : (x != y) = true := by simp [e]
          have HR : Hid (decide (l = m) = false) := Lib.hid (decide_eq_false (ne_at hlt hlt2 (by rw [HX.out, HY.out]; exact e)))
          clear e
          go_wp2_with fail
          go_quiet (fail)
          go_wp2_with fail
          go_ret
          exact ⟨ret_bool HR.out.symm, below_drewN hb _⟩
      · have HR : Hid (decide (l = m) = true) := Lib.hid (decide_eq_true (eq_all HL.out (fun j h1 h2 => HJ.out j (by omega) h1 h2)))
        go_wp2
        go_ret
        exact ⟨ret_bool HR.out.symm, hb⟩
  · have hlb : ((l.length : Int) != (m.length : Int)) = true := by simp; omega
    have HR : Hid (decide (l = m) = false) := Lib.hid (decide_eq_false (fun h => hlen (by rw [h])))
    clear hlen
    go_enter Try.func25, Try.ntmps25
    go_wp2
    go_ret
    exact ⟨ret_bool HR.out.symm, by (repeat' (first | (with_reducible first | exact Below.refl _ _ | assumption | refine Below.alloc ?_ ?_ _ | refine Below.setCell ?_ ?_ _ | refine below_row ?_ ?_ _ | refine Below.drew ?_ | refine below_drewN ?_ _ | refine Below.trans ?_ (Below.mono (by assumption) ?_)) | exact Nat.le_refl _ | omega | (simp; done) | (simp; omega) | exact Below.size (by assumption)))⟩
theorem rSameInts_v {w : World} {u v : Value} {l m : List Int} (h1 : IntsAt w u l) (h2 : IntsAt w v m) (hl : l.length ≤ 1000) (hl2 : m.length ≤ 1000) :
    Calls Try.prog 25 #[u, v] w fun e w' => e = .returned (.bool (decide (l = m))) ∧ Below w.heap.size w w' := by
  obtain ⟨A, c, b, off, rfl, hA, hc⟩ := h1
  obtain ⟨B, c2, b2, off2, rfl, hB, hd⟩ := h2
  exact rSameInts_any A B c b off c2 b2 off2 l m w hl hl2 hA hc hB hd

set_option maxHeartbeats 2000000 in
theorem rSameItems_any (A B : Option Addr) (c b off c2 b2 off2 : Nat) (l m : List (Int × Int)) (w : World) (hl : l.length ≤ 1000) (hl2 : m.length ≤ 1000) (hA : 0 < l.length → A = some ⟨b, off, none⟩) (hc : ∀ i (h : i < l.length), w.cell? ⟨b, off + i * 2, none⟩ = some (.int .i64 l[i].1) ∧ w.cell? ⟨b, off + i * 2 + 1, none⟩ = some (.int .i64 l[i].2))
    (hB : 0 < m.length → B = some ⟨b2, off2, none⟩) (hd : ∀ i (h : i < m.length), w.cell? ⟨b2, off2 + i * 2, none⟩ = some (.int .i64 m[i].1) ∧ w.cell? ⟨b2, off2 + i * 2 + 1, none⟩ = some (.int .i64 m[i].2)) :
    Calls Try.prog 36 #[.slice A l.length c, .slice B m.length c2] w fun e w' => e = .returned (.bool (decide (l = m))) ∧ Below w.heap.size w w' := by
  have HA := Lib.hid hA
  have HC := Lib.hid hc
  have HB := Lib.hid hB
  have HD := Lib.hid hd
  clear hA hc hB hd
  by_cases hlen : l.length = m.length
  · have hlb : ((l.length : Int) != (m.length : Int)) = false := by simp [hlen]
    have HL := Lib.hid hlen
    go_enter Try.func36, Try.ntmps36
    clear hlen
    go_wp2
    go_loopw [5] (fun i wr => ∃ k : Nat, k ≤ l.length ∧ i = .int .i64 k ∧ Hid (∀ j (_ : j < k) (h1 : j < l.length) (h2 : j < m.length), l[j] = m[j]) ∧ Below w.heap.size w wr) (fun i _ => l.length - (intOf i).toNat)
    case atStart => exact ⟨0, by omega, rfl, Lib.hid (fun j hj => by omega), by (repeat' (first | (with_reducible first | exact Below.refl _ _ | assumption | refine Below.alloc ?_ ?_ _ | refine Below.setCell ?_ ?_ _ | refine below_row ?_ ?_ _ | refine Below.drew ?_ | refine below_drewN ?_ _ | refine Below.trans ?_ (Below.mono (by assumption) ?_)) | exact Nat.le_refl _ | omega | (simp; done) | (simp; omega) | exact Below.size (by assumption)))⟩
    case round =>
      obtain ⟨k, hk, rfl, HJ, hb⟩ := hrel
      by_cases hlt : k < l.length
      · have hlt2 : k < m.length := by rw [← HL.out]; exact hlt
        obtain rfl := HA.out (by omega)
        obtain rfl := HB.out (by omega)
        have r0 := cell_keep hb (HC.out k hlt).1
        have r1 := cell_keep hb (HC.out k hlt).2
        have t0 := cell_keep hb (HD.out k hlt2).1
        have t1 := cell_keep hb (HD.out k hlt2).2
        have kl1 : (k : Int) < (l.length : Int) := by omega
        have kl2 : (k : Int) < (m.length : Int) := by omega
        obtain ⟨x, hx⟩ : ∃ x, l[k] = x := ⟨_, rfl⟩
        obtain ⟨y, hy⟩ : ∃ y, m[k] = y := ⟨_, rfl⟩
        have HX := Lib.hid hx
        have HY := Lib.hid hy
        rw [hx] at r0 r1
        rw [hy] at t0 t1
        clear hx hy
        obtain ⟨x1, x2⟩ := x
        obtain ⟨y1, y2⟩ := y
        simp only at r0 r1 t0 t1
        by_cases e : x1 = y1 <;> by_cases e2 : x2 = y2
        · subst e e2
          have eb : (x1 == x1) = true := by simp
          have eb2 : (x2 == x2) = true := by simp
          go_wp2_with fail
          go_quiet (fail)
          go_wp2_with fail
          go_roundw
          case rel =>
            refine ⟨k + 1, by omega, by go_num, Lib.hid (fun j hj h1 h2 => ?_), below_drewN hb _⟩
            by_cases e : j = k
            · subst e; rw [HX.out, HY.out]
            · exact HJ.out j (by omega) h1 h2
          case measure => simp [intOf]; omega
        all_goals
          have HR : Hid (decide (l = m) = false) := Lib.hid (decide_eq_false (ne_at hlt hlt2 (by rw [HX.out, HY.out]; intro h; injection h with h1 h2; first | exact e h1 | exact e2 h2)))
          first | (have eb : (x1 == y1) = true := by simpa using e) | (have eb : (x1 == y1) = false := by simpa using e)
          first | (have eb2 : (x2 == y2) = true := by simpa using e2) | (have eb2 : (x2 == y2) = false := by simpa using e2)
          clear e e2
          go_wp2_with fail
          go_quiet (fail)
          go_wp2_with fail
          go_ret
          exact ⟨ret_bool HR.out.symm, below_drewN hb _⟩
      · have HR : Hid (decide (l = m) = true) := Lib.hid (decide_eq_true (eq_all HL.out (fun j h1 h2 => HJ.out j (by omega) h1 h2)))
        go_wp2
        go_ret
        exact ⟨ret_bool HR.out.symm, hb⟩
  · have hlb : ((l.length : Int) != (m.length : Int)) = true := by simp; omega
    have HR : Hid (decide (l = m) = false) := Lib.hid (decide_eq_false (fun h => hlen (by rw [h])))
    clear hlen
    go_enter Try.func36, Try.ntmps36
    go_wp2
    go_ret
    exact ⟨ret_bool HR.out.symm, by (repeat' (first | (with_reducible first | exact Below.refl _ _ | assumption | refine Below.alloc ?_ ?_ _ | refine Below.setCell ?_ ?_ _ | refine below_row ?_ ?_ _ | refine Below.drew ?_ | refine below_drewN ?_ _ | refine Below.trans ?_ (Below.mono (by assumption) ?_)) | exact Nat.le_refl _ | omega | (simp; done) | (simp; omega) | exact Below.size (by assumption)))⟩
theorem rSameItems_v {w : World} {u v : Value} {l m : List (Int × Int)} (h1 : ItemsAt w u l) (h2 : ItemsAt w v m) (hl : l.length ≤ 1000) (hl2 : m.length ≤ 1000) :
    Calls Try.prog 36 #[u, v] w fun e w' => e = .returned (.bool (decide (l = m))) ∧ Below w.heap.size w w' := by
  obtain ⟨A, c, b, off, rfl, hA, hc⟩ := h1
  obtain ⟨B, c2, b2, off2, rfl, hB, hd⟩ := h2
  exact rSameItems_any A B c b off c2 b2 off2 l m w hl hl2 hA hc hB hd
end
section
open Go.RowKit

/-- A list of such things in memory. -/
def BranchesAt (w : World) (v : Value) (l : List (Int × Int × Int × Int)) : Prop :=
  ∃ A c b off, v = .slice A l.length c ∧ (0 < l.length → A = some ⟨b, off, none⟩) ∧ ∀ i (h : i < l.length), w.cell? ⟨b, off + i * 4, none⟩ = some (.int .i64 l[i].1) ∧ w.cell? ⟨b, off + i * 4 + 1, none⟩ = some (.int .i64 l[i].2.1) ∧ w.cell? ⟨b, off + i * 4 + 2, none⟩ = some (.int .i64 l[i].2.2.1) ∧ w.cell? ⟨b, off + i * 4 + 3, none⟩ = some (.int .i64 l[i].2.2.2)
theorem BranchesAt.after {w w' : World} {v : Value} {l : List (Int × Int × Int × Int)} (h : BranchesAt w v l) (hb : Below w.heap.size w w') : BranchesAt w' v l := by
  obtain ⟨A, c, b, off, hv, hA, hc⟩ := h
  exact ⟨A, c, b, off, hv, hA, fun i hi => ⟨cell_keep hb (hc i hi).1, cell_keep hb (hc i hi).2.1, cell_keep hb (hc i hi).2.2.1, cell_keep hb (hc i hi).2.2.2⟩⟩
theorem BranchesAt.slice {w : World} {v : Value} {l : List (Int × Int × Int × Int)} (h : BranchesAt w v l) : ∃ A c, v = .slice A l.length c := by
  obtain ⟨A, c, b, off, hv, -⟩ := h
  exact ⟨A, c, hv⟩
set_option maxHeartbeats 2000000 in
theorem rSameBranches_any (A B : Option Addr) (c b off c2 b2 off2 : Nat) (l m : List (Int × Int × Int × Int)) (w : World) (hl : l.length ≤ 1000) (hl2 : m.length ≤ 1000) (hA : 0 < l.length → A = some ⟨b, off, none⟩) (hc : ∀ i (h : i < l.length), w.cell? ⟨b, off + i * 4, none⟩ = some (.int .i64 l[i].1) ∧ w.cell? ⟨b, off + i * 4 + 1, none⟩ = some (.int .i64 l[i].2.1) ∧ w.cell? ⟨b, off + i * 4 + 2, none⟩ = some (.int .i64 l[i].2.2.1) ∧ w.cell? ⟨b, off + i * 4 + 3, none⟩ = some (.int .i64 l[i].2.2.2))
    (hB : 0 < m.length → B = some ⟨b2, off2, none⟩) (hd : ∀ i (h : i < m.length), w.cell? ⟨b2, off2 + i * 4, none⟩ = some (.int .i64 m[i].1) ∧ w.cell? ⟨b2, off2 + i * 4 + 1, none⟩ = some (.int .i64 m[i].2.1) ∧ w.cell? ⟨b2, off2 + i * 4 + 2, none⟩ = some (.int .i64 m[i].2.2.1) ∧ w.cell? ⟨b2, off2 + i * 4 + 3, none⟩ = some (.int .i64 m[i].2.2.2)) :
    Calls Try.prog 37 #[.slice A l.length c, .slice B m.length c2] w fun e w' => e = .returned (.bool (decide (l = m))) ∧ Below w.heap.size w w' := by
  have HA := Lib.hid hA
  have HC := Lib.hid hc
  have HB := Lib.hid hB
  have HD := Lib.hid hd
  clear hA hc hB hd
  by_cases hlen : l.length = m.length
  · have hlb : ((l.length : Int) != (m.length : Int)) = false := by simp [hlen]
    have HL := Lib.hid hlen
    go_enter Try.func37, Try.ntmps37
    clear hlen
    go_wp2
    go_loopw [5] (fun i wr => ∃ k : Nat, k ≤ l.length ∧ i = .int .i64 k ∧ Hid (∀ j (_ : j < k) (h1 : j < l.length) (h2 : j < m.length), l[j] = m[j]) ∧ Below w.heap.size w wr) (fun i _ => l.length - (intOf i).toNat)
    case atStart => exact ⟨0, by omega, rfl, Lib.hid (fun j hj => by omega), by (repeat' (first | (with_reducible first | exact Below.refl _ _ | assumption | refine Below.alloc ?_ ?_ _ | refine Below.setCell ?_ ?_ _ | refine below_row ?_ ?_ _ | refine Below.drew ?_ | refine below_drewN ?_ _ | refine Below.trans ?_ (Below.mono (by assumption) ?_)) | exact Nat.le_refl _ | omega | (simp; done) | (simp; omega) | exact Below.size (by assumption)))⟩
    case round =>
      obtain ⟨k, hk, rfl, HJ, hb⟩ := hrel
      by_cases hlt : k < l.length
      · have hlt2 : k < m.length := by rw [← HL.out]; exact hlt
        obtain rfl := HA.out (by omega)
        obtain rfl := HB.out (by omega)
        have r0 := cell_keep hb (HC.out k hlt).1
        have r1 := cell_keep hb (HC.out k hlt).2.1
        have r2 := cell_keep hb (HC.out k hlt).2.2.1
        have r3 := cell_keep hb (HC.out k hlt).2.2.2
        have t0 := cell_keep hb (HD.out k hlt2).1
        have t1 := cell_keep hb (HD.out k hlt2).2.1
        have t2 := cell_keep hb (HD.out k hlt2).2.2.1
        have t3 := cell_keep hb (HD.out k hlt2).2.2.2
        have kl1 : (k : Int) < (l.length : Int) := by omega
        have kl2 : (k : Int) < (m.length : Int) := by omega
        obtain ⟨x, hx⟩ : ∃ x, l[k] = x := ⟨_, rfl⟩
        obtain ⟨y, hy⟩ : ∃ y, m[k] = y := ⟨_, rfl⟩
        have HX := Lib.hid hx
        have HY := Lib.hid hy
        rw [hx] at r0 r1 r2 r3
        rw [hy] at t0 t1 t2 t3
        clear hx hy
        obtain ⟨x1, x2, x3, x4⟩ := x
        obtain ⟨y1, y2, y3, y4⟩ := y
        simp only at r0 r1 r2 r3 t0 t1 t2 t3
        by_cases e : x1 = y1 <;> by_cases e2 : x2 = y2 <;> by_cases e3 : x3 = y3 <;> by_cases e4 : x4 = y4
        · subst e e2 e3 e4
          have eb : (x1 == x1) = true := by simp
          have eb2 : (x2 == x2) = true := by simp
          have eb3 : (x3 == x3) = true := by simp
          have eb4 : (x4 == x4) = true := by simp
          go_wp2_with fail
          go_quiet (fail)
          go_wp2_with fail
          go_roundw
          case rel =>
            refine ⟨k + 1, by omega, by go_num, Lib.hid (fun j hj h1 h2 => ?_), below_drewN hb _⟩
            by_cases e : j = k
            · subst e; rw [HX.out, HY.out]
            · exact HJ.out j (by omega) h1 h2
          case measure => simp [intOf]; omega
        all_goals
          have HR : Hid (decide (l = m) = false) := Lib.hid (decide_eq_false (ne_at hlt hlt2 (by rw [HX.out, HY.out]; intro h; injection h with h1 h2; injection h2 with g2 h3; injection h3 with g3 h4; first | exact e h1 | exact e2 g2 | exact e3 g3 | exact e4 h4)))
          first | (have eb : (x1 == y1) = true := by simpa using e) | (have eb : (x1 == y1) = false := by simpa using e)
          first | (have eb2 : (x2 == y2) = true := by simpa using e2) | (have eb2 : (x2 == y2) = false := by simpa using e2)
          first | (have eb3 : (x3 == y3) = true := by simpa using e3) | (have eb3 : (x3 == y3) = false := by simpa using e3)
          first | (have eb4 : (x4 == y4) = true := by simpa using e4) | (have eb4 : (x4 == y4) = false := by simpa using e4)
          clear e e2 e3 e4
          go_wp2_with fail
          go_quiet (fail)
          go_wp2_with fail
          go_ret
          exact ⟨ret_bool HR.out.symm, below_drewN hb _⟩
      · have HR : Hid (decide (l = m) = true) := Lib.hid (decide_eq_true (eq_all HL.out (fun j h1 h2 => HJ.out j (by omega) h1 h2)))
        go_wp2
        go_ret
        exact ⟨ret_bool HR.out.symm, hb⟩
  · have hlb : ((l.length : Int) != (m.length : Int)) = true := by simp; omega
    have HR : Hid (decide (l = m) = false) := Lib.hid (decide_eq_false (fun h => hlen (by rw [h])))
    clear hlen
    go_enter Try.func37, Try.ntmps37
    go_wp2
    go_ret
    exact ⟨ret_bool HR.out.symm, by (repeat' (first | (with_reducible first | exact Below.refl _ _ | assumption | refine Below.alloc ?_ ?_ _ | refine Below.setCell ?_ ?_ _ | refine below_row ?_ ?_ _ | refine Below.drew ?_ | refine below_drewN ?_ _ | refine Below.trans ?_ (Below.mono (by assumption) ?_)) | exact Nat.le_refl _ | omega | (simp; done) | (simp; omega) | exact Below.size (by assumption)))⟩
theorem rSameBranches_v {w : World} {u v : Value} {l m : List (Int × Int × Int × Int)} (h1 : BranchesAt w u l) (h2 : BranchesAt w v m) (hl : l.length ≤ 1000) (hl2 : m.length ≤ 1000) :
    Calls Try.prog 37 #[u, v] w fun e w' => e = .returned (.bool (decide (l = m))) ∧ Below w.heap.size w w' := by
  obtain ⟨A, c, b, off, rfl, hA, hc⟩ := h1
  obtain ⟨B, c2, b2, off2, rfl, hB, hd⟩ := h2
  exact rSameBranches_any A B c b off c2 b2 off2 l m w hl hl2 hA hc hB hd
end
section
open Go.RowKit

/-- A list of such things in memory. -/
def RefsAt (w : World) (v : Value) (l : List (Int × Int)) : Prop :=
  ∃ A c b off, v = .slice A l.length c ∧ (0 < l.length → A = some ⟨b, off, none⟩) ∧ ∀ i (h : i < l.length), w.cell? ⟨b, off + i * 2, none⟩ = some (.int .i64 l[i].1) ∧ w.cell? ⟨b, off + i * 2 + 1, none⟩ = some (.int .i64 l[i].2)
theorem RefsAt.after {w w' : World} {v : Value} {l : List (Int × Int)} (h : RefsAt w v l) (hb : Below w.heap.size w w') : RefsAt w' v l := by
  obtain ⟨A, c, b, off, hv, hA, hc⟩ := h
  exact ⟨A, c, b, off, hv, hA, fun i hi => ⟨cell_keep hb (hc i hi).1, cell_keep hb (hc i hi).2⟩⟩
theorem RefsAt.slice {w : World} {v : Value} {l : List (Int × Int)} (h : RefsAt w v l) : ∃ A c, v = .slice A l.length c := by
  obtain ⟨A, c, b, off, hv, -⟩ := h
  exact ⟨A, c, hv⟩
set_option maxHeartbeats 2000000 in
theorem rSameRefs_any (A B : Option Addr) (c b off c2 b2 off2 : Nat) (l m : List (Int × Int)) (w : World) (hl : l.length ≤ 1000) (hl2 : m.length ≤ 1000) (hA : 0 < l.length → A = some ⟨b, off, none⟩) (hc : ∀ i (h : i < l.length), w.cell? ⟨b, off + i * 2, none⟩ = some (.int .i64 l[i].1) ∧ w.cell? ⟨b, off + i * 2 + 1, none⟩ = some (.int .i64 l[i].2))
    (hB : 0 < m.length → B = some ⟨b2, off2, none⟩) (hd : ∀ i (h : i < m.length), w.cell? ⟨b2, off2 + i * 2, none⟩ = some (.int .i64 m[i].1) ∧ w.cell? ⟨b2, off2 + i * 2 + 1, none⟩ = some (.int .i64 m[i].2)) :
    Calls Try.prog 42 #[.slice A l.length c, .slice B m.length c2] w fun e w' => e = .returned (.bool (decide (l = m))) ∧ Below w.heap.size w w' := by
  have HA := Lib.hid hA
  have HC := Lib.hid hc
  have HB := Lib.hid hB
  have HD := Lib.hid hd
  clear hA hc hB hd
  by_cases hlen : l.length = m.length
  · have hlb : ((l.length : Int) != (m.length : Int)) = false := by simp [hlen]
    have HL := Lib.hid hlen
    go_enter Try.func42, Try.ntmps42
    clear hlen
    go_wp2
    go_loopw [5] (fun i wr => ∃ k : Nat, k ≤ l.length ∧ i = .int .i64 k ∧ Hid (∀ j (_ : j < k) (h1 : j < l.length) (h2 : j < m.length), l[j] = m[j]) ∧ Below w.heap.size w wr) (fun i _ => l.length - (intOf i).toNat)
    case atStart => exact ⟨0, by omega, rfl, Lib.hid (fun j hj => by omega), by (repeat' (first | (with_reducible first | exact Below.refl _ _ | assumption | refine Below.alloc ?_ ?_ _ | refine Below.setCell ?_ ?_ _ | refine below_row ?_ ?_ _ | refine Below.drew ?_ | refine below_drewN ?_ _ | refine Below.trans ?_ (Below.mono (by assumption) ?_)) | exact Nat.le_refl _ | omega | (simp; done) | (simp; omega) | exact Below.size (by assumption)))⟩
    case round =>
      obtain ⟨k, hk, rfl, HJ, hb⟩ := hrel
      by_cases hlt : k < l.length
      · have hlt2 : k < m.length := by rw [← HL.out]; exact hlt
        obtain rfl := HA.out (by omega)
        obtain rfl := HB.out (by omega)
        have r0 := cell_keep hb (HC.out k hlt).1
        have r1 := cell_keep hb (HC.out k hlt).2
        have t0 := cell_keep hb (HD.out k hlt2).1
        have t1 := cell_keep hb (HD.out k hlt2).2
        have kl1 : (k : Int) < (l.length : Int) := by omega
        have kl2 : (k : Int) < (m.length : Int) := by omega
        obtain ⟨x, hx⟩ : ∃ x, l[k] = x := ⟨_, rfl⟩
        obtain ⟨y, hy⟩ : ∃ y, m[k] = y := ⟨_, rfl⟩
        have HX := Lib.hid hx
        have HY := Lib.hid hy
        rw [hx] at r0 r1
        rw [hy] at t0 t1
        clear hx hy
        obtain ⟨x1, x2⟩ := x
        obtain ⟨y1, y2⟩ := y
        simp only at r0 r1 t0 t1
        by_cases e : x1 = y1 <;> by_cases e2 : x2 = y2
        · subst e e2
          have eb : (x1 == x1) = true := by simp
          have eb2 : (x2 == x2) = true := by simp
          go_wp2_with fail
          go_quiet (fail)
          go_wp2_with fail
          go_roundw
          case rel =>
            refine ⟨k + 1, by omega, by go_num, Lib.hid (fun j hj h1 h2 => ?_), below_drewN hb _⟩
            by_cases e : j = k
            · subst e; rw [HX.out, HY.out]
            · exact HJ.out j (by omega) h1 h2
          case measure => simp [intOf]; omega
        all_goals
          have HR : Hid (decide (l = m) = false) := Lib.hid (decide_eq_false (ne_at hlt hlt2 (by rw [HX.out, HY.out]; intro h; injection h with h1 h2; first | exact e h1 | exact e2 h2)))
          first | (have eb : (x1 == y1) = true := by simpa using e) | (have eb : (x1 == y1) = false := by simpa using e)
          first | (have eb2 : (x2 == y2) = true := by simpa using e2) | (have eb2 : (x2 == y2) = false := by simpa using e2)
          clear e e2
          go_wp2_with fail
          go_quiet (fail)
          go_wp2_with fail
          go_ret
          exact ⟨ret_bool HR.out.symm, below_drewN hb _⟩
      · have HR : Hid (decide (l = m) = true) := Lib.hid (decide_eq_true (eq_all HL.out (fun j h1 h2 => HJ.out j (by omega) h1 h2)))
        go_wp2
        go_ret
        exact ⟨ret_bool HR.out.symm, hb⟩
  · have hlb : ((l.length : Int) != (m.length : Int)) = true := by simp; omega
    have HR : Hid (decide (l = m) = false) := Lib.hid (decide_eq_false (fun h => hlen (by rw [h])))
    clear hlen
    go_enter Try.func42, Try.ntmps42
    go_wp2
    go_ret
    exact ⟨ret_bool HR.out.symm, by (repeat' (first | (with_reducible first | exact Below.refl _ _ | assumption | refine Below.alloc ?_ ?_ _ | refine Below.setCell ?_ ?_ _ | refine below_row ?_ ?_ _ | refine Below.drew ?_ | refine below_drewN ?_ _ | refine Below.trans ?_ (Below.mono (by assumption) ?_)) | exact Nat.le_refl _ | omega | (simp; done) | (simp; omega) | exact Below.size (by assumption)))⟩
theorem rSameRefs_v {w : World} {u v : Value} {l m : List (Int × Int)} (h1 : RefsAt w u l) (h2 : RefsAt w v m) (hl : l.length ≤ 1000) (hl2 : m.length ≤ 1000) :
    Calls Try.prog 42 #[u, v] w fun e w' => e = .returned (.bool (decide (l = m))) ∧ Below w.heap.size w w' := by
  obtain ⟨A, c, b, off, rfl, hA, hc⟩ := h1
  obtain ⟨B, c2, b2, off2, rfl, hB, hd⟩ := h2
  exact rSameRefs_any A B c b off c2 b2 off2 l m w hl hl2 hA hc hB hd
/-- A list of such things in memory. -/
def ChangesAt (w : World) (v : Value) (l : List (Int × Int × Int)) : Prop :=
  ∃ A c b off, v = .slice A l.length c ∧ (0 < l.length → A = some ⟨b, off, none⟩) ∧ ∀ i (h : i < l.length), w.cell? ⟨b, off + i * 3, none⟩ = some (.int .i64 l[i].1) ∧ w.cell? ⟨b, off + i * 3 + 1, none⟩ = some (.int .i64 l[i].2.1) ∧ w.cell? ⟨b, off + i * 3 + 2, none⟩ = some (.int .i64 l[i].2.2)
theorem ChangesAt.after {w w' : World} {v : Value} {l : List (Int × Int × Int)} (h : ChangesAt w v l) (hb : Below w.heap.size w w') : ChangesAt w' v l := by
  obtain ⟨A, c, b, off, hv, hA, hc⟩ := h
  exact ⟨A, c, b, off, hv, hA, fun i hi => ⟨cell_keep hb (hc i hi).1, cell_keep hb (hc i hi).2.1, cell_keep hb (hc i hi).2.2⟩⟩
theorem ChangesAt.slice {w : World} {v : Value} {l : List (Int × Int × Int)} (h : ChangesAt w v l) : ∃ A c, v = .slice A l.length c := by
  obtain ⟨A, c, b, off, hv, -⟩ := h
  exact ⟨A, c, hv⟩
set_option maxHeartbeats 2000000 in
theorem rSameChanges_any (A B : Option Addr) (c b off c2 b2 off2 : Nat) (l m : List (Int × Int × Int)) (w : World) (hl : l.length ≤ 1000) (hl2 : m.length ≤ 1000) (hA : 0 < l.length → A = some ⟨b, off, none⟩) (hc : ∀ i (h : i < l.length), w.cell? ⟨b, off + i * 3, none⟩ = some (.int .i64 l[i].1) ∧ w.cell? ⟨b, off + i * 3 + 1, none⟩ = some (.int .i64 l[i].2.1) ∧ w.cell? ⟨b, off + i * 3 + 2, none⟩ = some (.int .i64 l[i].2.2))
    (hB : 0 < m.length → B = some ⟨b2, off2, none⟩) (hd : ∀ i (h : i < m.length), w.cell? ⟨b2, off2 + i * 3, none⟩ = some (.int .i64 m[i].1) ∧ w.cell? ⟨b2, off2 + i * 3 + 1, none⟩ = some (.int .i64 m[i].2.1) ∧ w.cell? ⟨b2, off2 + i * 3 + 2, none⟩ = some (.int .i64 m[i].2.2)) :
    Calls Try.prog 45 #[.slice A l.length c, .slice B m.length c2] w fun e w' => e = .returned (.bool (decide (l = m))) ∧ Below w.heap.size w w' := by
  have HA := Lib.hid hA
  have HC := Lib.hid hc
  have HB := Lib.hid hB
  have HD := Lib.hid hd
  clear hA hc hB hd
  by_cases hlen : l.length = m.length
  · have hlb : ((l.length : Int) != (m.length : Int)) = false := by simp [hlen]
    have HL := Lib.hid hlen
    go_enter Try.func45, Try.ntmps45
    clear hlen
    go_wp2
    go_loopw [5] (fun i wr => ∃ k : Nat, k ≤ l.length ∧ i = .int .i64 k ∧ Hid (∀ j (_ : j < k) (h1 : j < l.length) (h2 : j < m.length), l[j] = m[j]) ∧ Below w.heap.size w wr) (fun i _ => l.length - (intOf i).toNat)
    case atStart => exact ⟨0, by omega, rfl, Lib.hid (fun j hj => by omega), by (repeat' (first | (with_reducible first | exact Below.refl _ _ | assumption | refine Below.alloc ?_ ?_ _ | refine Below.setCell ?_ ?_ _ | refine below_row ?_ ?_ _ | refine Below.drew ?_ | refine below_drewN ?_ _ | refine Below.trans ?_ (Below.mono (by assumption) ?_)) | exact Nat.le_refl _ | omega | (simp; done) | (simp; omega) | exact Below.size (by assumption)))⟩
    case round =>
      obtain ⟨k, hk, rfl, HJ, hb⟩ := hrel
      by_cases hlt : k < l.length
      · have hlt2 : k < m.length := by rw [← HL.out]; exact hlt
        obtain rfl := HA.out (by omega)
        obtain rfl := HB.out (by omega)
        have r0 := cell_keep hb (HC.out k hlt).1
        have r1 := cell_keep hb (HC.out k hlt).2.1
        have r2 := cell_keep hb (HC.out k hlt).2.2
        have t0 := cell_keep hb (HD.out k hlt2).1
        have t1 := cell_keep hb (HD.out k hlt2).2.1
        have t2 := cell_keep hb (HD.out k hlt2).2.2
        have kl1 : (k : Int) < (l.length : Int) := by omega
        have kl2 : (k : Int) < (m.length : Int) := by omega
        obtain ⟨x, hx⟩ : ∃ x, l[k] = x := ⟨_, rfl⟩
        obtain ⟨y, hy⟩ : ∃ y, m[k] = y := ⟨_, rfl⟩
        have HX := Lib.hid hx
        have HY := Lib.hid hy
        rw [hx] at r0 r1 r2
        rw [hy] at t0 t1 t2
        clear hx hy
        obtain ⟨x1, x2, x3⟩ := x
        obtain ⟨y1, y2, y3⟩ := y
        simp only at r0 r1 r2 t0 t1 t2
        by_cases e : x1 = y1 <;> by_cases e2 : x2 = y2 <;> by_cases e3 : x3 = y3
        · subst e e2 e3
          have eb : (x1 == x1) = true := by simp
          have eb2 : (x2 == x2) = true := by simp
          have eb3 : (x3 == x3) = true := by simp
          go_wp2_with fail
          go_quiet (fail)
          go_wp2_with fail
          go_roundw
          case rel =>
            refine ⟨k + 1, by omega, by go_num, Lib.hid (fun j hj h1 h2 => ?_), below_drewN hb _⟩
            by_cases e : j = k
            · subst e; rw [HX.out, HY.out]
            · exact HJ.out j (by omega) h1 h2
          case measure => simp [intOf]; omega
        all_goals
          have HR : Hid (decide (l = m) = false) := Lib.hid (decide_eq_false (ne_at hlt hlt2 (by rw [HX.out, HY.out]; intro h; injection h with h1 h2; injection h2 with g2 h3; first | exact e h1 | exact e2 g2 | exact e3 h3)))
          first | (have eb : (x1 == y1) = true := by simpa using e) | (have eb : (x1 == y1) = false := by simpa using e)
          first | (have eb2 : (x2 == y2) = true := by simpa using e2) | (have eb2 : (x2 == y2) = false := by simpa using e2)
          first | (have eb3 : (x3 == y3) = true := by simpa using e3) | (have eb3 : (x3 == y3) = false := by simpa using e3)
          clear e e2 e3
          go_wp2_with fail
          go_quiet (fail)
          go_wp2_with fail
          go_ret
          exact ⟨ret_bool HR.out.symm, below_drewN hb _⟩
      · have HR : Hid (decide (l = m) = true) := Lib.hid (decide_eq_true (eq_all HL.out (fun j h1 h2 => HJ.out j (by omega) h1 h2)))
        go_wp2
        go_ret
        exact ⟨ret_bool HR.out.symm, hb⟩
  · have hlb : ((l.length : Int) != (m.length : Int)) = true := by simp; omega
    have HR : Hid (decide (l = m) = false) := Lib.hid (decide_eq_false (fun h => hlen (by rw [h])))
    clear hlen
    go_enter Try.func45, Try.ntmps45
    go_wp2
    go_ret
    exact ⟨ret_bool HR.out.symm, by (repeat' (first | (with_reducible first | exact Below.refl _ _ | assumption | refine Below.alloc ?_ ?_ _ | refine Below.setCell ?_ ?_ _ | refine below_row ?_ ?_ _ | refine Below.drew ?_ | refine below_drewN ?_ _ | refine Below.trans ?_ (Below.mono (by assumption) ?_)) | exact Nat.le_refl _ | omega | (simp; done) | (simp; omega) | exact Below.size (by assumption)))⟩
theorem rSameChanges_v {w : World} {u v : Value} {l m : List (Int × Int × Int)} (h1 : ChangesAt w u l) (h2 : ChangesAt w v m) (hl : l.length ≤ 1000) (hl2 : m.length ≤ 1000) :
    Calls Try.prog 45 #[u, v] w fun e w' => e = .returned (.bool (decide (l = m))) ∧ Below w.heap.size w w' := by
  obtain ⟨A, c, b, off, rfl, hA, hc⟩ := h1
  obtain ⟨B, c2, b2, off2, rfl, hB, hd⟩ := h2
  exact rSameChanges_any A B c b off c2 b2 off2 l m w hl hl2 hA hc hB hd
end
section
open Go.RowKit

def sameI (x y : Iss) : Bool := decide (x.d = y.d) && decide (x.l = y.l) && decide (x.k = y.k) && decide (x.items = y.items) && decide (x.dims = y.dims)
theorem sameI_iff {x y : Iss} : sameI x y = true ↔ x = y := by
  obtain ⟨a, b, c, d, e⟩ := x
  obtain ⟨a', b', c', d', e'⟩ := y
  simp [sameI, and_assoc]
def eqD (x y : D3) : Bool := decide (x.1 = y.1) && decide (x.2.1 = y.2.1) && decide (x.2.2 = y.2.2)
theorem eqD_iff {x y : D3} : eqD x y = true ↔ x = y := by
  obtain ⟨a, b, c⟩ := x
  obtain ⟨a', b', c'⟩ := y
  simp [eqD, and_assoc]
set_option maxRecDepth 100000 in
set_option maxHeartbeats 8000000 in
theorem rSameIssue_any (x y : Iss) (vi vd vi2 vd2 : Value) (w : World) (hl1 : x.items.length ≤ 1000) (hl2 : y.items.length ≤ 1000) (hl3 : x.dims.length ≤ 1000) (hl4 : y.dims.length ≤ 1000) (h1 : ItemsAt w vi x.items) (h2 : ItemsAt w vi2 y.items) (h3 : DimsAt w vd x.dims) (h4 : DimsAt w vd2 y.dims) :
    Calls Try.prog 30 #[.agg #[.int .i64 x.d, .int .i64 x.l, .int .u8 x.k, vi, vd], .agg #[.int .i64 y.d, .int .i64 y.l, .int .u8 y.k, vi2, vd2]] w fun e w' => e = .returned (.bool (sameI x y)) ∧ Below w.heap.size w w' := by
  obtain ⟨d, l, k, il, dl⟩ := x
  obtain ⟨d', l', k', il', dl'⟩ := y
  simp only at hl1 hl2 hl3 hl4 h1 h2 h3 h4 ⊢
  unfold sameI
  simp only
  have HSI := Lib.hid (fun W (hW : Below w.heap.size w W) => rSameItems_v (h1.after hW) (h2.after hW) hl1 hl2)
  obtain ⟨A1, c1, b1, o1, rfl, -, -⟩ := h1
  obtain ⟨A2, c2, b2, o2, rfl, -, -⟩ := h2
  obtain ⟨A3, c3, b3, o3, rfl, hA3, hc3⟩ := h3
  obtain ⟨A4, c4, b4, o4, rfl, hA4, hc4⟩ := h4
  have HA3 := Lib.hid hA3
  have HA4 := Lib.hid hA4
  have HC3 := Lib.hid hc3
  have HC4 := Lib.hid hc4
  clear hA3 hA4 hc3 hc4
  by_cases e1 : d = d'
  · subst e1
    have q1 : (d != d) = false := by simp
    rw [decide_eq_true rfl, Bool.true_and]
    by_cases e2 : l = l'
    · subst e2
      have q2 : (l != l) = false := by simp
      rw [decide_eq_true rfl, Bool.true_and]
      by_cases e3 : k = k'
      · subst e3
        have q3 : (k != k) = false := by simp
        rw [decide_eq_true rfl, Bool.true_and]
        have LX := Lib.hid ((Lies.made w 45 #[.int .i64 d, .int .i64 l, .int .u8 k, .slice A1 il.length c1, .slice A3 dl.length c3]).alloc (.cells #[.int .i64 d, .int .i64 l, .int .u8 k, .slice A2 il'.length c2, .slice A4 dl'.length c4] 45))
        have LY := Lib.hid (Lies.new (u := w.alloc (.cells #[.int .i64 d, .int .i64 l, .int .u8 k, .slice A1 il.length c1, .slice A3 dl.length c3] 45)) (k := w.heap.size + 1) (t := 45) (cs := #[.int .i64 d, .int .i64 l, .int .u8 k, .slice A2 il'.length c2, .slice A4 dl'.length c4]) (by simp))
        by_cases e4 : il = il'
        · rw [decide_eq_true e4] at HSI ⊢
          rw [Bool.true_and]
          clear e4
          by_cases e5 : dl.length = dl'.length
          · have q5 : ((dl.length : Int) != (dl'.length : Int)) = false := by simp [e5]
            have HL := Lib.hid e5
            clear e5
            go_enter Try.func30, Try.ntmps30
            go_wp2_with fail
            refine (HSI.out _ (by (repeat' (first | (with_reducible first | exact Below.refl _ _ | assumption | refine Below.alloc ?_ ?_ _ | refine Below.setCell ?_ ?_ _ | refine below_row ?_ ?_ _ | refine Below.drew ?_ | refine below_drewN ?_ _ | refine Below.trans ?_ (Below.mono (by assumption) ?_)) | exact Nat.le_refl _ | omega | (simp; done) | (simp; omega) | exact Below.size (by assumption))))).mono ?_
            rintro e w1 ⟨rfl, hb1⟩
            have s1 := hb1.size; try simp only [World.size_alloc, World.size_setCell, World.size_drew, setRow_size] at s1
            have MX := Lib.hid (LX.out.after hb1)
            have MY := Lib.hid (LY.out.after hb1)
            have hbw : Below w.heap.size w w1 := by (repeat' (first | (with_reducible first | exact Below.refl _ _ | assumption | refine Below.alloc ?_ ?_ _ | refine Below.setCell ?_ ?_ _ | refine below_row ?_ ?_ _ | refine Below.drew ?_ | refine below_drewN ?_ _ | refine Below.trans ?_ (Below.mono (by assumption) ?_)) | exact Nat.le_refl _ | omega | (simp; done) | (simp; omega) | exact Below.size (by assumption)))
            have x4 := MX.out.cell 4
            have y4 := MY.out.cell 4
            have zx := MX.out.lt
            have zy := MY.out.lt
            clear hb1
            go_wp2_with fail
            clear x4 y4 zx zy
            go_loopw [5] (fun i wr => ∃ p : Nat, p ≤ dl.length ∧ i = .int .i64 p ∧ Hid (∀ j (_ : j < p) (h1 : j < dl.length) (h2 : j < dl'.length), dl[j] = dl'[j]) ∧ Hid (Lies wr w.heap.size 45 #[.int .i64 d, .int .i64 l, .int .u8 k, .slice A1 il.length c1, .slice A3 dl.length c3]) ∧ Hid (Lies wr (w.heap.size + 1) 45 #[.int .i64 d, .int .i64 l, .int .u8 k, .slice A2 il'.length c2, .slice A4 dl'.length c4]) ∧ Below w.heap.size w wr) (fun i _ => dl.length - (intOf i).toNat)
            case atStart => exact ⟨0, by omega, rfl, Lib.hid (fun j hj => by omega), MX, MY, hbw⟩
            case round =>
              obtain ⟨p, hp, rfl, HJ, NX, NY, hb⟩ := hrel
              have x4 := NX.out.cell 4
              have y4 := NY.out.cell 4
              have zx := NX.out.lt
              have zy := NY.out.lt
              by_cases hlt : p < dl.length
              · have hlt2 : p < dl'.length := by rw [← HL.out]; exact hlt
                obtain rfl := HA3.out (by omega)
                obtain rfl := HA4.out (by omega)
                have r0 := cell_keep hb (HC3.out p hlt).1
                have r1 := cell_keep hb (HC3.out p hlt).2.1
                have r2 := cell_keep hb (HC3.out p hlt).2.2
                have t0 := cell_keep hb (HC4.out p hlt2).1
                have t1 := cell_keep hb (HC4.out p hlt2).2.1
                have t2 := cell_keep hb (HC4.out p hlt2).2.2
                have kl1 : (p : Int) < (dl.length : Int) := by omega
                have kl2 : (p : Int) < (dl'.length : Int) := by omega
                obtain ⟨u, hu⟩ : ∃ u, dl[p] = u := ⟨_, rfl⟩
                obtain ⟨v, hv⟩ : ∃ v, dl'[p] = v := ⟨_, rfl⟩
                have HU := Lib.hid hu
                have HV := Lib.hid hv
                rw [hu] at r0 r1 r2
                rw [hv] at t0 t1 t2
                clear hu hv
                obtain ⟨u0, u1, u2⟩ := u
                obtain ⟨v0, v1, v2⟩ := v
                simp only at r0 r1 r2 t0 t1 t2
                by_cases g0 : u0 = v0 <;> by_cases g1 : u1 = v1 <;> by_cases g2 : u2 = v2
                · subst g0 g1 g2
                  have f0 : (u0 == u0) = true := by simp
                  have f1 : (u1 == u1) = true := by simp
                  have f2 : (u2 == u2) = true := by simp
                  go_wp2_with fail
                  go_quiet (fail)
                  go_wp2_with fail
                  go_roundw
                  case rel =>
                    refine ⟨p + 1, by omega, by go_num, Lib.hid (fun j hj h1 h2 => ?_), NX, NY, below_drewN hb _⟩
                    by_cases e : j = p
                    · subst e; rw [HU.out, HV.out]
                    · exact HJ.out j (by omega) h1 h2
                  case measure => simp [intOf]; omega
                all_goals
                  have HR : Hid (decide (dl = dl') = false) := Lib.hid (decide_eq_false (ne_at hlt hlt2 (by rw [HU.out, HV.out]; intro h; injection h with h1 h2; injection h2 with h2 h3; first | exact g0 h1 | exact g1 h2 | exact g2 h3)))
                  first | (have f0 : (u0 == v0) = true := by simpa using g0) | (have f0 : (u0 == v0) = false := by simpa using g0)
                  first | (have f1 : (u1 == v1) = true := by simpa using g1) | (have f1 : (u1 == v1) = false := by simpa using g1)
                  first | (have f2 : (u2 == v2) = true := by simpa using g2) | (have f2 : (u2 == v2) = false := by simpa using g2)
                  clear g0 g1 g2
                  go_wp2_with fail
                  go_quiet (fail)
                  go_wp2_with fail
                  go_ret
                  exact ⟨ret_bool HR.out.symm, below_drewN hb _⟩
              · have HR : Hid (decide (dl = dl') = true) := Lib.hid (decide_eq_true (eq_all HL.out (fun j h1 h2 => HJ.out j (by omega) h1 h2)))
                go_wp2
                go_ret
                exact ⟨ret_bool HR.out.symm, hb⟩
          · have q5 : ((dl.length : Int) != (dl'.length : Int)) = true := by simp; omega
            have HR : Hid (decide (dl = dl') = false) := Lib.hid (decide_eq_false (fun h => e5 (by rw [h])))
            clear e5
            go_enter Try.func30, Try.ntmps30
            go_wp2_with fail
            refine (HSI.out _ (by (repeat' (first | (with_reducible first | exact Below.refl _ _ | assumption | refine Below.alloc ?_ ?_ _ | refine Below.setCell ?_ ?_ _ | refine below_row ?_ ?_ _ | refine Below.drew ?_ | refine below_drewN ?_ _ | refine Below.trans ?_ (Below.mono (by assumption) ?_)) | exact Nat.le_refl _ | omega | (simp; done) | (simp; omega) | exact Below.size (by assumption))))).mono ?_
            rintro e w1 ⟨rfl, hb1⟩
            have s1 := hb1.size; try simp only [World.size_alloc, World.size_setCell, World.size_drew, setRow_size] at s1
            have MX := Lib.hid (LX.out.after hb1)
            have MY := Lib.hid (LY.out.after hb1)
            have x4 := MX.out.cell 4
            have y4 := MY.out.cell 4
            have zx := MX.out.lt
            have zy := MY.out.lt
            go_wp2
            go_ret
            exact ⟨ret_bool HR.out.symm, by (repeat' (first | (with_reducible first | exact Below.refl _ _ | assumption | refine Below.alloc ?_ ?_ _ | refine Below.setCell ?_ ?_ _ | refine below_row ?_ ?_ _ | refine Below.drew ?_ | refine below_drewN ?_ _ | refine Below.trans ?_ (Below.mono (by assumption) ?_)) | exact Nat.le_refl _ | omega | (simp; done) | (simp; omega) | exact Below.size (by assumption)))⟩
        · rw [decide_eq_false e4] at HSI ⊢
          rw [Bool.false_and]
          clear e4
          go_enter Try.func30, Try.ntmps30
          go_wp2_with fail
          refine (HSI.out _ (by (repeat' (first | (with_reducible first | exact Below.refl _ _ | assumption | refine Below.alloc ?_ ?_ _ | refine Below.setCell ?_ ?_ _ | refine below_row ?_ ?_ _ | refine Below.drew ?_ | refine below_drewN ?_ _ | refine Below.trans ?_ (Below.mono (by assumption) ?_)) | exact Nat.le_refl _ | omega | (simp; done) | (simp; omega) | exact Below.size (by assumption))))).mono ?_
          rintro e w1 ⟨rfl, hb1⟩
          have s1 := hb1.size; try simp only [World.size_alloc, World.size_setCell, World.size_drew, setRow_size] at s1
          go_wp2
          go_ret
          exact ⟨rfl, by (repeat' (first | (with_reducible first | exact Below.refl _ _ | assumption | refine Below.alloc ?_ ?_ _ | refine Below.setCell ?_ ?_ _ | refine below_row ?_ ?_ _ | refine Below.drew ?_ | refine below_drewN ?_ _ | refine Below.trans ?_ (Below.mono (by assumption) ?_)) | exact Nat.le_refl _ | omega | (simp; done) | (simp; omega) | exact Below.size (by assumption)))⟩
      · have q3 : (k != k') = true := by simp [e3]
        rw [decide_eq_false e3, Bool.false_and, Bool.false_and]
        clear e3
        go_enter Try.func30, Try.ntmps30
        go_wp2
        go_ret
        exact ⟨rfl, by (repeat' (first | (with_reducible first | exact Below.refl _ _ | assumption | refine Below.alloc ?_ ?_ _ | refine Below.setCell ?_ ?_ _ | refine below_row ?_ ?_ _ | refine Below.drew ?_ | refine below_drewN ?_ _ | refine Below.trans ?_ (Below.mono (by assumption) ?_)) | exact Nat.le_refl _ | omega | (simp; done) | (simp; omega) | exact Below.size (by assumption)))⟩
    · have q2 : (l != l') = true := by simp [e2]
      rw [decide_eq_false e2, Bool.false_and, Bool.false_and, Bool.false_and]
      clear e2
      go_enter Try.func30, Try.ntmps30
      go_wp2
      go_ret
      exact ⟨rfl, by (repeat' (first | (with_reducible first | exact Below.refl _ _ | assumption | refine Below.alloc ?_ ?_ _ | refine Below.setCell ?_ ?_ _ | refine below_row ?_ ?_ _ | refine Below.drew ?_ | refine below_drewN ?_ _ | refine Below.trans ?_ (Below.mono (by assumption) ?_)) | exact Nat.le_refl _ | omega | (simp; done) | (simp; omega) | exact Below.size (by assumption)))⟩
  · have q1 : (d != d') = true := by simp [e1]
    rw [decide_eq_false e1, Bool.false_and, Bool.false_and, Bool.false_and, Bool.false_and]
    clear e1
    go_enter Try.func30, Try.ntmps30
    go_wp2
    go_ret
    exact ⟨rfl, by (repeat' (first | (with_reducible first | exact Below.refl _ _ | assumption | refine Below.alloc ?_ ?_ _ | refine Below.setCell ?_ ?_ _ | refine below_row ?_ ?_ _ | refine Below.drew ?_ | refine below_drewN ?_ _ | refine Below.trans ?_ (Below.mono (by assumption) ?_)) | exact Nat.le_refl _ | omega | (simp; done) | (simp; omega) | exact Below.size (by assumption)))⟩
end
section
open Go.RowKit

instance (x y : Iss) : Decidable (x = y) := decidable_of_iff _ (sameI_iff (x := x) (y := y))
instance : DecidableEq Iss := fun x y => inferInstance
set_option maxRecDepth 100000 in
set_option maxHeartbeats 8000000 in
theorem rSame_any (A A2 : Option Addr) (c b off c2 b2 off2 : Nat) (xs ys : List Iss) (vi vd vi2 vd2 : Nat → Value) (w : World) (hl : xs.length ≤ 1000) (hl2 : ys.length ≤ 1000) (hsm : ∀ x ∈ xs, x.items.length ≤ 1000 ∧ x.dims.length ≤ 1000) (hsm2 : ∀ x ∈ ys, x.items.length ≤ 1000 ∧ x.dims.length ≤ 1000)
    (hA : 0 < xs.length → A = some ⟨b, off, none⟩) (hc : IssRow w b off xs vi vd) (hA2 : 0 < ys.length → A2 = some ⟨b2, off2, none⟩) (hc2 : IssRow w b2 off2 ys vi2 vd2) :
    Calls Try.prog 31 #[.agg #[.slice A xs.length c], .agg #[.slice A2 ys.length c2]] w fun e w' => e = .returned (.bool (decide (xs = ys))) ∧ Below w.heap.size w w' := by
  have HIS : Hid (∀ k (h : k < xs.length) (h2 : k < ys.length) W, Below w.heap.size w W → Calls Try.prog 30 #[.agg #[.int .i64 (xs[k].d), .int .i64 (xs[k].l), .int .u8 xs[k].k, vi k, vd k], .agg #[.int .i64 (ys[k].d), .int .i64 (ys[k].l), .int .u8 ys[k].k, vi2 k, vd2 k]] W fun e w' => e = .returned (.bool (sameI xs[k] ys[k])) ∧ Below W.heap.size W w') :=
    Lib.hid (fun k h h2 W hW => rSameIssue_any xs[k] ys[k] (vi k) (vd k) (vi2 k) (vd2 k) W (hsm _ (List.getElem_mem h)).1 (hsm2 _ (List.getElem_mem h2)).1 (hsm _ (List.getElem_mem h)).2 (hsm2 _ (List.getElem_mem h2)).2
      ((hc k h).2.2.2.2.2.2.1.after hW) ((hc2 k h2).2.2.2.2.2.2.1.after hW) ((hc k h).2.2.2.2.2.2.2.1.after hW) ((hc2 k h2).2.2.2.2.2.2.2.1.after hW))
  have HA := Lib.hid hA
  have HC := Lib.hid hc
  have HA2 := Lib.hid hA2
  have HC2 := Lib.hid hc2
  clear hA hc hA2 hc2 hsm hsm2
  have HD0 := Lib.hid ((Lies.made w 24 #[.slice A xs.length c]).alloc (.cells #[.slice A2 ys.length c2] 24))
  have HE0 := Lib.hid (Lies.new (u := w.alloc (.cells #[.slice A xs.length c] 24)) (k := w.heap.size + 1) (t := 24) (cs := #[.slice A2 ys.length c2]) (by simp))
  by_cases hn : xs.length = ys.length
  · have HN := Lib.hid hn
    have hq : ((xs.length : Int) != (ys.length : Int)) = false := by simp [hn]
    clear hn
    go_enter Try.func31, Try.ntmps31
    go_wp2_with fail
    go_loopw [5] (fun i wr => ∃ k : Nat, k ≤ xs.length ∧ i = .int .i64 k ∧ Hid (∀ j (_ : j < k) (h1 : j < xs.length) (h2 : j < ys.length), xs[j] = ys[j]) ∧ Hid (Lies wr w.heap.size 24 #[.slice A xs.length c]) ∧ Hid (Lies wr (w.heap.size + 1) 24 #[.slice A2 ys.length c2]) ∧ Below w.heap.size w wr) (fun i _ => xs.length - (intOf i).toNat)
    case atStart => exact ⟨0, by omega, rfl, Lib.hid (fun j hj => by omega), HD0, HE0, by (repeat' (first | (with_reducible first | exact Below.refl _ _ | assumption | refine Below.alloc ?_ ?_ _ | refine Below.setCell ?_ ?_ _ | refine below_row ?_ ?_ _ | refine Below.drew ?_ | refine below_drewN ?_ _ | refine Below.trans ?_ (Below.mono (by assumption) ?_)) | exact Nat.le_refl _ | omega | (simp; done) | (simp; omega) | exact Below.size (by assumption)))⟩
    case round =>
      obtain ⟨k, hk, rfl, HJ, HD, HE, hb⟩ := hrel
      have hz := hb.size
      have d0 := HD.out.cell 0
      have e0 := HE.out.cell 0
      have zd := HD.out.lt
      have ze := HE.out.lt
      by_cases hlt : k < xs.length
      · have hlt2 : k < ys.length := by have := HN.out; omega
        obtain rfl := HA.out (by omega)
        obtain rfl := HA2.out (by omega)
        obtain ⟨q0, q1, q2, q3, q4, -⟩ := (HC.out.after hb) k hlt
        obtain ⟨p0, p1, p2, p3, p4, -⟩ := (HC2.out.after hb) k hlt2
        have kl1 : (k : Int) < (xs.length : Int) := by omega
        have kl2 : (k : Int) < (ys.length : Int) := by omega
        have HSI := Lib.hid (HIS.out k hlt hlt2)
        have HEQ : Hid (sameI xs[k] ys[k] = true ↔ xs[k] = ys[k]) := Lib.hid sameI_iff
        have HNX : Hid (xs[k] = ys[k] → ∀ j (_ : j < k + 1) (h1 : j < xs.length) (h2 : j < ys.length), xs[j] = ys[j]) := Lib.hid (fun h j hj h1 h2 => by
          by_cases e : j = k
          · subst e; exact h
          · exact HJ.out j (by omega) h1 h2)
        have HNO : Hid (xs[k] ≠ ys[k] → xs ≠ ys) := Lib.hid (fun h e => h (by subst e; rfl))
        have hb1 : b < wr.heap.size := World.block_lt_of_cell? wr _ q0
        have hb2 : b2 < wr.heap.size := World.block_lt_of_cell? wr _ p0
        generalize vi k = v1 at *
        generalize vd k = v2 at *
        generalize vi2 k = v3 at *
        generalize vd2 k = v4 at *
        generalize sameI xs[k] ys[k] = sb at *
        generalize xs[k] = x at *
        generalize ys[k] = y at *
        obtain ⟨xd, xl, xk, xi, xm⟩ := x
        obtain ⟨yd, yl, yk, yi, ym⟩ := y
        simp only at q0 q1 q2 p0 p1 p2 HSI
        obtain ⟨wq, rfl⟩ : ∃ wq : World, wq = wr := ⟨_, rfl⟩
        go_wp2_with fail
        refine wp_region_still_tail 10 (by kernel_rfl) (by kernel_rfl) ?_
        simp only [List.take_succ_cons, List.take_zero, List.drop_succ_cons, List.drop_zero]
        repeat still_step
        refine wpStill_nil ?_
        go_wp2_with fail
        refine (HSI.out _ (by (repeat' (first | (with_reducible first | exact Below.refl _ _ | assumption | refine Below.alloc ?_ ?_ _ | refine Below.setCell ?_ ?_ _ | refine below_row ?_ ?_ _ | refine Below.drew ?_ | refine below_drewN ?_ _ | refine Below.trans ?_ (Below.mono (by assumption) ?_)) | exact Nat.le_refl _ | omega | (simp; done) | (simp; omega) | exact Below.size (by assumption))))).mono ?_
        rintro e w1 ⟨rfl, hb1⟩
        have s1 := hb1.size; try simp only [World.size_alloc, World.size_setCell, World.size_drew, setRow_size] at s1
        have HD1 := Lib.hid (HD.out.drew.after hb1)
        have HE1 := Lib.hid (HE.out.drew.after hb1)
        have hbw : Below w.heap.size w w1 := by (repeat' (first | (with_reducible first | exact Below.refl _ _ | assumption | refine Below.alloc ?_ ?_ _ | refine Below.setCell ?_ ?_ _ | refine below_row ?_ ?_ _ | refine Below.drew ?_ | refine below_drewN ?_ _ | refine Below.trans ?_ (Below.mono (by assumption) ?_)) | exact Nat.le_refl _ | omega | (simp; done) | (simp; omega) | exact Below.size (by assumption)))
        cases sb
        · have hne : decide (xs = ys) = false := decide_eq_false (HNO.out (fun h => by have := HEQ.out.2 h; cases this))
          go_wp2
          go_ret
          exact ⟨ret_bool hne.symm, hbw⟩
        · have HNX2 := Lib.hid (HNX.out (HEQ.out.1 rfl))
          go_wp2_with fail
          go_roundw
          case rel => exact ⟨k + 1, by omega, by go_num, HNX2, HD1, HE1, hbw⟩
          case measure => simp [intOf]; omega
      · have hke : k = xs.length := by omega
        subst hke
        have hne : decide (xs = ys) = true := decide_eq_true (by
          apply List.ext_getElem
          · exact HN.out
          · intro j h1 h2; exact HJ.out j h1 h1 h2)
        go_wp2
        go_ret
        exact ⟨ret_bool hne.symm, hb⟩
  · have hne : decide (xs = ys) = false := decide_eq_false (fun h => hn (by rw [h]))
    have hq : ((xs.length : Int) != (ys.length : Int)) = true := by simp; omega
    clear hn
    go_enter Try.func31, Try.ntmps31
    go_wp2
    go_ret
    exact ⟨ret_bool hne.symm, by (repeat' (first | (with_reducible first | exact Below.refl _ _ | assumption | refine Below.alloc ?_ ?_ _ | refine Below.setCell ?_ ?_ _ | refine below_row ?_ ?_ _ | refine Below.drew ?_ | refine below_drewN ?_ _ | refine Below.trans ?_ (Below.mono (by assumption) ?_)) | exact Nat.le_refl _ | omega | (simp; done) | (simp; omega) | exact Below.size (by assumption)))⟩
theorem rSame_v {w : World} {vI vJ : Value} {xs ys : List Iss} (h : RegAt w vI xs) (h2 : RegAt w vJ ys) : Calls Try.prog 31 #[.agg #[vI], .agg #[vJ]] w fun e w' => e = .returned (.bool (decide (xs = ys))) ∧ Below w.heap.size w w' := by
  obtain ⟨A, c, b, off, vi, vd, rfl, hA, hc⟩ := h.at_.row
  obtain ⟨A2, c2, b2, off2, vi2, vd2, rfl, hA2, hc2⟩ := h2.at_.row
  exact rSame_any A A2 c b off c2 b2 off2 xs ys vi vd vi2 vd2 w h.len h2.len h.small h2.small hA hc hA2 hc2
end
section
open Go.RowKit

set_option maxRecDepth 100000 in
set_option maxHeartbeats 8000000 in
theorem rFind_any (A : Option Addr) (c b off : Nat) (xs : List Iss) (vi vd : Nat → Value) (d l : Int) (w : World) (hl : xs.length ≤ 1000) (hA : 0 < xs.length → A = some ⟨b, off, none⟩) (hc : IssRow w b off xs vi vd) :
    Calls Try.prog 71 #[.agg #[.slice A xs.length c], .agg #[.int .i64 d, .int .i64 l]] w (FindP xs vi vd d l w) := by
  have HA := Lib.hid hA
  have HC := Lib.hid hc
  clear hA hc
  have HD0 := Lib.hid (((Lies.made w 24 #[.slice A xs.length c]).alloc (.cells #[.int .i64 d, .int .i64 l] 26)).alloc (.cells #[.int .i64 0, .int .i64 0, .int .u8 0, .slice none 0 0, .slice none 0 0] 45))
  have HF0 := Lib.hid ((Lies.new (u := w.alloc (.cells #[.slice A xs.length c] 24)) (k := w.heap.size + 1) (t := 26) (cs := #[.int .i64 d, .int .i64 l]) (by simp)).alloc (.cells #[.int .i64 0, .int .i64 0, .int .u8 0, .slice none 0 0, .slice none 0 0] 45))
  have HR0 := Lib.hid (Lies.new (u := (w.alloc (.cells #[.slice A xs.length c] 24)).alloc (.cells #[.int .i64 d, .int .i64 l] 26)) (k := w.heap.size + 1 + 1) (t := 45) (cs := #[.int .i64 0, .int .i64 0, .int .u8 0, .slice none 0 0, .slice none 0 0]) (by simp))
  go_enter Try.func71, Try.ntmps71
  go_wp2_with fail
  go_loopw [6] (fun i wr => ∃ (k : Nat), k ≤ xs.length ∧ i = .int .i64 k ∧ Hid (∀ j : Fin xs.length, j.1 < k → ¬ isN xs d l j) ∧ Hid (Lies wr w.heap.size 24 #[.slice A xs.length c]) ∧ Hid (Lies wr (w.heap.size + 1) 26 #[.int .i64 d, .int .i64 l]) ∧ Hid (Lies wr (w.heap.size + 1 + 1) 45 #[.int .i64 0, .int .i64 0, .int .u8 0, .slice none 0 0, .slice none 0 0]) ∧ Below w.heap.size w wr) (fun i _ => xs.length - (intOf i).toNat)
  case atStart => exact ⟨0, by omega, rfl, Lib.hid (fun j hj => by omega), HD0, HF0, HR0, by (repeat' (first | (with_reducible first | exact Below.refl _ _ | assumption | refine Below.alloc ?_ ?_ _ | refine Below.setCell ?_ ?_ _ | refine below_row ?_ ?_ _ | refine Below.drew ?_ | refine below_drewN ?_ _ | refine Below.trans ?_ (Below.mono (by assumption) ?_)) | exact Nat.le_refl _ | omega | (simp; done) | (simp; omega) | exact Below.size (by assumption)))⟩
  case round =>
    obtain ⟨k, hk, rfl, HJ, HD, HF, HR, hb⟩ := hrel
    have hz := hb.size
    have d0 := HD.out.cell 0
    have zd := HD.out.lt
    have f0 := HF.out.cell 0
    have f1 := HF.out.cell 1
    have zf := HF.out.lt
    have zr := HR.out.lt
    by_cases hlt : k < xs.length
    · obtain rfl := HA.out (by omega)
      obtain ⟨q0, q1, q2, q3, q4, -⟩ := (HC.out.after hb) k hlt
      obtain ⟨e3, e4⟩ := HC.out.slices hlt
      have kl1 : (k : Int) < (xs.length : Int) := by omega
      have hnx : isN xs d l ⟨k, hlt⟩ = (xs[k].d = d ∧ xs[k].l = l) := rfl
      have HNX := Lib.hid hnx
      have HVI : Hid (∃ v1 v2, vi k = v1 ∧ vd k = v2) := Lib.hid ⟨_, _, rfl, rfl⟩
      obtain ⟨v1, v2, hv1, hv2⟩ := HVI.out
      have HV1 := Lib.hid hv1
      have HV2 := Lib.hid hv2
      rw [hv1] at q3 e3
      rw [hv2] at q4 e4
      obtain ⟨A1, n1, c1, rfl⟩ := e3
      obtain ⟨A2, n2, c2, rfl⟩ := e4
      have HDD : Hid (∃ dx lx kx, xs[k].d = dx ∧ xs[k].l = lx ∧ xs[k].k = kx) := Lib.hid ⟨_, _, _, rfl, rfl, rfl⟩
      obtain ⟨dx, lx, kx, hdx, hlx, hkx⟩ := HDD.out
      have HDX := Lib.hid hdx
      have HLX := Lib.hid hlx
      have HKX := Lib.hid hkx
      rw [hdx] at q0 HNX
      rw [hlx] at q1 HNX
      rw [hkx] at q2
      clear hnx hv1 hv2 HVI HDD hdx hlx hkx
      have HJN : Hid (¬ isN xs d l ⟨k, hlt⟩ → ∀ j : Fin xs.length, j.1 < k + 1 → ¬ isN xs d l j) := Lib.hid (fun hn j hj => by
        by_cases e : j.1 = k
        · have : j = ⟨k, hlt⟩ := Fin.ext e
          rw [this]; exact hn
        · exact HJ.out j (by omega))
      by_cases h1 : dx = d
      · have b1 : (dx == d) = true := by simpa using h1
        by_cases h2 : lx = l
        · have b2 : (lx == l) = true := by simpa using h2
          have HIS : Hid (isN xs d l ⟨k, hlt⟩) := Lib.hid (by rw [HNX.out]; exact ⟨h1, h2⟩)
          have r0 := HR.out.cell 0
          have r1 := HR.out.cell 1
          have r2 := HR.out.cell 2
          have r3 := HR.out.cell 3
          have r4 := HR.out.cell 4
          have m0 := HR.out.free 0
          have m1 := HR.out.free 1
          have m2 := HR.out.free 2
          have m3 := HR.out.free 3
          have m4 := HR.out.free 4
          clear h1 h2
          go_wp2_with fail
          refine bodyPost_ret (results_cell_tmp rfl _ _ (w.heap.size + 1 + 1) _ _ _ _ rfl rfl ((HR.out.five (.int .i64 dx) (.int .i64 lx) (.int .u8 kx) (.slice A1 n1 c1) (.slice A2 n2 c2)).alloc _) Try.underlying45 rfl (by kernel_rfl)) rfl ⟨.inl ⟨⟨k, hlt⟩, HIS.out, HJ.out, ?_⟩, (below_five hb (by omega) _ _ _ _ _).alloc (by simp; omega) _⟩
          show _ = Ending.returned (.tuple #[.agg #[.int .i64 (xs[k].d), .int .i64 (xs[k].l), .int .u8 (xs[k].k), vi k, vd k], .bool true])
          rw [HDX.out, HLX.out, HKX.out, HV1.out, HV2.out]
          rfl
        · have b2 : (lx == l) = false := by simpa using h2
          have HNO := Lib.hid (HJN.out (by rw [HNX.out]; exact fun h => h2 h.2))
          clear h1 h2
          go_wp2_with fail
          go_roundw
          case rel => exact ⟨k + 1, by omega, by go_num, HNO, Lib.hid (HD.out.alloc _), Lib.hid (HF.out.alloc _), Lib.hid (HR.out.alloc _), hb.alloc hb.size _⟩
          case measure => simp [intOf]; omega
      · have b1 : (dx == d) = false := by simpa using h1
        have HNO := Lib.hid (HJN.out (by rw [HNX.out]; exact fun h => h1 h.1))
        clear h1
        go_wp2_with fail
        go_roundw
        case rel => exact ⟨k + 1, by omega, by go_num, HNO, Lib.hid (HD.out.alloc _), Lib.hid (HF.out.alloc _), Lib.hid (HR.out.alloc _), hb.alloc hb.size _⟩
        case measure => simp [intOf]; omega
    · have HNO : Hid (∀ j : Fin xs.length, ¬ isN xs d l j) := Lib.hid (fun j => HJ.out j (by omega))
      have r0 := HR.out.cell 0
      have r1 := HR.out.cell 1
      have r2 := HR.out.cell 2
      have r3 := HR.out.cell 3
      have r4 := HR.out.cell 4
      have m0 := HR.out.free 0
      have m1 := HR.out.free 1
      have m2 := HR.out.free 2
      have m3 := HR.out.free 3
      have m4 := HR.out.free 4
      go_wp2_with fail
      refine bodyPost_ret (results_cell_tmp rfl _ _ (w.heap.size + 1 + 1) _ _ _ _ rfl rfl (HR.out.five (.int .i64 0) (.int .i64 0) (.int .u8 0) (.slice none 0 0) (.slice none 0 0)) Try.underlying45 rfl (by kernel_rfl)) rfl ⟨.inr ⟨HNO.out, rfl⟩, below_five hb (by omega) _ _ _ _ _⟩
end
section
open Go.RowKit

theorem mostL_step {l : List Int} {k : Nat} (h : k < l.length) : mostL (l.take (k + 1)) = max (mostL (l.take k)) l[k] := by
  unfold mostL
  rw [List.take_succ_eq_append_getElem h, List.foldl_append]; rfl
/-- depths behind listed. -/
theorem rDepths_v {w : World} {vI : Value} {xs : List Iss} (h : RegAt w vI xs) (hl : listedR xs = true) :
    Calls Try.prog 68 #[.agg #[vI]] w fun e w' => ∃ g, e = .returned (.slice (some ⟨g, 0, none⟩) (numbersR xs).length (numbersR xs).length) ∧ Lies w' g 3 (rowN ((numbersR xs).map (depF xs ((numbersR xs).length + 1)))) ∧ Below w.heap.size w w' := by
  obtain ⟨h1, h2, h3, h4⟩ := listed_iff.1 hl
  obtain ⟨A, c, b, off, vi, vd, rfl, hA, hc⟩ := h.at_.row
  have h60 : xs.length ≤ 60 := by
    unfold inB at h1
    simp at h1
    omega
  have hn := numbers_same h2
  exact rDepths_any A c b off xs vi vd w (by omega) (fun x hx => (h.small x hx).1) hA hc (by rw [hn]; exact numbers_strict h2) (by rw [hn]; exact numbers_has h2) (by rw [hn]; exact complete_mem h4)
theorem rListed_v {w : World} {vI : Value} {xs : List Iss} (h : RegAt w vI xs) : Calls Try.prog 67 #[.agg #[vI]] w fun e w' => e = .returned (.bool (listedR xs)) ∧ Below w.heap.size w w' := by
  obtain ⟨A, c, b, off, vi, vd, rfl, hA, hc⟩ := h.at_.row
  exact rListed_any A c b off xs vi vd w h.len h.small hA hc
theorem rNumbers_v {w : World} {vI : Value} {xs : List Iss} (h : RegAt w vI xs) : Calls Try.prog 59 #[.agg #[vI]] w fun e w' => ∃ v, e = .returned v ∧ w'.ownsRow w.heap.size 3 1 v (numbersR xs).length (cellsN (numbersR xs)) ∧ Below w.heap.size w w' := by
  obtain ⟨A, c, b, off, vi, vd, rfl, hA, hc⟩ := h.at_.row
  exact rNumbers_any A c b off xs vi vd w h.len hA hc
theorem rLastOf_v {w : World} {vI : Value} {xs : List Iss} (d : Int) (h : RegAt w vI xs) : Calls Try.prog 62 #[.agg #[vI], .int .i64 d] w fun e w' => e = .returned (.int .i64 (lastOfR d 0 xs)) ∧ Below w.heap.size w w' := by
  obtain ⟨A, c, b, off, vi, vd, rfl, hA, hc⟩ := h.at_.row
  exact rLastOf_any A c b off xs vi vd d w h.len hA hc

set_option maxRecDepth 100000 in
set_option maxHeartbeats 4000000 in
theorem rCheckR {vI : Value} {xs : List Iss} {w : World} (h : RegAt w vI xs) : Calls Try.prog 24 #[.agg #[vI]] w fun e w' => e = .returned (.int .i64 (checkR xs)) ∧ Below w.heap.size w w' := by
  have HLS := Lib.hid (fun W (hW : Below w.heap.size w W) => rListed_v (h.after hW))
  have HDP := Lib.hid (fun hl W (hW : Below w.heap.size w W) => rDepths_v (h.after hW) hl)
  have HC0 : Hid (checkR xs = if listedR xs = false then 20 else circR (numbersR xs).length ((numbersR xs).map (depF xs ((numbersR xs).length + 1)))) := Lib.hid rfl
  have hnl : (numbersR xs).length ≤ 1000 := Nat.le_trans (numK_le xs xs.length) h.len
  have HV0 : Hid (∀ y, 0 ≤ depF xs ((numbersR xs).length + 1) y ∧ depF xs ((numbersR xs).length + 1) y ≤ (numbersR xs).length + 1) := Lib.hid (fun y => depF_bd xs _ y)
  have HLE : Hid (∃ le, listedR xs = le) := Lib.hid ⟨_, rfl⟩
  obtain ⟨le, hle⟩ := HLE.out
  rw [hle] at HLS HDP HC0
  obtain ⟨A, c, rfl⟩ := h.slice
  have HD0 := Lib.hid (Lies.made w 24 #[.slice A xs.length c])
  have HCR : Hid (∃ cr, checkR xs = cr) := Lib.hid ⟨_, rfl⟩
  obtain ⟨cr, hcr⟩ := HCR.out
  rw [hcr] at HC0 ⊢
  clear h HLE hle HCR hcr
  cases le
  · have HC1 : Hid (cr = 20) := Lib.hid (by rw [HC0.out]; rfl)
    clear HDP HV0 HC0
    go_enter Try.func24, Try.ntmps24
    go_wp2_with fail
    refine (HLS.out _ (by (repeat' (first | (with_reducible first | exact Below.refl _ _ | assumption | refine Below.alloc ?_ ?_ _ | refine Below.setCell ?_ ?_ _ | refine below_row ?_ ?_ _ | refine Below.drew ?_ | refine below_drewN ?_ _ | refine Below.trans ?_ (Below.mono (by assumption) ?_)) | exact Nat.le_refl _ | omega | (simp; done) | (simp; omega) | exact Below.size (by assumption))))).mono ?_
    rintro e w1 ⟨rfl, hb1⟩
    have s1 := hb1.size; try simp only [World.size_alloc, World.size_setCell, World.size_drew, setRow_size] at s1
    go_wp2
    go_ret
    exact ⟨ret_int HC1.out.symm, by (repeat' (first | (with_reducible first | exact Below.refl _ _ | assumption | refine Below.alloc ?_ ?_ _ | refine Below.setCell ?_ ?_ _ | refine below_row ?_ ?_ _ | refine Below.drew ?_ | refine below_drewN ?_ _ | refine Below.trans ?_ (Below.mono (by assumption) ?_)) | exact Nat.le_refl _ | omega | (simp; done) | (simp; omega) | exact Below.size (by assumption)))⟩
  · have HC1 : Hid (cr = circR (numbersR xs).length ((numbersR xs).map (depF xs ((numbersR xs).length + 1)))) := Lib.hid (by rw [HC0.out]; rfl)
    have HDQ := Lib.hid (HDP.out rfl)
    clear HC0 HDP
    generalize depF xs ((numbersR xs).length + 1) = f at *
    generalize numbersR xs = zs at *
    go_enter Try.func24, Try.ntmps24
    go_wp2_with fail
    refine (HLS.out _ (by (repeat' (first | (with_reducible first | exact Below.refl _ _ | assumption | refine Below.alloc ?_ ?_ _ | refine Below.setCell ?_ ?_ _ | refine below_row ?_ ?_ _ | refine Below.drew ?_ | refine below_drewN ?_ _ | refine Below.trans ?_ (Below.mono (by assumption) ?_)) | exact Nat.le_refl _ | omega | (simp; done) | (simp; omega) | exact Below.size (by assumption))))).mono ?_
    rintro e w1 ⟨rfl, hb1⟩
    have s1 := hb1.size; try simp only [World.size_alloc, World.size_setCell, World.size_drew, setRow_size] at s1
    have HD1 := Lib.hid (HD0.out.after hb1)
    have d1 := HD1.out.cell 0
    have zd1 := HD1.out.lt
    have hbw1 : Below w.heap.size w w1 := by (repeat' (first | (with_reducible first | exact Below.refl _ _ | assumption | refine Below.alloc ?_ ?_ _ | refine Below.setCell ?_ ?_ _ | refine below_row ?_ ?_ _ | refine Below.drew ?_ | refine below_drewN ?_ _ | refine Below.trans ?_ (Below.mono (by assumption) ?_)) | exact Nat.le_refl _ | omega | (simp; done) | (simp; omega) | exact Below.size (by assumption)))
    clear hb1
    go_wp2_with fail
    refine (HDQ.out _ (by (repeat' (first | (with_reducible first | exact Below.refl _ _ | assumption | refine Below.alloc ?_ ?_ _ | refine Below.setCell ?_ ?_ _ | refine below_row ?_ ?_ _ | refine Below.drew ?_ | refine below_drewN ?_ _ | refine Below.trans ?_ (Below.mono (by assumption) ?_)) | exact Nat.le_refl _ | omega | (simp; done) | (simp; omega) | exact Below.size (by assumption))))).mono ?_
    rintro e w2 ⟨g, rfl, hg, hb2⟩
    have s2 := hb2.size; try simp only [World.size_alloc, World.size_setCell, World.size_drew, setRow_size] at s2
    have HG := Lib.hid hg
    have hbw2 : Below w.heap.size w w2 := by (repeat' (first | (with_reducible first | exact Below.refl _ _ | assumption | refine Below.alloc ?_ ?_ _ | refine Below.setCell ?_ ?_ _ | refine below_row ?_ ?_ _ | refine Below.drew ?_ | refine below_drewN ?_ _ | refine Below.trans ?_ (Below.mono (by assumption) ?_)) | exact Nat.le_refl _ | omega | (simp; done) | (simp; omega) | exact Below.size (by assumption)))
    clear hg hb2
    go_wp2_with fail
    go_loopw [4, 5] (fun m i wr => ∃ (k : Nat) (mm : Int), k ≤ zs.length ∧ i = .int .i64 k ∧ m = .int .i64 mm ∧ Hid (mm = mostL ((zs.map f).take k)) ∧ 0 ≤ mm ∧ mm ≤ zs.length + 1 ∧ Hid (Lies wr g 3 (rowN (zs.map f))) ∧ Below w.heap.size w wr) (fun _ i _ => zs.length - (intOf i).toNat)
    case atStart => exact ⟨0, 0, by omega, rfl, rfl, Lib.hid rfl, Int.le_refl _, by omega, HG, hbw2⟩
    case round =>
      obtain ⟨k, mm, hk, rfl, rfl, HM, hm0, hm1, HG2, hb⟩ := hrel
      have hz := hb.size
      by_cases hlt : k < zs.length
      · have hkl : k < (zs.map f).length := by simpa using hlt
        have g0 := HG2.out.cell k
        rw [rowN_at hkl] at g0
        have kl1 : (k : Int) < (zs.length : Int) := by omega
        have HS := Lib.hid (mostL_step hkl)
        have hv : 0 ≤ (zs.map f)[k] ∧ (zs.map f)[k] ≤ zs.length + 1 := by rw [List.getElem_map]; exact HV0.out _
        have zg := HG2.out.lt
        generalize (zs.map f)[k] = v at *
        by_cases hmv : mm < v
        · have HS2 : Hid (v = mostL ((zs.map f).take (k + 1))) := Lib.hid (by rw [HS.out, ← HM.out, Int.max_def]; split <;> omega)
          go_wp2_with fail
          go_roundw
          case rel => exact ⟨k + 1, v, by omega, by go_num, rfl, HS2, by omega, by omega, HG2, hb⟩
          case measure => simp [intOf]; omega
        · have HS2 : Hid (mm = mostL ((zs.map f).take (k + 1))) := Lib.hid (by rw [HS.out, ← HM.out, Int.max_def]; split <;> omega)
          go_wp2_with fail
          go_roundw
          case rel => exact ⟨k + 1, mm, by omega, by go_num, rfl, HS2, by omega, by omega, HG2, hb⟩
          case measure => simp [intOf]; omega
      · have hke : k = zs.length := by omega
        subst hke
        have HMM : Hid (mm = mostL (zs.map f)) := Lib.hid (by rw [HM.out, List.take_of_length_le (by simp)])
        have HC2 : Hid (cr = if (zs.length : Int) < mm then 21 else if 6 < mm then 20 else 0) := Lib.hid (by rw [HC1.out, circR, ← HMM.out])
        clear HC1 HM HMM
        by_cases e1 : (zs.length : Int) < mm
        · have HC3 : Hid (cr = 21) := Lib.hid (by rw [HC2.out, if_pos e1])
          go_wp2
          go_ret
          exact ⟨ret_int HC3.out.symm, hb⟩
        · by_cases e2 : 6 < mm
          · have HC3 : Hid (cr = 20) := Lib.hid (by rw [HC2.out, if_neg e1, if_pos e2])
            go_wp2
            go_ret
            exact ⟨ret_int HC3.out.symm, hb⟩
          · have HC3 : Hid (cr = 0) := Lib.hid (by rw [HC2.out, if_neg e1, if_neg e2])
            go_wp2
            go_ret
            exact ⟨ret_int HC3.out.symm, hb⟩
theorem rCheck_any {vI : Value} {xs : List Iss} {w : World} (h : RegAt w vI xs) : Calls Try.prog 24 #[.agg #[vI]] w fun e w' => e = .returned (.int .i64 (layE xs)) ∧ Below w.heap.size w w' := by
  rw [← check_same]; exact rCheckR h

set_option maxHeartbeats 2000000 in
theorem rDrawings_any {vI : Value} {xs : List Iss} {w : World} (h : RegAt w vI xs) : Calls Try.prog 20 #[.agg #[vI]] w (DrawP xs w) := by
  have HCK := Lib.hid (fun W (hW : Below w.heap.size w W) => rCheck_any (h.after hW))
  have HNU := Lib.hid (fun W (hW : Below w.heap.size w W) => rNumbers_v (h.after hW))
  obtain ⟨A, c, rfl⟩ := h.slice
  have HD0 := Lib.hid (Lies.made w 24 #[.slice A xs.length c])
  clear h
  show Calls _ _ _ _ (DrawQ (layE xs) (if layE xs = 0 then numbersL xs else []) w)
  by_cases h0 : layE xs = 0
  · have hns := numbers_same (layE_ok h0).2.1
    rw [h0] at HCK
    rw [h0, if_pos rfl]
    rw [hns] at HNU
    clear h0 hns
    generalize numbersL xs = zs at *
    go_enter Try.func20, Try.ntmps20
    go_wp2_with fail
    refine (HCK.out _ (by (repeat' (first | (with_reducible first | exact Below.refl _ _ | assumption | refine Below.alloc ?_ ?_ _ | refine Below.setCell ?_ ?_ _ | refine below_row ?_ ?_ _ | refine Below.drew ?_ | refine below_drewN ?_ _ | refine Below.trans ?_ (Below.mono (by assumption) ?_)) | exact Nat.le_refl _ | omega | (simp; done) | (simp; omega) | exact Below.size (by assumption))))).mono ?_
    rintro e w1 ⟨rfl, hb1⟩
    have s1 := hb1.size; try simp only [World.size_alloc, World.size_setCell, World.size_drew, setRow_size] at s1
    have HD1 := Lib.hid (HD0.out.after hb1)
    have d1 := HD1.out.cell 0
    have zd1 := HD1.out.lt
    have hbw1 : Below w.heap.size w w1 := by (repeat' (first | (with_reducible first | exact Below.refl _ _ | assumption | refine Below.alloc ?_ ?_ _ | refine Below.setCell ?_ ?_ _ | refine below_row ?_ ?_ _ | refine Below.drew ?_ | refine below_drewN ?_ _ | refine Below.trans ?_ (Below.mono (by assumption) ?_)) | exact Nat.le_refl _ | omega | (simp; done) | (simp; omega) | exact Below.size (by assumption)))
    clear hb1
    go_wp2_with fail
    refine (HNU.out _ (by (repeat' (first | (with_reducible first | exact Below.refl _ _ | assumption | refine Below.alloc ?_ ?_ _ | refine Below.setCell ?_ ?_ _ | refine below_row ?_ ?_ _ | refine Below.drew ?_ | refine below_drewN ?_ _ | refine Below.trans ?_ (Below.mono (by assumption) ?_)) | exact Nat.le_refl _ | omega | (simp; done) | (simp; omega) | exact Below.size (by assumption))))).mono ?_
    rintro e w2 ⟨v, rfl, hown, hb2⟩
    have s2 := hb2.size; try simp only [World.size_alloc, World.size_setCell, World.size_drew, setRow_size] at s2
    have HI := Lib.hid (ints_of_own hown)
    obtain ⟨A6, c6, g6, rfl, -⟩ := own_form hown
    clear hown
    have hbw2 : Below w.heap.size w w2 := by (repeat' (first | (with_reducible first | exact Below.refl _ _ | assumption | refine Below.alloc ?_ ?_ _ | refine Below.setCell ?_ ?_ _ | refine below_row ?_ ?_ _ | refine Below.drew ?_ | refine below_drewN ?_ _ | refine Below.trans ?_ (Below.mono (by assumption) ?_)) | exact Nat.le_refl _ | omega | (simp; done) | (simp; omega) | exact Below.size (by assumption)))
    go_wp2
    go_ret2
    exact ⟨_, rfl, HI.out, hbw2⟩
  · rw [if_neg h0]
    generalize layE xs = ee at *
    have hne : (ee != 0) = true := by simpa using h0
    clear h0 HNU
    go_enter Try.func20, Try.ntmps20
    go_wp2_with fail
    refine (HCK.out _ (by (repeat' (first | (with_reducible first | exact Below.refl _ _ | assumption | refine Below.alloc ?_ ?_ _ | refine Below.setCell ?_ ?_ _ | refine below_row ?_ ?_ _ | refine Below.drew ?_ | refine below_drewN ?_ _ | refine Below.trans ?_ (Below.mono (by assumption) ?_)) | exact Nat.le_refl _ | omega | (simp; done) | (simp; omega) | exact Below.size (by assumption))))).mono ?_
    rintro e w1 ⟨rfl, hb1⟩
    have s1 := hb1.size; try simp only [World.size_alloc, World.size_setCell, World.size_drew, setRow_size] at s1
    go_wp2
    go_ret2
    exact ⟨_, rfl, ⟨none, 0, 0, 0, rfl, fun h => absurd h (by simp), fun i h => absurd h (by simp)⟩, by (repeat' (first | (with_reducible first | exact Below.refl _ _ | assumption | refine Below.alloc ?_ ?_ _ | refine Below.setCell ?_ ?_ _ | refine below_row ?_ ?_ _ | refine Below.drew ?_ | refine below_drewN ?_ _ | refine Below.trans ?_ (Below.mono (by assumption) ?_)) | exact Nat.le_refl _ | omega | (simp; done) | (simp; omega) | exact Below.size (by assumption)))⟩

set_option maxHeartbeats 2000000 in
theorem rLast_any {vI : Value} {xs : List Iss} {w : World} (d : Int) (h : RegAt w vI xs) : Calls Try.prog 22 #[.agg #[vI], .int .i64 d] w fun e w' => e = .returned (.tuple #[.int .i64 ((lastE xs d).1), .int .i64 ((lastE xs d).2)]) ∧ Below w.heap.size w w' := by
  have HCK := Lib.hid (fun W (hW : Below w.heap.size w W) => rCheck_any (h.after hW))
  have HLO := Lib.hid (fun W (hW : Below w.heap.size w W) => rLastOf_v d (h.after hW))
  obtain ⟨A, c, rfl⟩ := h.slice
  have HD0 := Lib.hid (Lies.made w 24 #[.slice A xs.length c])
  clear h
  unfold lastE
  by_cases h0 : layE xs = 0
  · have hns := last_same (d := d) (layE_ok h0).2.1
    rw [h0] at HCK
    rw [if_neg (by rw [h0]; decide)]
    rw [hns] at HLO
    clear h0 hns
    generalize lastS xs d = ls at *
    by_cases e1 : ls = 0
    · rw [if_pos e1]
      subst e1
      go_enter Try.func22, Try.ntmps22
      go_wp2_with fail
      refine (HCK.out _ (by (repeat' (first | (with_reducible first | exact Below.refl _ _ | assumption | refine Below.alloc ?_ ?_ _ | refine Below.setCell ?_ ?_ _ | refine below_row ?_ ?_ _ | refine Below.drew ?_ | refine below_drewN ?_ _ | refine Below.trans ?_ (Below.mono (by assumption) ?_)) | exact Nat.le_refl _ | omega | (simp; done) | (simp; omega) | exact Below.size (by assumption))))).mono ?_
      rintro e w1 ⟨rfl, hb1⟩
      have s1 := hb1.size; try simp only [World.size_alloc, World.size_setCell, World.size_drew, setRow_size] at s1
      have HD1 := Lib.hid (HD0.out.after hb1)
      have d1 := HD1.out.cell 0
      have zd1 := HD1.out.lt
      have hbw1 : Below w.heap.size w w1 := by (repeat' (first | (with_reducible first | exact Below.refl _ _ | assumption | refine Below.alloc ?_ ?_ _ | refine Below.setCell ?_ ?_ _ | refine below_row ?_ ?_ _ | refine Below.drew ?_ | refine below_drewN ?_ _ | refine Below.trans ?_ (Below.mono (by assumption) ?_)) | exact Nat.le_refl _ | omega | (simp; done) | (simp; omega) | exact Below.size (by assumption)))
      clear hb1
      go_wp2_with fail
      refine (HLO.out _ (by (repeat' (first | (with_reducible first | exact Below.refl _ _ | assumption | refine Below.alloc ?_ ?_ _ | refine Below.setCell ?_ ?_ _ | refine below_row ?_ ?_ _ | refine Below.drew ?_ | refine below_drewN ?_ _ | refine Below.trans ?_ (Below.mono (by assumption) ?_)) | exact Nat.le_refl _ | omega | (simp; done) | (simp; omega) | exact Below.size (by assumption))))).mono ?_
      rintro e w2 ⟨rfl, hb2⟩
      have s2 := hb2.size; try simp only [World.size_alloc, World.size_setCell, World.size_drew, setRow_size] at s2
      go_wp2
      go_ret2
      exact ⟨rfl, by (repeat' (first | (with_reducible first | exact Below.refl _ _ | assumption | refine Below.alloc ?_ ?_ _ | refine Below.setCell ?_ ?_ _ | refine below_row ?_ ?_ _ | refine Below.drew ?_ | refine below_drewN ?_ _ | refine Below.trans ?_ (Below.mono (by assumption) ?_)) | exact Nat.le_refl _ | omega | (simp; done) | (simp; omega) | exact Below.size (by assumption)))⟩
    · rw [if_neg e1]
      have hne : (ls == 0) = false := by simpa using e1
      clear e1
      go_enter Try.func22, Try.ntmps22
      go_wp2_with fail
      refine (HCK.out _ (by (repeat' (first | (with_reducible first | exact Below.refl _ _ | assumption | refine Below.alloc ?_ ?_ _ | refine Below.setCell ?_ ?_ _ | refine below_row ?_ ?_ _ | refine Below.drew ?_ | refine below_drewN ?_ _ | refine Below.trans ?_ (Below.mono (by assumption) ?_)) | exact Nat.le_refl _ | omega | (simp; done) | (simp; omega) | exact Below.size (by assumption))))).mono ?_
      rintro e w1 ⟨rfl, hb1⟩
      have s1 := hb1.size; try simp only [World.size_alloc, World.size_setCell, World.size_drew, setRow_size] at s1
      have HD1 := Lib.hid (HD0.out.after hb1)
      have d1 := HD1.out.cell 0
      have zd1 := HD1.out.lt
      have hbw1 : Below w.heap.size w w1 := by (repeat' (first | (with_reducible first | exact Below.refl _ _ | assumption | refine Below.alloc ?_ ?_ _ | refine Below.setCell ?_ ?_ _ | refine below_row ?_ ?_ _ | refine Below.drew ?_ | refine below_drewN ?_ _ | refine Below.trans ?_ (Below.mono (by assumption) ?_)) | exact Nat.le_refl _ | omega | (simp; done) | (simp; omega) | exact Below.size (by assumption)))
      clear hb1
      go_wp2_with fail
      refine (HLO.out _ (by (repeat' (first | (with_reducible first | exact Below.refl _ _ | assumption | refine Below.alloc ?_ ?_ _ | refine Below.setCell ?_ ?_ _ | refine below_row ?_ ?_ _ | refine Below.drew ?_ | refine below_drewN ?_ _ | refine Below.trans ?_ (Below.mono (by assumption) ?_)) | exact Nat.le_refl _ | omega | (simp; done) | (simp; omega) | exact Below.size (by assumption))))).mono ?_
      rintro e w2 ⟨rfl, hb2⟩
      have s2 := hb2.size; try simp only [World.size_alloc, World.size_setCell, World.size_drew, setRow_size] at s2
      go_wp2
      go_ret2
      exact ⟨rfl, by (repeat' (first | (with_reducible first | exact Below.refl _ _ | assumption | refine Below.alloc ?_ ?_ _ | refine Below.setCell ?_ ?_ _ | refine below_row ?_ ?_ _ | refine Below.drew ?_ | refine below_drewN ?_ _ | refine Below.trans ?_ (Below.mono (by assumption) ?_)) | exact Nat.le_refl _ | omega | (simp; done) | (simp; omega) | exact Below.size (by assumption)))⟩
  · rw [if_pos h0]
    generalize layE xs = ee at *
    have hne : (ee != 0) = true := by simpa using h0
    clear h0 HLO
    go_enter Try.func22, Try.ntmps22
    go_wp2_with fail
    refine (HCK.out _ (by (repeat' (first | (with_reducible first | exact Below.refl _ _ | assumption | refine Below.alloc ?_ ?_ _ | refine Below.setCell ?_ ?_ _ | refine below_row ?_ ?_ _ | refine Below.drew ?_ | refine below_drewN ?_ _ | refine Below.trans ?_ (Below.mono (by assumption) ?_)) | exact Nat.le_refl _ | omega | (simp; done) | (simp; omega) | exact Below.size (by assumption))))).mono ?_
    rintro e w1 ⟨rfl, hb1⟩
    have s1 := hb1.size; try simp only [World.size_alloc, World.size_setCell, World.size_drew, setRow_size] at s1
    go_wp2
    go_ret2
    exact ⟨rfl, by (repeat' (first | (with_reducible first | exact Below.refl _ _ | assumption | refine Below.alloc ?_ ?_ _ | refine Below.setCell ?_ ?_ _ | refine below_row ?_ ?_ _ | refine Below.drew ?_ | refine below_drewN ?_ _ | refine Below.trans ?_ (Below.mono (by assumption) ?_)) | exact Nat.le_refl _ | omega | (simp; done) | (simp; omega) | exact Below.size (by assumption)))⟩

set_option maxRecDepth 100000 in
set_option maxHeartbeats 4000000 in
theorem rDepth_any {vI : Value} {xs : List Iss} {w : World} (d : Int) (h : RegAt w vI xs) : Calls Try.prog 29 #[.agg #[vI], .int .i64 d] w fun e w' => e = .returned (.tuple #[.int .i64 ((depthE xs d).1), .int .i64 ((depthE xs d).2)]) ∧ Below w.heap.size w w' := by
  have HCK := Lib.hid (fun W (hW : Below w.heap.size w W) => rCheck_any (h.after hW))
  have HNU := Lib.hid (fun W (hW : Below w.heap.size w W) => rNumbers_v (h.after hW))
  have HDP := Lib.hid (fun hl W (hW : Below w.heap.size w W) => rDepths_v (h.after hW) hl)
  have hnl : (numbersR xs).length ≤ 1000 := Nat.le_trans (numK_le xs xs.length) h.len
  obtain ⟨A, c, rfl⟩ := h.slice
  have HD0 := Lib.hid (Lies.made w 24 #[.slice A xs.length c])
  clear h
  unfold depthE
  by_cases h0 : layE xs = 0
  · obtain ⟨h1, h2, h3, h4, -, -⟩ := layE_ok h0
    have hli : listedR xs = true := listed_iff.2 ⟨by unfold inB; simp; omega, h2, h3, h4⟩
    have HDQ := Lib.hid (HDP.out hli)
    clear HDP
    have hds := depths_same h0
    have hns := numbers_same h2
    rw [hds] at HDQ
    rw [hns] at HDQ HNU hnl
    rw [h0] at HCK
    rw [if_neg (by rw [h0]; decide)]
    have HCH : Hid (chainsL xs (numbersL xs) = (numbersL xs).map (depW xs (numbersL xs) (numbersL xs).length)) := Lib.hid rfl
    clear h0 h1 h2 h3 h4 hli hds hns
    generalize chainsL xs (numbersL xs) = cs at *
    generalize depW xs (numbersL xs) (numbersL xs).length = dw at *
    generalize numbersL xs = zs at *
    by_cases hd : d ∈ zs
    · rw [if_pos hd]
      obtain ⟨q, hq, hz, hp⟩ := idx_spec hd
      have HQ := Lib.hid hz
      clear hz hd
      go_enter Try.func29, Try.ntmps29
      go_wp2_with fail
      refine (HCK.out _ (by (repeat' (first | (with_reducible first | exact Below.refl _ _ | assumption | refine Below.alloc ?_ ?_ _ | refine Below.setCell ?_ ?_ _ | refine below_row ?_ ?_ _ | refine Below.drew ?_ | refine below_drewN ?_ _ | refine Below.trans ?_ (Below.mono (by assumption) ?_)) | exact Nat.le_refl _ | omega | (simp; done) | (simp; omega) | exact Below.size (by assumption))))).mono ?_
      rintro e w1 ⟨rfl, hb1⟩
      have s1 := hb1.size; try simp only [World.size_alloc, World.size_setCell, World.size_drew, setRow_size] at s1
      have HD1 := Lib.hid (HD0.out.after hb1)
      have d1 := HD1.out.cell 0
      have zd1 := HD1.out.lt
      have hbw1 : Below w.heap.size w w1 := by (repeat' (first | (with_reducible first | exact Below.refl _ _ | assumption | refine Below.alloc ?_ ?_ _ | refine Below.setCell ?_ ?_ _ | refine below_row ?_ ?_ _ | refine Below.drew ?_ | refine below_drewN ?_ _ | refine Below.trans ?_ (Below.mono (by assumption) ?_)) | exact Nat.le_refl _ | omega | (simp; done) | (simp; omega) | exact Below.size (by assumption)))
      clear hb1
      go_wp2_with fail
      refine (HNU.out _ (by (repeat' (first | (with_reducible first | exact Below.refl _ _ | assumption | refine Below.alloc ?_ ?_ _ | refine Below.setCell ?_ ?_ _ | refine below_row ?_ ?_ _ | refine Below.drew ?_ | refine below_drewN ?_ _ | refine Below.trans ?_ (Below.mono (by assumption) ?_)) | exact Nat.le_refl _ | omega | (simp; done) | (simp; omega) | exact Below.size (by assumption))))).mono ?_
      rintro e w2 ⟨v, rfl, hown, hb2⟩
      have s2 := hb2.size; try simp only [World.size_alloc, World.size_setCell, World.size_drew, setRow_size] at s2
      have HD2 := Lib.hid (HD1.out.after hb2)
      have d2 := HD2.out.cell 0
      have zd2 := HD2.out.lt
      have hbw2 : Below w.heap.size w w2 := by (repeat' (first | (with_reducible first | exact Below.refl _ _ | assumption | refine Below.alloc ?_ ?_ _ | refine Below.setCell ?_ ?_ _ | refine below_row ?_ ?_ _ | refine Below.drew ?_ | refine below_drewN ?_ _ | refine Below.trans ?_ (Below.mono (by assumption) ?_)) | exact Nat.le_refl _ | omega | (simp; done) | (simp; omega) | exact Below.size (by assumption)))
      obtain ⟨A6, c6, b6, o6, rfl, hA6, hc6⟩ := ints_of_own hown
      have HIX := Lib.hid (rIndex_any A6 c6 b6 o6 zs d w2 hA6 (by omega) hc6)
      rw [hp] at HIX
      clear hA6 hc6 hown hb2
      go_wp2_with fail
      refine HIX.out.mono ?_
      rintro e w3 ⟨rfl, rfl⟩
      go_wp2_with fail
      refine (HDQ.out _ (by (repeat' (first | (with_reducible first | exact Below.refl _ _ | assumption | refine Below.alloc ?_ ?_ _ | refine Below.setCell ?_ ?_ _ | refine below_row ?_ ?_ _ | refine Below.drew ?_ | refine below_drewN ?_ _ | refine Below.trans ?_ (Below.mono (by assumption) ?_)) | exact Nat.le_refl _ | omega | (simp; done) | (simp; omega) | exact Below.size (by assumption))))).mono ?_
      rintro e w4 ⟨g, rfl, hg, hb4⟩
      have s4 := hb4.size; try simp only [World.size_alloc, World.size_setCell, World.size_drew, setRow_size] at s4
      have g0 : w4.cell? ⟨g, q, none⟩ = some (.int .i64 (dw d)) := by
        rw [HCH.out] at hg
        exact rowMap_at HQ.out hg
      have ql : (q : Int) < (zs.length : Int) := by omega
      have zg := hg.lt
      clear hg
      go_wp2
      go_ret2
      exact ⟨rfl, by (repeat' (first | (with_reducible first | exact Below.refl _ _ | assumption | refine Below.alloc ?_ ?_ _ | refine Below.setCell ?_ ?_ _ | refine below_row ?_ ?_ _ | refine Below.drew ?_ | refine below_drewN ?_ _ | refine Below.trans ?_ (Below.mono (by assumption) ?_)) | exact Nat.le_refl _ | omega | (simp; done) | (simp; omega) | exact Below.size (by assumption)))⟩
    · rw [if_neg hd]
      have hp : idxL zs d = -1 := idxL_no (fun j hj e => hd (e ▸ List.getElem_mem hj))
      clear hd HDQ
      go_enter Try.func29, Try.ntmps29
      go_wp2_with fail
      refine (HCK.out _ (by (repeat' (first | (with_reducible first | exact Below.refl _ _ | assumption | refine Below.alloc ?_ ?_ _ | refine Below.setCell ?_ ?_ _ | refine below_row ?_ ?_ _ | refine Below.drew ?_ | refine below_drewN ?_ _ | refine Below.trans ?_ (Below.mono (by assumption) ?_)) | exact Nat.le_refl _ | omega | (simp; done) | (simp; omega) | exact Below.size (by assumption))))).mono ?_
      rintro e w1 ⟨rfl, hb1⟩
      have s1 := hb1.size; try simp only [World.size_alloc, World.size_setCell, World.size_drew, setRow_size] at s1
      have HD1 := Lib.hid (HD0.out.after hb1)
      have d1 := HD1.out.cell 0
      have zd1 := HD1.out.lt
      have hbw1 : Below w.heap.size w w1 := by (repeat' (first | (with_reducible first | exact Below.refl _ _ | assumption | refine Below.alloc ?_ ?_ _ | refine Below.setCell ?_ ?_ _ | refine below_row ?_ ?_ _ | refine Below.drew ?_ | refine below_drewN ?_ _ | refine Below.trans ?_ (Below.mono (by assumption) ?_)) | exact Nat.le_refl _ | omega | (simp; done) | (simp; omega) | exact Below.size (by assumption)))
      clear hb1
      go_wp2_with fail
      refine (HNU.out _ (by (repeat' (first | (with_reducible first | exact Below.refl _ _ | assumption | refine Below.alloc ?_ ?_ _ | refine Below.setCell ?_ ?_ _ | refine below_row ?_ ?_ _ | refine Below.drew ?_ | refine below_drewN ?_ _ | refine Below.trans ?_ (Below.mono (by assumption) ?_)) | exact Nat.le_refl _ | omega | (simp; done) | (simp; omega) | exact Below.size (by assumption))))).mono ?_
      rintro e w2 ⟨v, rfl, hown, hb2⟩
      have s2 := hb2.size; try simp only [World.size_alloc, World.size_setCell, World.size_drew, setRow_size] at s2
      have HD2 := Lib.hid (HD1.out.after hb2)
      have d2 := HD2.out.cell 0
      have zd2 := HD2.out.lt
      have hbw2 : Below w.heap.size w w2 := by (repeat' (first | (with_reducible first | exact Below.refl _ _ | assumption | refine Below.alloc ?_ ?_ _ | refine Below.setCell ?_ ?_ _ | refine below_row ?_ ?_ _ | refine Below.drew ?_ | refine below_drewN ?_ _ | refine Below.trans ?_ (Below.mono (by assumption) ?_)) | exact Nat.le_refl _ | omega | (simp; done) | (simp; omega) | exact Below.size (by assumption)))
      obtain ⟨A6, c6, b6, o6, rfl, hA6, hc6⟩ := ints_of_own hown
      have HIX := Lib.hid (rIndex_any A6 c6 b6 o6 zs d w2 hA6 (by omega) hc6)
      rw [hp] at HIX
      clear hA6 hc6 hown hb2
      go_wp2_with fail
      refine HIX.out.mono ?_
      rintro e w3 ⟨rfl, rfl⟩
      go_wp2
      go_ret2
      exact ⟨rfl, by (repeat' (first | (with_reducible first | exact Below.refl _ _ | assumption | refine Below.alloc ?_ ?_ _ | refine Below.setCell ?_ ?_ _ | refine below_row ?_ ?_ _ | refine Below.drew ?_ | refine below_drewN ?_ _ | refine Below.trans ?_ (Below.mono (by assumption) ?_)) | exact Nat.le_refl _ | omega | (simp; done) | (simp; omega) | exact Below.size (by assumption)))⟩
  · rw [if_pos h0]
    generalize layE xs = ee at *
    have hne : (ee != 0) = true := by simpa using h0
    clear h0 HNU HDP
    go_enter Try.func29, Try.ntmps29
    go_wp2_with fail
    refine (HCK.out _ (by (repeat' (first | (with_reducible first | exact Below.refl _ _ | assumption | refine Below.alloc ?_ ?_ _ | refine Below.setCell ?_ ?_ _ | refine below_row ?_ ?_ _ | refine Below.drew ?_ | refine below_drewN ?_ _ | refine Below.trans ?_ (Below.mono (by assumption) ?_)) | exact Nat.le_refl _ | omega | (simp; done) | (simp; omega) | exact Below.size (by assumption))))).mono ?_
    rintro e w1 ⟨rfl, hb1⟩
    have s1 := hb1.size; try simp only [World.size_alloc, World.size_setCell, World.size_drew, setRow_size] at s1
    go_wp2
    go_ret2
    exact ⟨rfl, by (repeat' (first | (with_reducible first | exact Below.refl _ _ | assumption | refine Below.alloc ?_ ?_ _ | refine Below.setCell ?_ ?_ _ | refine below_row ?_ ?_ _ | refine Below.drew ?_ | refine below_drewN ?_ _ | refine Below.trans ?_ (Below.mono (by assumption) ?_)) | exact Nat.le_refl _ | omega | (simp; done) | (simp; omega) | exact Below.size (by assumption)))⟩
end
section
open Go.RowKit

theorem rIndex_v {w : World} {v : Value} {l : List Int} (n : Int) (h : IntsAt w v l) (hl : l.length ≤ 1000) : Calls Try.prog 60 #[v, .int .i64 n] w fun e w' => e = .returned (.int .i64 (idxL l n)) ∧ w = w' := by
  obtain ⟨A, c, b, off, rfl, hA, hc⟩ := h
  exact rIndex_any A c b off l n w hA hl hc
theorem lettersR {xs : List Iss} (h : rightB zeroI xs = true) {ls : List Int} : lettersB xs (numbersL xs) ls = true ↔ ls.length = (numbersL xs).length ∧ ∀ i (h : i < (numbersL xs).length) (h2 : i < ls.length), inB 1 (lastOfR (numbersL xs)[i] 0 xs) ls[i] = true := by
  rw [lettersB_iff]
  have hn := numbers_in h
  constructor
  · rintro ⟨h1, h2⟩
    refine ⟨h1, fun i hi hi2 => ?_⟩
    rw [← letter_iff h (hn _ (List.getElem_mem hi)).1]; exact h2 i hi hi2
  · rintro ⟨h1, h2⟩
    refine ⟨h1, fun i hi hi2 => ?_⟩
    rw [letter_iff h (hn _ (List.getElem_mem hi)).1]; exact h2 i hi hi2

set_option maxRecDepth 100000 in
set_option maxHeartbeats 8000000 in
theorem rLetters_any {vI vL : Value} {xs : List Iss} {ls : List Int} {w : World} (h : RegAt w vI xs) (hr : rightB zeroI xs = true) (hL : IntsAt w vL ls) (hll : ls.length ≤ 9223372036854775807) :
    Calls Try.prog 119 #[.agg #[vI], vL] w fun e w' => e = .returned (.bool (lettersB xs (numbersL xs) ls)) ∧ Below w.heap.size w w' := by
  have HNU := Lib.hid (fun W (hW : Below w.heap.size w W) => rNumbers_v (h.after hW))
  have HLO := Lib.hid (fun d W (hW : Below w.heap.size w W) => rLastOf_v d (h.after hW))
  have hnl : (numbersR xs).length ≤ 1000 := Nat.le_trans (numK_le xs xs.length) h.len
  have hns := numbers_same hr
  rw [hns] at HNU hnl
  have HLE := Lib.hid (lettersR hr (ls := ls))
  have HLW := Lib.hid (fun W (hW : Below w.heap.size w W) => hL.after hW)
  obtain ⟨A, c, rfl⟩ := h.slice
  obtain ⟨L, cL, bL, oL, rfl, hLA, hLC⟩ := hL
  have HLA := Lib.hid hLA
  have HLC := Lib.hid (fun W (hW : Below w.heap.size w W) i (h : i < ls.length) => cell_keep hW (hLC i h))
  have HD0 := Lib.hid (Lies.made w 24 #[.slice A xs.length c])
  have HLB : Hid (∃ lb, lettersB xs (numbersL xs) ls = lb) := Lib.hid ⟨_, rfl⟩
  obtain ⟨lb, hlb⟩ := HLB.out
  rw [hlb] at HLE ⊢
  have HLR : Hid (∃ f : Int → Int, ∀ d, lastOfR d 0 xs = f d) := Lib.hid ⟨fun d => lastOfR d 0 xs, fun _ => rfl⟩
  obtain ⟨f, hf⟩ := HLR.out
  simp only [hf] at HLO HLE
  clear h hns hLA hLC hlb HLB HLR hf hr
  generalize numbersL xs = zs at *
  go_enter Try.func119, Try.ntmps119
  go_wp2_with fail
  refine (HNU.out _ (by (repeat' (first | (with_reducible first | exact Below.refl _ _ | assumption | refine Below.alloc ?_ ?_ _ | refine Below.setCell ?_ ?_ _ | refine below_row ?_ ?_ _ | refine Below.drew ?_ | refine below_drewN ?_ _ | refine Below.trans ?_ (Below.mono (by assumption) ?_)) | exact Nat.le_refl _ | omega | (simp; done) | (simp; omega) | exact Below.size (by assumption))))).mono ?_
  rintro e w1 ⟨v, rfl, hown, hb1⟩
  have s1 := hb1.size; try simp only [World.size_alloc, World.size_setCell, World.size_drew, setRow_size] at s1
  have HI1 := Lib.hid (ints_of_own hown)
  obtain ⟨A6, c6, b6, o6, rfl, hA6, hc6⟩ := ints_of_own hown
  have HD1 := Lib.hid (HD0.out.after hb1)
  have hbw1 : Below w.heap.size w w1 := by (repeat' (first | (with_reducible first | exact Below.refl _ _ | assumption | refine Below.alloc ?_ ?_ _ | refine Below.setCell ?_ ?_ _ | refine below_row ?_ ?_ _ | refine Below.drew ?_ | refine below_drewN ?_ _ | refine Below.trans ?_ (Below.mono (by assumption) ?_)) | exact Nat.le_refl _ | omega | (simp; done) | (simp; omega) | exact Below.size (by assumption)))
  have HA6 := Lib.hid hA6
  have HC6 := Lib.hid hc6
  clear hown hb1 HI1 HNU hA6 hc6
  by_cases hlen : ls.length = zs.length
  · have hlb : ((ls.length : Int) != (zs.length : Int)) = false := by simp [hlen]
    have HLEN := Lib.hid hlen
    clear hlen
    go_wp2_with fail
    go_loopw [6] (fun i wr => ∃ k : Nat, k ≤ zs.length ∧ i = .int .i64 k ∧ Hid (∀ j (h : j < zs.length) (h2 : j < ls.length), j < k → inB 1 (f zs[j]) ls[j] = true) ∧ Hid (Lies wr w.heap.size 24 #[.slice A xs.length c]) ∧ Below w.heap.size w wr ∧ Below w1.heap.size w1 wr) (fun i _ => zs.length - (intOf i).toNat)
    case atStart => exact ⟨0, by omega, rfl, Lib.hid (fun j _ _ h => by omega), HD1, hbw1, Below.refl _ _⟩
    case round =>
      obtain ⟨k, hk, rfl, HJ, HD, hb, hb1⟩ := hrel
      have hz := hb.size
      have hz1 := hb1.size
      by_cases hlt : k < zs.length
      · have hlt2 : k < ls.length := by have := HLEN.out; omega
        obtain rfl := HA6.out (by omega)
        obtain rfl := HLA.out (by omega)
        have kl1 : (k : Int) < (zs.length : Int) := by omega
        have kl2 : (k : Int) < (ls.length : Int) := by omega
        have HZK := Lib.hid (fun W (hW : Below w1.heap.size w1 W) => cell_keep hW (HC6.out k hlt))
        have HLK := Lib.hid (fun W (hW : Below w.heap.size w W) => HLC.out W hW k hlt2)
        have z0 := HZK.out wr hb1
        have l0 := HLK.out wr hb
        have d0 := HD.out.cell 0
        have zd := HD.out.lt
        have HLOK := Lib.hid (fun W hW => HLO.out zs[k] W hW)
        have HYES : Hid (inB 1 (f zs[k]) ls[k] = true → ∀ j (h : j < zs.length) (h2 : j < ls.length), j < k + 1 → inB 1 (f zs[j]) ls[j] = true) := Lib.hid (fun hh j h h2 hj => by
          by_cases e : j = k
          · subst e; exact hh
          · exact HJ.out j h h2 (by omega))
        have HNO : Hid (inB 1 (f zs[k]) ls[k] = false → lb = false) := Lib.hid (fun hh => by
          rw [← Bool.not_eq_true, HLE.out]
          rintro ⟨-, h3⟩
          rw [h3 k hlt hlt2] at hh; cases hh)
        have HWI := Lib.hid (fun W => rwithin_any ls[k] 1 (f zs[k]) W)
        generalize inB 1 (f zs[k]) ls[k] = r at *
        generalize zs[k] = zk at *
        generalize ls[k] = lk at *
        generalize f zk = fz at *
        cases r
        · have HR := Lib.hid (HNO.out rfl)
          go_wp2_with fail
          go_region_held3 (fun W => W.cell? ⟨w.heap.size, 0, none⟩ = some (.slice A xs.length c) ∧ W.cell? ⟨b6, o6 + k, none⟩ = some (.int .i64 zk) ∧ W.cell? ⟨bL, oL + k, none⟩ = some (.int .i64 lk)) (go_keep) (first
            | (go_at_call 62; refine (HLOK.out _ (by (repeat' (first | (with_reducible first | exact Below.refl _ _ | assumption | refine Below.alloc ?_ ?_ _ | refine Below.setCell ?_ ?_ _ | refine below_row ?_ ?_ _ | refine Below.drew ?_ | refine below_drewN ?_ _ | refine Below.trans ?_ (Below.mono (by assumption) ?_)) | exact Nat.le_refl _ | omega | (simp; done) | (simp; omega) | exact Below.size (by assumption))))).mono ?_; rintro e w3 ⟨rfl, hb3⟩; have hbw3 : Below w.heap.size w w3 := (by (repeat' (first | (with_reducible first | exact Below.refl _ _ | assumption | refine Below.alloc ?_ ?_ _ | refine Below.setCell ?_ ?_ _ | refine below_row ?_ ?_ _ | refine Below.drew ?_ | refine below_drewN ?_ _ | refine Below.trans ?_ (Below.mono (by assumption) ?_)) | exact Nat.le_refl _ | omega | (simp; done) | (simp; omega) | exact Below.size (by assumption)))); have hbw13 : Below w1.heap.size w1 w3 := (hb1.drew).trans (hb3.mono hz1); have HD3 := Lib.hid (HD.out.drew.after hb3); have m0 := HD3.out.cell 0; have q0 := HZK.out w3 hbw13; have q1 := HLK.out w3 hbw3; clear hb3)
            | (go_at_call 115; refine (HWI.out _).mono ?_; rintro e w4 ⟨rfl, rfl⟩))
          go_wp2_with fail
          go_ret
          exact ⟨ret_bool HR.out.symm, by (repeat' (first | (with_reducible first | exact Below.refl _ _ | assumption | refine Below.alloc ?_ ?_ _ | refine Below.setCell ?_ ?_ _ | refine below_row ?_ ?_ _ | refine Below.drew ?_ | refine below_drewN ?_ _ | refine Below.trans ?_ (Below.mono (by assumption) ?_)) | exact Nat.le_refl _ | omega | (simp; done) | (simp; omega) | exact Below.size (by assumption)))⟩
        · have HJ2 := Lib.hid (HYES.out rfl)
          go_wp2_with fail
          go_region_held3 (fun W => W.cell? ⟨w.heap.size, 0, none⟩ = some (.slice A xs.length c) ∧ W.cell? ⟨b6, o6 + k, none⟩ = some (.int .i64 zk) ∧ W.cell? ⟨bL, oL + k, none⟩ = some (.int .i64 lk)) (go_keep) (first
            | (go_at_call 62; refine (HLOK.out _ (by (repeat' (first | (with_reducible first | exact Below.refl _ _ | assumption | refine Below.alloc ?_ ?_ _ | refine Below.setCell ?_ ?_ _ | refine below_row ?_ ?_ _ | refine Below.drew ?_ | refine below_drewN ?_ _ | refine Below.trans ?_ (Below.mono (by assumption) ?_)) | exact Nat.le_refl _ | omega | (simp; done) | (simp; omega) | exact Below.size (by assumption))))).mono ?_; rintro e w3 ⟨rfl, hb3⟩; have hbw3 : Below w.heap.size w w3 := (by (repeat' (first | (with_reducible first | exact Below.refl _ _ | assumption | refine Below.alloc ?_ ?_ _ | refine Below.setCell ?_ ?_ _ | refine below_row ?_ ?_ _ | refine Below.drew ?_ | refine below_drewN ?_ _ | refine Below.trans ?_ (Below.mono (by assumption) ?_)) | exact Nat.le_refl _ | omega | (simp; done) | (simp; omega) | exact Below.size (by assumption)))); have hbw13 : Below w1.heap.size w1 w3 := (hb1.drew).trans (hb3.mono hz1); have HD3 := Lib.hid (HD.out.drew.after hb3); have m0 := HD3.out.cell 0; have q0 := HZK.out w3 hbw13; have q1 := HLK.out w3 hbw3; clear hb3)
            | (go_at_call 115; refine (HWI.out _).mono ?_; rintro e w4 ⟨rfl, rfl⟩))
          go_wp2_with fail
          go_roundw
          case rel => exact ⟨k + 1, by omega, by go_num, HJ2, HD3, hbw3, hbw13⟩
          case measure => simp [intOf]; omega
      · have HR : Hid (lb = true) := Lib.hid (HLE.out.2 ⟨HLEN.out, fun i h h2 => HJ.out i h h2 (by omega)⟩)
        have kl0 : ¬ (k : Int) < (zs.length : Int) := by omega
        go_wp2_with fail
        go_ret
        exact ⟨ret_bool HR.out.symm, hb⟩
  · have hlb : ((ls.length : Int) != (zs.length : Int)) = true := by simp; omega
    have HR : Hid (lb = false) := Lib.hid (by rw [← Bool.not_eq_true, HLE.out]; exact fun h => hlen h.1)
    clear hlen
    go_wp2_with fail
    go_ret
    exact ⟨ret_bool HR.out.symm, hbw1⟩

set_option maxRecDepth 100000 in
set_option maxHeartbeats 8000000 in
theorem rAsked_any {vI vL : Value} {xs : List Iss} {ls : List Int} {w : World} (d : Int) (h : RegAt w vI xs) (hL : IntsAt w vL ls) (hll : ls.length ≤ 9223372036854775807) :
    Calls Try.prog 76 #[.agg #[vI], vL, .int .i64 d] w fun e w' => e = .returned (.int .i64 (askE xs ls d)) ∧ Below w.heap.size w w' := by
  have HCK := Lib.hid (fun W (hW : Below w.heap.size w W) => rCheck_any (h.after hW))
  have HAE : Hid (askE xs ls d = if layE xs ≠ 0 then layE xs else if lettersB xs (numbersL xs) ls = false then 22 else if d ∈ numbersL xs then 0 else 6) := Lib.hid rfl
  generalize askE xs ls d = ae at *
  have HLT := Lib.hid (fun hr W (hW : Below w.heap.size w W) => rLetters_any (h.after hW) hr (hL.after hW) hll)
  have HNU := Lib.hid (fun W (hW : Below w.heap.size w W) => rNumbers_v (h.after hW))
  have hnl : (numbersR xs).length ≤ 1000 := Nat.le_trans (numK_le xs xs.length) h.len
  obtain ⟨A, c, rfl⟩ := h.slice
  obtain ⟨L, cL, rfl⟩ := hL.slice
  have HD0 := Lib.hid (Lies.made w 24 #[.slice A xs.length c])
  clear h hL
  by_cases h0 : layE xs = 0
  · have hr := (layE_ok h0).2.1
    have hns := numbers_same hr
    have HLT2 := Lib.hid (HLT.out hr)
    rw [hns] at HNU hnl
    rw [h0] at HCK HAE
    have HAE2 : Hid (ae = if lettersB xs (numbersL xs) ls = false then 22 else if d ∈ numbersL xs then 0 else 6) := Lib.hid (by rw [HAE.out]; rfl)
    clear HLT HAE h0 hr hns
    generalize numbersL xs = zs at *
    generalize lettersB xs zs ls = lb at *
    go_enter Try.func76, Try.ntmps76
    go_wp2_with fail
    refine (HCK.out _ (by (repeat' (first | (with_reducible first | exact Below.refl _ _ | assumption | refine Below.alloc ?_ ?_ _ | refine Below.setCell ?_ ?_ _ | refine below_row ?_ ?_ _ | refine Below.drew ?_ | refine below_drewN ?_ _ | refine Below.trans ?_ (Below.mono (by assumption) ?_)) | exact Nat.le_refl _ | omega | (simp; done) | (simp; omega) | exact Below.size (by assumption))))).mono ?_
    rintro e w1 ⟨rfl, hb1⟩
    have s1 := hb1.size; try simp only [World.size_alloc, World.size_setCell, World.size_drew, setRow_size] at s1
    have HD1 := Lib.hid (HD0.out.after hb1)
    have d1 := HD1.out.cell 0
    have zd1 := HD1.out.lt
    have hbw1 : Below w.heap.size w w1 := by (repeat' (first | (with_reducible first | exact Below.refl _ _ | assumption | refine Below.alloc ?_ ?_ _ | refine Below.setCell ?_ ?_ _ | refine below_row ?_ ?_ _ | refine Below.drew ?_ | refine below_drewN ?_ _ | refine Below.trans ?_ (Below.mono (by assumption) ?_)) | exact Nat.le_refl _ | omega | (simp; done) | (simp; omega) | exact Below.size (by assumption)))
    clear hb1
    go_wp2_with fail
    refine (HLT2.out _ (by (repeat' (first | (with_reducible first | exact Below.refl _ _ | assumption | refine Below.alloc ?_ ?_ _ | refine Below.setCell ?_ ?_ _ | refine below_row ?_ ?_ _ | refine Below.drew ?_ | refine below_drewN ?_ _ | refine Below.trans ?_ (Below.mono (by assumption) ?_)) | exact Nat.le_refl _ | omega | (simp; done) | (simp; omega) | exact Below.size (by assumption))))).mono ?_
    rintro e w2 ⟨rfl, hb2⟩
    have s2 := hb2.size; try simp only [World.size_alloc, World.size_setCell, World.size_drew, setRow_size] at s2
    have HD2 := Lib.hid (HD1.out.after hb2)
    have d2 := HD2.out.cell 0
    have zd2 := HD2.out.lt
    have hbw2 : Below w.heap.size w w2 := by (repeat' (first | (with_reducible first | exact Below.refl _ _ | assumption | refine Below.alloc ?_ ?_ _ | refine Below.setCell ?_ ?_ _ | refine below_row ?_ ?_ _ | refine Below.drew ?_ | refine below_drewN ?_ _ | refine Below.trans ?_ (Below.mono (by assumption) ?_)) | exact Nat.le_refl _ | omega | (simp; done) | (simp; omega) | exact Below.size (by assumption)))
    clear hb2
    cases lb
    · have HR : Hid (ae = 22) := Lib.hid (by rw [HAE2.out]; rfl)
      go_wp2_with fail
      go_ret
      exact ⟨ret_int HR.out.symm, hbw2⟩
    · have HAE3 : Hid (ae = if d ∈ zs then 0 else 6) := Lib.hid (by rw [HAE2.out]; rfl)
      clear HAE2
      go_wp2_with fail
      refine (HNU.out _ (by (repeat' (first | (with_reducible first | exact Below.refl _ _ | assumption | refine Below.alloc ?_ ?_ _ | refine Below.setCell ?_ ?_ _ | refine below_row ?_ ?_ _ | refine Below.drew ?_ | refine below_drewN ?_ _ | refine Below.trans ?_ (Below.mono (by assumption) ?_)) | exact Nat.le_refl _ | omega | (simp; done) | (simp; omega) | exact Below.size (by assumption))))).mono ?_
      rintro e w3 ⟨v, rfl, hown, hb3⟩
      have s3 := hb3.size; try simp only [World.size_alloc, World.size_setCell, World.size_drew, setRow_size] at s3
      have hbw3 : Below w.heap.size w w3 := by (repeat' (first | (with_reducible first | exact Below.refl _ _ | assumption | refine Below.alloc ?_ ?_ _ | refine Below.setCell ?_ ?_ _ | refine below_row ?_ ?_ _ | refine Below.drew ?_ | refine below_drewN ?_ _ | refine Below.trans ?_ (Below.mono (by assumption) ?_)) | exact Nat.le_refl _ | omega | (simp; done) | (simp; omega) | exact Below.size (by assumption)))
      have HIX := Lib.hid (rIndex_v d (ints_of_own hown) hnl)
      have hge := idxL_ge zs d
      have HMM := Lib.hid (idxL_mem (l := zs) (n := d))
      obtain ⟨A6, c6, g6, rfl, -⟩ := own_form hown
      clear hown hb3
      generalize idxL zs d = ix at *
      go_wp2_with fail
      refine HIX.out.mono ?_
      rintro e w4 ⟨rfl, rfl⟩
      by_cases hi : ix < 0
      · have HR : Hid (ae = 6) := Lib.hid (by rw [HAE3.out, if_neg (fun hm => by have := HMM.out.2 hm; omega)])
        go_wp2_with fail
        go_ret
        exact ⟨ret_int HR.out.symm, hbw3⟩
      · have HR : Hid (ae = 0) := Lib.hid (by rw [HAE3.out, if_pos (HMM.out.1 (by omega))])
        go_wp2_with fail
        go_ret
        exact ⟨ret_int HR.out.symm, hbw3⟩
  · have HR : Hid (ae = layE xs) := Lib.hid (by rw [HAE.out, if_pos h0])
    have hne : (layE xs != 0) = true := by simpa using h0
    clear HAE HLT h0
    generalize layE xs = ee at *
    go_enter Try.func76, Try.ntmps76
    go_wp2_with fail
    refine (HCK.out _ (by (repeat' (first | (with_reducible first | exact Below.refl _ _ | assumption | refine Below.alloc ?_ ?_ _ | refine Below.setCell ?_ ?_ _ | refine below_row ?_ ?_ _ | refine Below.drew ?_ | refine below_drewN ?_ _ | refine Below.trans ?_ (Below.mono (by assumption) ?_)) | exact Nat.le_refl _ | omega | (simp; done) | (simp; omega) | exact Below.size (by assumption))))).mono ?_
    rintro e w1 ⟨rfl, hb1⟩
    have s1 := hb1.size; try simp only [World.size_alloc, World.size_setCell, World.size_drew, setRow_size] at s1
    go_wp2_with fail
    go_ret
    exact ⟨ret_int HR.out.symm, by (repeat' (first | (with_reducible first | exact Below.refl _ _ | assumption | refine Below.alloc ?_ ?_ _ | refine Below.setCell ?_ ?_ _ | refine below_row ?_ ?_ _ | refine Below.drew ?_ | refine below_drewN ?_ _ | refine Below.trans ?_ (Below.mono (by assumption) ?_)) | exact Nat.le_refl _ | omega | (simp; done) | (simp; omega) | exact Below.size (by assumption)))⟩
end
end Go.Proofs.Ytkjfceajakhlfaa
