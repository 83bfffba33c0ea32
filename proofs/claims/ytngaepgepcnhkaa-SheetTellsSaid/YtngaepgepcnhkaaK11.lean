/- The reference: SameInts, SameItems. -/
import Derived.Test.YtngaepgepcnhkaaJ3
namespace Go.Proofs.Ytngaepgepcnhkaa
set_option linter.unusedVariables false
set_option linter.unusedSimpArgs false
open Go.RowKit

theorem ne_at {α : Type} {a b : List α} {k : Nat} (h1 : k < a.length) (h2 : k < b.length) (h : a[k] ≠ b[k]) : a ≠ b := by
  rintro rfl; exact h rfl
theorem eq_all {α : Type} {a b : List α} (hl : a.length = b.length) (h : ∀ k (h1 : k < a.length) (h2 : k < b.length), a[k] = b[k]) : a = b := List.ext_getElem hl h
set_option maxHeartbeats 2000000 in
theorem rSameInts_any (A B : Option Addr) (c b off c2 b2 off2 : Nat) (l m : List Int) (w : World) (hl : l.length ≤ 1000) (hl2 : m.length ≤ 1000) (hA : 0 < l.length → A = some ⟨b, off, none⟩) (hc : ∀ i (h : i < l.length), w.cell? ⟨b, off + i, none⟩ = some (.int .i64 (l[i])))
    (hB : 0 < m.length → B = some ⟨b2, off2, none⟩) (hd : ∀ i (h : i < m.length), w.cell? ⟨b2, off2 + i, none⟩ = some (.int .i64 (m[i]))) :
    Calls Try.prog 25 #[.slice A l.length c, .slice B m.length c2] w fun e w' => e = .returned (.bool (decide (l = m))) ∧ Below w.heap.size w w' := by
  have HA := Lib.hid hA
  have HC := Lib.hid hc
  have HB := Lib.hid hB
  have HD := Lib.hid hd
  clear hA hc hB hd
  by_cases hlen : l.length = m.length
  · have hlb : ((l.length : Int) != (m.length : Int)) = false := by simp [hlen]
    have HL := Lib.hid hlen
    go_enter Try.func25, Try.ntmps25
    clear hlen
    go_wp2
    go_loopw [5] (fun i wr => ∃ k : Nat, k ≤ l.length ∧ i = .int .i64 k ∧ Hid (∀ j (_ : j < k) (h1 : j < l.length) (h2 : j < m.length), l[j] = m[j]) ∧ Below w.heap.size w wr) (fun i _ => l.length - (intOf i).toNat)
    case atStart => exact ⟨0, by omega, rfl, Lib.hid (fun j hj => by omega), by (repeat' (first | (with_reducible exact Below.refl _ _) | (with_reducible assumption) | (with_reducible refine Below.alloc ?_ ?_ _) | (with_reducible refine Below.setCell ?_ ?_ _) | (with_reducible refine below_row ?_ ?_ _) | (with_reducible refine Below.drew ?_) | (with_reducible refine below_drewN ?_ _) | (with_reducible refine Below.trans ?_ (Below.mono (by assumption) ?_)) | (first | exact Nat.le_refl _ | omega | (simp; done) | (simp; omega) | (exact Below.size (by assumption)))))⟩
    case round =>
      obtain ⟨k, hk, rfl, HJ, hb⟩ := hrel
      by_cases hlt : k < l.length
      · have hlt2 : k < m.length := by rw [← HL.out]; exact hlt
        obtain rfl := HA.out (by omega)
        obtain rfl := HB.out (by omega)
        have r0 := cell_keep hb (HC.out k hlt)
        have r1 := cell_keep hb (HD.out k hlt2)
        have kl1 : (k : Int) < (l.length : Int) := by omega
        have kl2 : (k : Int) < (m.length : Int) := by omega
        obtain ⟨x, hx⟩ : ∃ x, l[k] = x := ⟨_, rfl⟩
        obtain ⟨y, hy⟩ : ∃ y, m[k] = y := ⟨_, rfl⟩
        have HX := Lib.hid hx
        have HY := Lib.hid hy
        rw [hx] at r0
        rw [hy] at r1
        clear hx hy
        by_cases e : x = y
        · subst e
          have eb : (x != x) = false := by simp
          go_wp2_with fail
          go_quiet (fail)
          go_wp2_with fail
          go_roundw
          case rel =>
            refine ⟨k + 1, by omega, by go_num, Lib.hid (fun j hj h1 h2 => ?_), below_drewN hb _⟩
            by_cases e : j = k
            · subst e; rw [HX.out, HY.out]
            · exact HJ.out j (by omega) h1 h2
          case measure => simp [intOf]; omega
        · have eb : (x != y) = true := by simp [e]
          have HR : Hid (decide (l = m) = false) := Lib.hid (decide_eq_false (ne_at hlt hlt2 (by rw [HX.out, HY.out]; exact e)))
          clear e
          go_wp2_with fail
          go_quiet (fail)
          go_wp2_with fail
          go_ret
          exact ⟨ret_bool HR.out.symm, below_drewN hb _⟩
      · have HR : Hid (decide (l = m) = true) := Lib.hid (decide_eq_true (eq_all HL.out (fun j h1 h2 => HJ.out j (by omega) h1 h2)))
        go_wp2
        go_ret
        exact ⟨ret_bool HR.out.symm, hb⟩
  · have hlb : ((l.length : Int) != (m.length : Int)) = true := by simp; omega
    have HR : Hid (decide (l = m) = false) := Lib.hid (decide_eq_false (fun h => hlen (by rw [h])))
    clear hlen
    go_enter Try.func25, Try.ntmps25
    go_wp2
    go_ret
    exact ⟨ret_bool HR.out.symm, by (repeat' (first | (with_reducible exact Below.refl _ _) | (with_reducible assumption) | (with_reducible refine Below.alloc ?_ ?_ _) | (with_reducible refine Below.setCell ?_ ?_ _) | (with_reducible refine below_row ?_ ?_ _) | (with_reducible refine Below.drew ?_) | (with_reducible refine below_drewN ?_ _) | (with_reducible refine Below.trans ?_ (Below.mono (by assumption) ?_)) | (first | exact Nat.le_refl _ | omega | (simp; done) | (simp; omega) | (exact Below.size (by assumption)))))⟩
theorem rSameInts_v {w : World} {u v : Value} {l m : List Int} (h1 : IntsAt w u l) (h2 : IntsAt w v m) (hl : l.length ≤ 1000) (hl2 : m.length ≤ 1000) :
    Calls Try.prog 25 #[u, v] w fun e w' => e = .returned (.bool (decide (l = m))) ∧ Below w.heap.size w w' := by
  obtain ⟨A, c, b, off, rfl, hA, hc⟩ := h1
  obtain ⟨B, c2, b2, off2, rfl, hB, hd⟩ := h2
  exact rSameInts_any A B c b off c2 b2 off2 l m w hl hl2 hA hc hB hd

set_option maxHeartbeats 2000000 in
theorem rSameItems_any (A B : Option Addr) (c b off c2 b2 off2 : Nat) (l m : List (Int × Int)) (w : World) (hl : l.length ≤ 1000) (hl2 : m.length ≤ 1000) (hA : 0 < l.length → A = some ⟨b, off, none⟩) (hc : ∀ i (h : i < l.length), w.cell? ⟨b, off + i * 2, none⟩ = some (.int .i64 l[i].1) ∧ w.cell? ⟨b, off + i * 2 + 1, none⟩ = some (.int .i64 l[i].2))
    (hB : 0 < m.length → B = some ⟨b2, off2, none⟩) (hd : ∀ i (h : i < m.length), w.cell? ⟨b2, off2 + i * 2, none⟩ = some (.int .i64 m[i].1) ∧ w.cell? ⟨b2, off2 + i * 2 + 1, none⟩ = some (.int .i64 m[i].2)) :
    Calls Try.prog 36 #[.slice A l.length c, .slice B m.length c2] w fun e w' => e = .returned (.bool (decide (l = m))) ∧ Below w.heap.size w w' := by
  have HA := Lib.hid hA
  have HC := Lib.hid hc
  have HB := Lib.hid hB
  have HD := Lib.hid hd
  clear hA hc hB hd
  by_cases hlen : l.length = m.length
  · have hlb : ((l.length : Int) != (m.length : Int)) = false := by simp [hlen]
    have HL := Lib.hid hlen
    go_enter Try.func36, Try.ntmps36
    clear hlen
    go_wp2
    go_loopw [5] (fun i wr => ∃ k : Nat, k ≤ l.length ∧ i = .int .i64 k ∧ Hid (∀ j (_ : j < k) (h1 : j < l.length) (h2 : j < m.length), l[j] = m[j]) ∧ Below w.heap.size w wr) (fun i _ => l.length - (intOf i).toNat)
    case atStart => exact ⟨0, by omega, rfl, Lib.hid (fun j hj => by omega), by (repeat' (first | (with_reducible exact Below.refl _ _) | (with_reducible assumption) | (with_reducible refine Below.alloc ?_ ?_ _) | (with_reducible refine Below.setCell ?_ ?_ _) | (with_reducible refine below_row ?_ ?_ _) | (with_reducible refine Below.drew ?_) | (with_reducible refine below_drewN ?_ _) | (with_reducible refine Below.trans ?_ (Below.mono (by assumption) ?_)) | (first | exact Nat.le_refl _ | omega | (simp; done) | (simp; omega) | (exact Below.size (by assumption)))))⟩
    case round =>
      obtain ⟨k, hk, rfl, HJ, hb⟩ := hrel
      by_cases hlt : k < l.length
      · have hlt2 : k < m.length := by rw [← HL.out]; exact hlt
        obtain rfl := HA.out (by omega)
        obtain rfl := HB.out (by omega)
        have r0 := cell_keep hb (HC.out k hlt).1
        have r1 := cell_keep hb (HC.out k hlt).2
        have t0 := cell_keep hb (HD.out k hlt2).1
        have t1 := cell_keep hb (HD.out k hlt2).2
        have kl1 : (k : Int) < (l.length : Int) := by omega
        have kl2 : (k : Int) < (m.length : Int) := by omega
        obtain ⟨x, hx⟩ : ∃ x, l[k] = x := ⟨_, rfl⟩
        obtain ⟨y, hy⟩ : ∃ y, m[k] = y := ⟨_, rfl⟩
        have HX := Lib.hid hx
        have HY := Lib.hid hy
        rw [hx] at r0 r1
        rw [hy] at t0 t1
        clear hx hy
        obtain ⟨x1, x2⟩ := x
        obtain ⟨y1, y2⟩ := y
        simp only at r0 r1 t0 t1
        by_cases e : x1 = y1 <;> by_cases e2 : x2 = y2
        · subst e e2
          have eb : (x1 == x1) = true := by simp
          have eb2 : (x2 == x2) = true := by simp
          go_wp2_with fail
          go_quiet (fail)
          go_wp2_with fail
          go_roundw
          case rel =>
            refine ⟨k + 1, by omega, by go_num, Lib.hid (fun j hj h1 h2 => ?_), below_drewN hb _⟩
            by_cases e : j = k
            · subst e; rw [HX.out, HY.out]
            · exact HJ.out j (by omega) h1 h2
          case measure => simp [intOf]; omega
        all_goals
          have HR : Hid (decide (l = m) = false) := Lib.hid (decide_eq_false (ne_at hlt hlt2 (by rw [HX.out, HY.out]; intro h; injection h with h1 h2; first | exact e h1 | exact e2 h2)))
          first | (have eb : (x1 == y1) = true := by simpa using e) | (have eb : (x1 == y1) = false := by simpa using e)
          first | (have eb2 : (x2 == y2) = true := by simpa using e2) | (have eb2 : (x2 == y2) = false := by simpa using e2)
          clear e e2
          go_wp2_with fail
          go_quiet (fail)
          go_wp2_with fail
          go_ret
          exact ⟨ret_bool HR.out.symm, below_drewN hb _⟩
      · have HR : Hid (decide (l = m) = true) := Lib.hid (decide_eq_true (eq_all HL.out (fun j h1 h2 => HJ.out j (by omega) h1 h2)))
        go_wp2
        go_ret
        exact ⟨ret_bool HR.out.symm, hb⟩
  · have hlb : ((l.length : Int) != (m.length : Int)) = true := by simp; omega
    have HR : Hid (decide (l = m) = false) := Lib.hid (decide_eq_false (fun h => hlen (by rw [h])))
    clear hlen
    go_enter Try.func36, Try.ntmps36
    go_wp2
    go_ret
    exact ⟨ret_bool HR.out.symm, by (repeat' (first | (with_reducible exact Below.refl _ _) | (with_reducible assumption) | (with_reducible refine Below.alloc ?_ ?_ _) | (with_reducible refine Below.setCell ?_ ?_ _) | (with_reducible refine below_row ?_ ?_ _) | (with_reducible refine Below.drew ?_) | (with_reducible refine below_drewN ?_ _) | (with_reducible refine Below.trans ?_ (Below.mono (by assumption) ?_)) | (first | exact Nat.le_refl _ | omega | (simp; done) | (simp; omega) | (exact Below.size (by assumption)))))⟩
theorem rSameItems_v {w : World} {u v : Value} {l m : List (Int × Int)} (h1 : ItemsAt w u l) (h2 : ItemsAt w v m) (hl : l.length ≤ 1000) (hl2 : m.length ≤ 1000) :
    Calls Try.prog 36 #[u, v] w fun e w' => e = .returned (.bool (decide (l = m))) ∧ Below w.heap.size w w' := by
  obtain ⟨A, c, b, off, rfl, hA, hc⟩ := h1
  obtain ⟨B, c2, b2, off2, rfl, hB, hd⟩ := h2
  exact rSameItems_any A B c b off c2 b2 off2 l m w hl hl2 hA hc hB hd
end Go.Proofs.Ytngaepgepcnhkaa
