/- slices.IndexFunc and slices.ContainsFunc over sizes, and over items, with whatever predicate. -/
import Derived.Test.YtngaepgepcnhkaaH0
namespace Go.Proofs.Ytngaepgepcnhkaa
set_option linter.unusedVariables false
set_option linter.unusedSimpArgs false
open Go.RowKit

theorem any_no {α : Type} {p : α → Bool} {l : List α} (h : ∀ k (hk : k < l.length), p l[k] = false) : l.any p = false := by
  rw [List.any_eq_false]
  intro x hx
  obtain ⟨k, hk, rfl⟩ := List.getElem_of_mem hx
  simp [h k hk]
theorem any_yes {α : Type} {p : α → Bool} {l : List α} {k : Nat} (hk : k < l.length) (h : p l[k] = true) : l.any p = true := by
  rw [List.any_eq_true]; exact ⟨l[k], List.getElem_mem hk, h⟩

set_option maxHeartbeats 1000000 in
theorem idxD_any (K : Nat) (lb : Array Value) (p : D3 → Bool) (A : Option Addr) (c b off : Nat) (l : List (D3)) (w : World) (hA : 0 < l.length → A = some ⟨b, off, none⟩) (hl : l.length ≤ 1000) (hc : cellsD w b off l)
    (hE : ∀ (args : Array Value) (W : World), (callFunc K args).run Try.prog W = .ok (.enter K args) W)
    (hP : ∀ x ∈ l, ∀ W, Below w.heap.size w W → Calls Try.prog K (#[.agg #[.int .i64 x.1, .int .i64 x.2.1, .int .i64 x.2.2]] ++ lb) W fun e w' => e = .returned (.bool (p x)) ∧ Below W.heap.size W w') :
    Calls Try.prog 141 #[.slice A l.length c, .func (.func K) #[] lb] w fun e w' => ∃ r : Int, e = .returned (.int .i64 r) ∧ decide (0 ≤ r) = l.any p ∧ Below w.heap.size w w' := by
  have HC := Lib.hid hc; clear hc
  have HA := Lib.hid hA; clear hA
  have HP := Lib.hid hP; clear hP
  go_enter Try.func141, Try.ntmps141
  go_wp2_with fail
  go_loopw [8] (fun i wr => ∃ k : Nat, k ≤ l.length ∧ i = .int .i64 k ∧ Hid (∀ j (_ : j < k) (h : j < l.length), p l[j] = false) ∧ Below w.heap.size w wr) (fun i _ => l.length - (intOf i).toNat)
  case atStart => exact ⟨0, by omega, rfl, Lib.hid (fun j hj => by omega), by (repeat' (first | (with_reducible exact Below.refl _ _) | (with_reducible assumption) | (with_reducible refine Below.alloc ?_ ?_ _) | (with_reducible refine Below.setCell ?_ ?_ _) | (with_reducible refine below_row ?_ ?_ _) | (with_reducible refine Below.drew ?_) | (with_reducible refine below_drewN ?_ _) | (with_reducible refine Below.trans ?_ (Below.mono (by assumption) ?_)) | (first | exact Nat.le_refl _ | omega | (simp; done) | (simp; omega) | (exact Below.size (by assumption)))))⟩
  case round =>
    obtain ⟨k, hk, rfl, hj, hb⟩ := hrel
    have hz := hb.size
    by_cases hlt : k < l.length
    · obtain rfl := HA.out (by omega)
      obtain ⟨q0, q1, q2⟩ := HC.out k hlt
      have hbl : b < w.heap.size := World.block_lt_of_cell? w _ q0
      have r0 := (hb.cell (p := ⟨b, off + k * 3, none⟩) hbl).trans q0
      have r1 := (hb.cell (p := ⟨b, off + k * 3 + 1, none⟩) hbl).trans q1
      have r2 := (hb.cell (p := ⟨b, off + k * 3 + 2, none⟩) hbl).trans q2
      clear q0 q1 q2
      have HPK := Lib.hid (HP.out l[k] (List.getElem_mem hlt))
      obtain ⟨x, hx⟩ : ∃ x, l[k] = x := ⟨_, rfl⟩
      have Hx := Lib.hid hx
      rw [hx] at HPK r0 r1 r2
      clear hx
      obtain ⟨e0, e1, e2⟩ := x
      simp only at HPK r0 r1 r2
      go_wp2_with fail
      refine (HPK.out _ (by (repeat' (first | (with_reducible exact Below.refl _ _) | (with_reducible assumption) | (with_reducible refine Below.alloc ?_ ?_ _) | (with_reducible refine Below.setCell ?_ ?_ _) | (with_reducible refine below_row ?_ ?_ _) | (with_reducible refine Below.drew ?_) | (with_reducible refine below_drewN ?_ _) | (with_reducible refine Below.trans ?_ (Below.mono (by assumption) ?_)) | (first | exact Nat.le_refl _ | omega | (simp; done) | (simp; omega) | (exact Below.size (by assumption))))))).mono ?_
      rintro e w1 ⟨rfl, hb1⟩
      have s1 := hb1.size; try simp only [World.size_alloc, World.size_setCell, World.size_drew, setRow_size] at s1
      have hbw : Below w.heap.size w w1 := by (repeat' (first | (with_reducible exact Below.refl _ _) | (with_reducible assumption) | (with_reducible refine Below.alloc ?_ ?_ _) | (with_reducible refine Below.setCell ?_ ?_ _) | (with_reducible refine below_row ?_ ?_ _) | (with_reducible refine Below.drew ?_) | (with_reducible refine below_drewN ?_ _) | (with_reducible refine Below.trans ?_ (Below.mono (by assumption) ?_)) | (first | exact Nat.le_refl _ | omega | (simp; done) | (simp; omega) | (exact Below.size (by assumption)))))
      clear hb1
      cases hp : p (e0, e1, e2)
      · go_wp2_with fail
        go_roundw
        case rel =>
          refine ⟨k + 1, by omega, by go_num, Lib.hid (fun j hj' h => ?_), hbw⟩
          by_cases e : j = k
          · subst e; rw [Hx.out]; exact hp
          · exact hj.out j (by omega) h
        case measure => simp [intOf]; omega
      · have HR := Lib.hid (any_yes hlt (by rw [Hx.out]; exact hp))
        go_wp2_with fail
        go_ret
        exact ⟨_, rfl, by rw [HR.out]; simp, hbw⟩
    · have HR := Lib.hid (any_no (p := p) fun j h => hj.out j (by omega) h)
      go_wp2
      go_ret
      exact ⟨_, rfl, by rw [HR.out]; decide, hb⟩
set_option maxHeartbeats 1000000 in
theorem hasD_any (K : Nat) (lb : Array Value) (p : D3 → Bool) (A : Option Addr) (c b off : Nat) (l : List (D3)) (w : World) (hA : 0 < l.length → A = some ⟨b, off, none⟩) (hl : l.length ≤ 1000) (hc : cellsD w b off l)
    (hE : ∀ (args : Array Value) (W : World), (callFunc K args).run Try.prog W = .ok (.enter K args) W)
    (hP : ∀ x ∈ l, ∀ W, Below w.heap.size w W → Calls Try.prog K (#[.agg #[.int .i64 x.1, .int .i64 x.2.1, .int .i64 x.2.2]] ++ lb) W fun e w' => e = .returned (.bool (p x)) ∧ Below W.heap.size W w') :
    Calls Try.prog 139 #[.slice A l.length c, .func (.func K) #[] lb] w fun e w' => e = .returned (.bool (l.any p)) ∧ Below w.heap.size w w' := by
  have HI := Lib.hid (idxD_any K lb p A c b off l w hA hl hc hE hP)
  go_enter Try.func139, Try.ntmps139
  go_wp2_with fail
  refine HI.out.mono ?_
  rintro e w1 ⟨r, rfl, hr, hb1⟩
  have HR := Lib.hid hr
  clear hr
  go_wp2
  go_ret
  exact ⟨ret_bool HR.out, hb1⟩

set_option maxHeartbeats 1000000 in
theorem idxI_any (K : Nat) (lb : Array Value) (p : Int × Int → Bool) (A : Option Addr) (c b off : Nat) (l : List (Int × Int)) (w : World) (hA : 0 < l.length → A = some ⟨b, off, none⟩) (hl : l.length ≤ 1000) (hc : ∀ i (h : i < l.length), w.cell? ⟨b, off + i * 2, none⟩ = some (.int .i64 l[i].1) ∧ w.cell? ⟨b, off + i * 2 + 1, none⟩ = some (.int .i64 l[i].2))
    (hE : ∀ (args : Array Value) (W : World), (callFunc K args).run Try.prog W = .ok (.enter K args) W)
    (hP : ∀ x ∈ l, ∀ W, Below w.heap.size w W → Calls Try.prog K (#[.agg #[.int .i64 x.1, .int .i64 x.2]] ++ lb) W fun e w' => e = .returned (.bool (p x)) ∧ Below W.heap.size W w') :
    Calls Try.prog 122 #[.slice A l.length c, .func (.func K) #[] lb] w fun e w' => ∃ r : Int, e = .returned (.int .i64 r) ∧ decide (0 ≤ r) = l.any p ∧ Below w.heap.size w w' := by
  have HC := Lib.hid hc; clear hc
  have HA := Lib.hid hA; clear hA
  have HP := Lib.hid hP; clear hP
  go_enter Try.func122, Try.ntmps122
  go_wp2_with fail
  go_loopw [8] (fun i wr => ∃ k : Nat, k ≤ l.length ∧ i = .int .i64 k ∧ Hid (∀ j (_ : j < k) (h : j < l.length), p l[j] = false) ∧ Below w.heap.size w wr) (fun i _ => l.length - (intOf i).toNat)
  case atStart => exact ⟨0, by omega, rfl, Lib.hid (fun j hj => by omega), by (repeat' (first | (with_reducible exact Below.refl _ _) | (with_reducible assumption) | (with_reducible refine Below.alloc ?_ ?_ _) | (with_reducible refine Below.setCell ?_ ?_ _) | (with_reducible refine below_row ?_ ?_ _) | (with_reducible refine Below.drew ?_) | (with_reducible refine below_drewN ?_ _) | (with_reducible refine Below.trans ?_ (Below.mono (by assumption) ?_)) | (first | exact Nat.le_refl _ | omega | (simp; done) | (simp; omega) | (exact Below.size (by assumption)))))⟩
  case round =>
    obtain ⟨k, hk, rfl, hj, hb⟩ := hrel
    have hz := hb.size
    by_cases hlt : k < l.length
    · obtain rfl := HA.out (by omega)
      obtain ⟨q0, q1⟩ := HC.out k hlt
      have hbl : b < w.heap.size := World.block_lt_of_cell? w _ q0
      have r0 := (hb.cell (p := ⟨b, off + k * 2, none⟩) hbl).trans q0
      have r1 := (hb.cell (p := ⟨b, off + k * 2 + 1, none⟩) hbl).trans q1
      clear q0 q1
      have HPK := Lib.hid (HP.out l[k] (List.getElem_mem hlt))
      obtain ⟨x, hx⟩ : ∃ x, l[k] = x := ⟨_, rfl⟩
      have Hx := Lib.hid hx
      rw [hx] at HPK r0 r1
      clear hx
      obtain ⟨e0, e1⟩ := x
      simp only at HPK r0 r1
      go_wp2_with fail
      refine (HPK.out _ (by (repeat' (first | (with_reducible exact Below.refl _ _) | (with_reducible assumption) | (with_reducible refine Below.alloc ?_ ?_ _) | (with_reducible refine Below.setCell ?_ ?_ _) | (with_reducible refine below_row ?_ ?_ _) | (with_reducible refine Below.drew ?_) | (with_reducible refine below_drewN ?_ _) | (with_reducible refine Below.trans ?_ (Below.mono (by assumption) ?_)) | (first | exact Nat.le_refl _ | omega | (simp; done) | (simp; omega) | (exact Below.size (by assumption))))))).mono ?_
      rintro e w1 ⟨rfl, hb1⟩
      have s1 := hb1.size; try simp only [World.size_alloc, World.size_setCell, World.size_drew, setRow_size] at s1
      have hbw : Below w.heap.size w w1 := by (repeat' (first | (with_reducible exact Below.refl _ _) | (with_reducible assumption) | (with_reducible refine Below.alloc ?_ ?_ _) | (with_reducible refine Below.setCell ?_ ?_ _) | (with_reducible refine below_row ?_ ?_ _) | (with_reducible refine Below.drew ?_) | (with_reducible refine below_drewN ?_ _) | (with_reducible refine Below.trans ?_ (Below.mono (by assumption) ?_)) | (first | exact Nat.le_refl _ | omega | (simp; done) | (simp; omega) | (exact Below.size (by assumption)))))
      clear hb1
      cases hp : p (e0, e1)
      · go_wp2_with fail
        go_roundw
        case rel =>
          refine ⟨k + 1, by omega, by go_num, Lib.hid (fun j hj' h => ?_), hbw⟩
          by_cases e : j = k
          · subst e; rw [Hx.out]; exact hp
          · exact hj.out j (by omega) h
        case measure => simp [intOf]; omega
      · have HR := Lib.hid (any_yes hlt (by rw [Hx.out]; exact hp))
        go_wp2_with fail
        go_ret
        exact ⟨_, rfl, by rw [HR.out]; simp, hbw⟩
    · have HR := Lib.hid (any_no (p := p) fun j h => hj.out j (by omega) h)
      go_wp2
      go_ret
      exact ⟨_, rfl, by rw [HR.out]; decide, hb⟩
set_option maxHeartbeats 1000000 in
theorem hasI_any (K : Nat) (lb : Array Value) (p : Int × Int → Bool) (A : Option Addr) (c b off : Nat) (l : List (Int × Int)) (w : World) (hA : 0 < l.length → A = some ⟨b, off, none⟩) (hl : l.length ≤ 1000) (hc : ∀ i (h : i < l.length), w.cell? ⟨b, off + i * 2, none⟩ = some (.int .i64 l[i].1) ∧ w.cell? ⟨b, off + i * 2 + 1, none⟩ = some (.int .i64 l[i].2))
    (hE : ∀ (args : Array Value) (W : World), (callFunc K args).run Try.prog W = .ok (.enter K args) W)
    (hP : ∀ x ∈ l, ∀ W, Below w.heap.size w W → Calls Try.prog K (#[.agg #[.int .i64 x.1, .int .i64 x.2]] ++ lb) W fun e w' => e = .returned (.bool (p x)) ∧ Below W.heap.size W w') :
    Calls Try.prog 81 #[.slice A l.length c, .func (.func K) #[] lb] w fun e w' => e = .returned (.bool (l.any p)) ∧ Below w.heap.size w w' := by
  have HI := Lib.hid (idxI_any K lb p A c b off l w hA hl hc hE hP)
  go_enter Try.func81, Try.ntmps81
  go_wp2_with fail
  refine HI.out.mono ?_
  rintro e w1 ⟨r, rfl, hr, hb1⟩
  have HR := Lib.hid hr
  clear hr
  go_wp2
  go_ret
  exact ⟨ret_bool HR.out, hb1⟩
end Go.Proofs.Ytngaepgepcnhkaa
