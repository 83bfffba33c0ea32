/- The issues of a drawing: the comparison, slices.BinarySearchFunc over issues, issuesOf. -/
import Derived.Test.YtngaepgepcnhkaaJ2
namespace Go.Proofs.Ytngaepgepcnhkaa
set_option linter.unusedVariables false
set_option linter.unusedSimpArgs false
open Go.RowKit

/-- The issues of a slice: their cells, with the slices of their items and sizes as they stand. -/
def IssRow (w : World) (b off : Nat) (xs : List Iss) (vi vd : Nat → Value) : Prop :=
  ∀ i (h : i < xs.length), w.cell? ⟨b, off + i * 5, none⟩ = some (.int .i64 xs[i].d) ∧ w.cell? ⟨b, off + i * 5 + 1, none⟩ = some (.int .i64 xs[i].l) ∧ w.cell? ⟨b, off + i * 5 + 2, none⟩ = some (.int .u8 xs[i].k) ∧
    w.cell? ⟨b, off + i * 5 + 3, none⟩ = some (vi i) ∧ w.cell? ⟨b, off + i * 5 + 4, none⟩ = some (vd i) ∧ (0 ≤ xs[i].k ∧ xs[i].k ≤ 255) ∧ ItemsAt w (vi i) xs[i].items ∧ DimsAt w (vd i) xs[i].dims ∧ NilOk (vi i) ∧ NilOk (vd i)
theorem IssRow.after {w w' : World} {b off : Nat} {xs : List Iss} {vi vd : Nat → Value} (h : IssRow w b off xs vi vd) (hb : Below w.heap.size w w') : IssRow w' b off xs vi vd := by
  intro i hi
  obtain ⟨h0, h1, h2, h3, h4, hk, h5, h6, h7⟩ := h i hi
  exact ⟨cell_keep hb h0, cell_keep hb h1, cell_keep hb h2, cell_keep hb h3, cell_keep hb h4, hk, h5.after hb, h6.after hb, h7⟩
theorem IssRow.slices {w : World} {b off : Nat} {xs : List Iss} {vi vd : Nat → Value} (h : IssRow w b off xs vi vd) {i : Nat} (hi : i < xs.length) : (∃ A n c, vi i = .slice A n c) ∧ ∃ A n c, vd i = .slice A n c := by
  obtain ⟨-, -, -, -, -, -, ⟨A, c, -, -, h1, -, -⟩, ⟨A', c', -, -, h2, -, -⟩, -⟩ := h i hi
  exact ⟨⟨A, _, c, h1⟩, ⟨A', _, c', h2⟩⟩
theorem IssuesAt.row {w : World} {v : Value} {xs : List Iss} (h : IssuesAt w v xs) : ∃ A c b off vi vd, v = .slice A xs.length c ∧ (0 < xs.length → A = some ⟨b, off, none⟩) ∧ IssRow w b off xs vi vd := by
  obtain ⟨A, c, b, off, hv, hA, hc⟩ := h
  have hex : ∀ i, ∃ p : Value × Value, (h : i < xs.length) → w.cell? ⟨b, off + i * 5, none⟩ = some (.int .i64 xs[i].d) ∧ w.cell? ⟨b, off + i * 5 + 1, none⟩ = some (.int .i64 xs[i].l) ∧ w.cell? ⟨b, off + i * 5 + 2, none⟩ = some (.int .u8 xs[i].k) ∧
    w.cell? ⟨b, off + i * 5 + 3, none⟩ = some p.1 ∧ w.cell? ⟨b, off + i * 5 + 4, none⟩ = some p.2 ∧ (0 ≤ xs[i].k ∧ xs[i].k ≤ 255) ∧ ItemsAt w p.1 xs[i].items ∧ DimsAt w p.2 xs[i].dims ∧ NilOk p.1 ∧ NilOk p.2 := by
    intro i
    by_cases hi : i < xs.length
    · obtain ⟨x, y, r⟩ := hc i hi
      exact ⟨(x, y), fun _ => r⟩
    · exact ⟨(undef, undef), fun h => absurd h hi⟩
  obtain ⟨f, hf⟩ := Classical.skolem.1 hex
  exact ⟨A, c, b, off, fun i => (f i).1, fun i => (f i).2, hv, hA, fun i hi => hf i hi⟩
theorem IssRow.at {w : World} {A : Option Addr} {c b off : Nat} {xs : List Iss} {vi vd : Nat → Value} (h : IssRow w b off xs vi vd) (hA : 0 < xs.length → A = some ⟨b, off, none⟩) : IssuesAt w (.slice A xs.length c) xs :=
  ⟨A, c, b, off, rfl, hA, fun i hi => ⟨vi i, vd i, h i hi⟩⟩

set_option maxHeartbeats 400000 in
theorem iCmp_any (d l k t : Int) (vi vd : Value) (w : World) : Calls Try.prog 113 #[.agg #[.int .i64 d, .int .i64 l, .int .u8 k, vi, vd], .int .i64 t] w fun e w' => e = .returned (.int .i64 (cmpI d t)) ∧ Below w.heap.size w w' := by
  have HC := Lib.hid (fun W => cmpCompare_any d t W)
  generalize cmpI d t = r at *
  go_enter Try.func113, Try.ntmps113
  go_wp2_with (go_at_call 114; refine (HC.out _).mono ?_; rintro e w' ⟨rfl, rfl⟩)
  go_ret
  exact ⟨rfl, by (repeat' (first | (with_reducible exact Below.refl _ _) | (with_reducible assumption) | (with_reducible refine Below.alloc ?_ ?_ _) | (with_reducible refine Below.setCell ?_ ?_ _) | (with_reducible refine below_row ?_ ?_ _) | (with_reducible refine Below.drew ?_) | (with_reducible refine below_drewN ?_ _) | (with_reducible refine Below.trans ?_ (Below.mono (by assumption) ?_)) | (first | exact Nat.le_refl _ | omega | (simp; done) | (simp; omega) | (exact Below.size (by assumption)))))⟩

/-- Where the issues of a drawing begin. -/
def BSF (xs : List Iss) (t : Int) (w : World) (e : Ending) (w' : World) : Prop :=
  ∃ (r : Nat) (f : Bool), r ≤ xs.length ∧ (∀ i (h : i < xs.length), i < r → xs[i].d < t) ∧ (∀ i (h : i < xs.length), r ≤ i → t ≤ xs[i].d) ∧ e = .returned (.tuple #[.int .i64 r, .bool f]) ∧ Below w.heap.size w w'
set_option maxHeartbeats 2000000 in
theorem bsf_any (A : Option Addr) (c b off : Nat) (xs : List Iss) (vi vd : Nat → Value) (t : Int) (w : World) (hs : xs.Pairwise (fun x y => x.d ≤ y.d)) (hA : 0 < xs.length → A = some ⟨b, off, none⟩) (hl : xs.length ≤ 1000) (hc : IssRow w b off xs vi vd) :
    Calls Try.prog 112 #[.slice A xs.length c, .int .i64 t, .func (.func 113) #[] #[]] w (BSF xs t w) := by
  have HC := Lib.hid hc; clear hc
  have HA := Lib.hid hA; clear hA
  have HS := Lib.hid hs; clear hs
  go_enter Try.func112, Try.ntmps112
  go_wp2
  go_loopw [9, 10] (fun i j wr => ∃ k m : Nat, k ≤ m ∧ m ≤ xs.length ∧ i = .int .i64 k ∧ j = .int .i64 m ∧ Hid (∀ x (h : x < xs.length), x < k → xs[x].d < t) ∧ Hid (∀ x (h : x < xs.length), m ≤ x → t ≤ xs[x].d) ∧ Below w.heap.size w wr) (fun i j _ => (intOf j).toNat - (intOf i).toNat)
  case atStart => exact ⟨0, xs.length, by omega, by omega, rfl, rfl, Lib.hid (fun x h hx => by omega), Lib.hid (fun x h hx => by omega), by (repeat' (first | (with_reducible exact Below.refl _ _) | (with_reducible assumption) | (with_reducible refine Below.alloc ?_ ?_ _) | (with_reducible refine Below.setCell ?_ ?_ _) | (with_reducible refine below_row ?_ ?_ _) | (with_reducible refine Below.drew ?_) | (with_reducible refine below_drewN ?_ _) | (with_reducible refine Below.trans ?_ (Below.mono (by assumption) ?_)) | (first | exact Nat.le_refl _ | omega | (simp; done) | (simp; omega) | (exact Below.size (by assumption)))))⟩
  case round =>
    obtain ⟨k, m, hkm, hm, rfl, rfl, hlo, hhi, hb⟩ := hrel
    by_cases hlt : k < m
    · obtain rfl := HA.out (by omega)
      have hh : (k + m) / 2 < xs.length := by omega
      obtain ⟨q0, q1, q2, q3, q4, -, -, -⟩ := (HC.out.after hb) _ hh
      generalize vi ((k + m) / 2) = va at *
      generalize vd ((k + m) / 2) = ve at *
      obtain ⟨x, hx⟩ : ∃ x, xs[(k + m) / 2] = x := ⟨_, rfl⟩
      have HE := Lib.hid hx
      rw [hx] at q0 q1 q2
      clear hx
      obtain ⟨d, l, kk, it, di⟩ := x
      simp only at q0 q1 q2
      have HX := Lib.hid (fun W => iCmp_any d l kk t va ve W)
      by_cases hxt : d < t
      · have hcm : cmpI d t < 0 := by unfold cmpI; rw [if_pos hxt]; decide
        generalize cmpI d t = r at *
        go_wp2_with fail
        refine (HX.out _).mono ?_
        rintro e w1 ⟨rfl, hb1⟩
        have hb2 : Below w.heap.size w w1 := by (repeat' (first | (with_reducible exact Below.refl _ _) | (with_reducible assumption) | (with_reducible refine Below.alloc ?_ ?_ _) | (with_reducible refine Below.setCell ?_ ?_ _) | (with_reducible refine below_row ?_ ?_ _) | (with_reducible refine Below.drew ?_) | (with_reducible refine below_drewN ?_ _) | (with_reducible refine Below.trans ?_ (Below.mono (by assumption) ?_)) | (first | exact Nat.le_refl _ | omega | (simp; done) | (simp; omega) | (exact Below.size (by assumption)))))
        clear hb1
        go_wp2_with fail
        go_roundw
        case rel =>
          refine ⟨(k + m) / 2 + 1, m, by omega, hm, by go_num, rfl, Lib.hid (fun y h hy => ?_), hhi, hb2⟩
          by_cases e : y = (k + m) / 2
          · subst e; rw [HE.out]; exact hxt
          · have := List.pairwise_iff_getElem.1 HS.out y ((k + m) / 2) h hh (by omega)
            rw [HE.out] at this; simp only at this; omega
        case measure => simp [intOf]; omega
      · have hcm : ¬ cmpI d t < 0 := by unfold cmpI; rw [if_neg hxt]; split <;> decide
        generalize cmpI d t = r at *
        go_wp2_with fail
        refine (HX.out _).mono ?_
        rintro e w1 ⟨rfl, hb1⟩
        have hb2 : Below w.heap.size w w1 := by (repeat' (first | (with_reducible exact Below.refl _ _) | (with_reducible assumption) | (with_reducible refine Below.alloc ?_ ?_ _) | (with_reducible refine Below.setCell ?_ ?_ _) | (with_reducible refine below_row ?_ ?_ _) | (with_reducible refine Below.drew ?_) | (with_reducible refine below_drewN ?_ _) | (with_reducible refine Below.trans ?_ (Below.mono (by assumption) ?_)) | (first | exact Nat.le_refl _ | omega | (simp; done) | (simp; omega) | (exact Below.size (by assumption)))))
        clear hb1
        go_wp2_with fail
        go_roundw
        case rel =>
          refine ⟨k, (k + m) / 2, by omega, by omega, rfl, by go_num, hlo, Lib.hid (fun y h hy => ?_), hb2⟩
          by_cases e : y = (k + m) / 2
          · subst e; rw [HE.out]; simp only; omega
          · have := List.pairwise_iff_getElem.1 HS.out ((k + m) / 2) y hh h (by omega)
            rw [HE.out] at this; simp only at this; omega
        case measure => simp [intOf]; omega
    · obtain rfl : k = m := by omega
      by_cases hkl : k < xs.length
      · obtain rfl := HA.out (by omega)
        obtain ⟨q0, q1, q2, q3, q4, -, -, -⟩ := (HC.out.after hb) _ hkl
        generalize vi k = va at *
        generalize vd k = ve at *
        obtain ⟨x, hx⟩ : ∃ x, xs[k] = x := ⟨_, rfl⟩
        have HE := Lib.hid hx
        rw [hx] at q0 q1 q2
        clear hx
        obtain ⟨d, l, kk, it, di⟩ := x
        simp only at q0 q1 q2
        have HX := Lib.hid (fun W => iCmp_any d l kk t va ve W)
        generalize cmpI d t = r at *
        go_wp2_with fail
        refine (HX.out _).mono ?_
        rintro e w1 ⟨rfl, hb1⟩
        have hb2 : Below w.heap.size w w1 := by (repeat' (first | (with_reducible exact Below.refl _ _) | (with_reducible assumption) | (with_reducible refine Below.alloc ?_ ?_ _) | (with_reducible refine Below.setCell ?_ ?_ _) | (with_reducible refine below_row ?_ ?_ _) | (with_reducible refine Below.drew ?_) | (with_reducible refine below_drewN ?_ _) | (with_reducible refine Below.trans ?_ (Below.mono (by assumption) ?_)) | (first | exact Nat.le_refl _ | omega | (simp; done) | (simp; omega) | (exact Below.size (by assumption)))))
        clear hb1
        go_wp2_with fail
        go_ret2
        exact ⟨k, _, by omega, hlo.out, fun i h hi => hhi.out i h hi, rfl, hb2⟩
      · go_wp2
        go_ret2
        exact ⟨k, _, by omega, hlo.out, fun i h hi => hhi.out i h hi, rfl, hb⟩

set_option maxHeartbeats 400000 in
theorem issuesOf_any (vI vN vD : Value) (d : Int) (w : World) (hI : ∃ A n c, vI = .slice A n c) :
    Calls Try.prog 66 #[.agg #[vI, vN, vD], .int .i64 d] w fun e w' => e = .returned (.func (.func 111) #[] #[.pointer (some ⟨w.heap.size, 0, none⟩), .pointer (some ⟨w.heap.size + 1, 0, none⟩)]) ∧ (w.alloc (.cells #[vI, vN, vD] 118)).alloc (.cells #[.int .i64 d] 3) = w' := by
  have hmf : ∀ (fn : Fn) (first cap : Array Value) (w : World), (Instr.makeFunc fn first cap).run Try.prog w = .ok (.func fn first cap) w := fun _ _ _ _ => rfl
  go_enter Try.func66, Try.ntmps66
  go_wp2
  go_ret
  exact ⟨rfl, rfl⟩
end Go.Proofs.Ytngaepgepcnhkaa
