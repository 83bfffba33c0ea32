/- slices.Max, slices.BinarySearch over numbers. -/
import Derived.Test.YtngaepgepcnhkaaJ1
namespace Go.Proofs.Ytngaepgepcnhkaa
set_option linter.unusedVariables false
set_option linter.unusedSimpArgs false
open Go.RowKit

/-- The greatest of some numbers. -/
def maxL (l : List Int) : Int := l.foldl max (l.headD 0)
theorem maxL_step {l : List Int} {k : Nat} (h : k < l.length) (m : Int) : (l.take (k + 1)).foldl max m = max ((l.take k).foldl max m) l[k] := by
  rw [List.take_succ_eq_append_getElem h, List.foldl_append]; rfl
theorem maxL_one {l : List Int} (h : 0 < l.length) : (l.take 1).foldl max (l.headD 0) = l.headD 0 := by
  cases l with
  | nil => simp at h
  | cons x r => simp [Int.max_def]
set_option maxHeartbeats 1000000 in
theorem sMax_any (c b off : Nat) (l : List Int) (w : World) (h0 : 0 < l.length) (hl : l.length ≤ 1000) (hc : ∀ i (h : i < l.length), w.cell? ⟨b, off + i, none⟩ = some (.int .i64 (l[i]))) :
    Calls Try.prog 110 #[.slice (some ⟨b, off, none⟩) l.length c] w fun e w' => e = .returned (.int .i64 (maxL l)) ∧ w = w' := by
  have HC := Lib.hid hc
  have q0 : w.cell? ⟨b, off, none⟩ = some (.int .i64 (l.headD 0)) := by
    have := hc 0 h0
    rw [Nat.add_zero] at this
    rw [this]
    cases l with
    | nil => simp at h0
    | cons x r => rfl
  clear hc
  have hn : ¬ ((l.length : Int) < 1) := by omega
  have HM := Lib.hid (maxL_one h0)
  have HD : Hid (∃ m, l.headD 0 = m) := Lib.hid ⟨_, rfl⟩
  obtain ⟨m, hm⟩ := HD.out
  have HH := Lib.hid hm
  rw [hm] at q0 HM
  clear hm HD
  go_enter Try.func110, Try.ntmps110
  go_wp2_with fail
  go_loop [3, 4] (fun u i => ∃ k : Nat, 1 ≤ k ∧ k ≤ l.length ∧ i = .int .i64 k ∧ ∃ z : Int, u = .int .i64 z ∧ Hid (z = (l.take k).foldl max m)) (fun _ i => l.length - (intOf i).toNat)
  case atStart => exact ⟨1, by omega, by omega, rfl, _, rfl, Lib.hid HM.out.symm⟩
  case round =>
    obtain ⟨k, hk1, hk, rfl, z, rfl, hz⟩ := hrel
    by_cases hlt : k < l.length
    · have r0 := HC.out k hlt
      have HS := Lib.hid (maxL_step hlt m)
      generalize l[k] = x at *
      go_wp2
      go_round
      case rel => exact ⟨k + 1, by omega, by omega, by go_num, _, rfl, Lib.hid (by rw [HS.out, ← hz.out, Int.max_def]; split <;> split <;> omega)⟩
      case measure => simp [intOf]; omega
    · have hke : k = l.length := by omega
      have HR := Lib.hid hz.out
      rw [hke, List.take_length] at HR
      go_wp2
      go_ret
      exact ⟨ret_int (by rw [HR.out, maxL, HH.out]), rfl⟩

/-- Where a number is, or would be, in a list in order. -/
def BSat (zs : List Int) (t : Int) (w : World) (e : Ending) (w' : World) : Prop :=
  ∃ r : Nat, r ≤ zs.length ∧ (∀ i (h : i < zs.length), i < r → zs[i] < t) ∧ (∀ i (h : i < zs.length), r ≤ i → t ≤ zs[i]) ∧ e = .returned (.tuple #[.int .i64 r, .bool (decide (t ∈ zs))]) ∧ w = w'
theorem bs_yes {zs : List Int} {t : Int} {r : Nat} (h : r < zs.length) (he : zs[r] = t) : decide (t ∈ zs) = true := by
  rw [decide_eq_true_eq, ← he]; exact List.getElem_mem h
theorem bs_no {zs : List Int} {t : Int} {r : Nat} (hs : zs.Pairwise (· < ·)) (h1 : ∀ i (h : i < zs.length), i < r → zs[i] < t) (h2 : ∀ (h : r < zs.length), t < zs[r]) : decide (t ∈ zs) = false := by
  rw [decide_eq_false_iff_not]
  intro hm
  obtain ⟨k, hk, rfl⟩ := List.getElem_of_mem hm
  by_cases hr : k < r
  · have := h1 k hk hr; omega
  · have hr2 : r < zs.length := by omega
    have h3 := h2 hr2
    by_cases e : k = r
    · subst e; omega
    · have := List.pairwise_iff_getElem.1 hs r k hr2 hk (by omega); omega
set_option maxHeartbeats 2000000 in
theorem bSearch_any (A : Option Addr) (c b off : Nat) (l : List Int) (t : Int) (w : World) (hs : l.Pairwise (· < ·)) (hA : 0 < l.length → A = some ⟨b, off, none⟩) (hl : l.length ≤ 1000) (hc : ∀ i (h : i < l.length), w.cell? ⟨b, off + i, none⟩ = some (.int .i64 (l[i]))) :
    Calls Try.prog 117 #[.slice A l.length c, .int .i64 t] w (BSat l t w) := by
  have HC := Lib.hid hc; clear hc
  have HA := Lib.hid hA; clear hA
  have HS := Lib.hid hs; clear hs
  go_enter Try.func117, Try.ntmps117
  go_wp2
  go_loop [7, 8] (fun i j => ∃ k m : Nat, k ≤ m ∧ m ≤ l.length ∧ i = .int .i64 k ∧ j = .int .i64 m ∧ Hid (∀ x (h : x < l.length), x < k → l[x] < t) ∧ Hid (∀ x (h : x < l.length), m ≤ x → t ≤ l[x])) (fun i j => (intOf j).toNat - (intOf i).toNat)
  case atStart => exact ⟨0, l.length, by omega, by omega, rfl, rfl, Lib.hid (fun x h hx => by omega), Lib.hid (fun x h hx => by omega)⟩
  case round =>
    obtain ⟨k, m, hkm, hm, rfl, rfl, hlo, hhi⟩ := hrel
    by_cases hlt : k < m
    · obtain rfl := HA.out (by omega)
      have r0 := HC.out ((k + m) / 2) (by omega)
      have hh : (k + m) / 2 < l.length := by omega
      have HX : Hid (∃ x, l[(k + m) / 2] = x) := Lib.hid ⟨_, rfl⟩
      obtain ⟨x, hx⟩ := HX.out
      have HE := Lib.hid hx
      rw [hx] at r0
      clear hx HX
      by_cases hxt : x < t
      · go_wp2_with (go_at_call 131; refine (cmpLess_any _ _ _).mono ?_; rintro e w' ⟨rfl, rfl⟩)
        go_round
        case rel =>
          refine ⟨(k + m) / 2 + 1, m, by omega, hm, by go_num, rfl, Lib.hid (fun y h hy => ?_), hhi⟩
          by_cases e : y = (k + m) / 2
          · subst e; rw [HE.out]; exact hxt
          · have := List.pairwise_iff_getElem.1 HS.out y ((k + m) / 2) h hh (by omega)
            rw [HE.out] at this; omega
        case measure => simp [intOf]; omega
      · go_wp2_with (go_at_call 131; refine (cmpLess_any _ _ _).mono ?_; rintro e w' ⟨rfl, rfl⟩)
        go_round
        case rel =>
          refine ⟨k, (k + m) / 2, by omega, by omega, rfl, by go_num, hlo, Lib.hid (fun y h hy => ?_)⟩
          by_cases e : y = (k + m) / 2
          · subst e; rw [HE.out]; omega
          · have := List.pairwise_iff_getElem.1 HS.out ((k + m) / 2) y hh h (by omega)
            rw [HE.out] at this; omega
        case measure => simp [intOf]; omega
    · obtain rfl : k = m := by omega
      by_cases hkl : k < l.length
      · obtain rfl := HA.out (by omega)
        have r0 := HC.out k hkl
        obtain ⟨x, hx⟩ : ∃ x, l[k] = x := ⟨_, rfl⟩
        have HE := Lib.hid hx
        rw [hx] at r0
        clear hx
        by_cases hxt : x = t
        · subst hxt
          have HR := Lib.hid (bs_yes hkl HE.out)
          unfold BSat
          go_wp2_with (go_at_call 132; refine (sNaN_any _ _).mono ?_; rintro e w' ⟨rfl, rfl⟩)
          go_ret2
          exact ⟨k, by omega, hlo.out, fun i h hi => hhi.out i h hi, by rw [HR.out]; simp, rfl⟩
        · have hxt' : (x == t) = false := by rw [beq_eq_false_iff_ne]; exact hxt
          have HR := Lib.hid (bs_no HS.out hlo.out (fun h => by have h2 := hhi.out k h (Nat.le_refl _); rw [HE.out] at h2 ⊢; omega))
          go_wp2_with (go_at_call 132; refine (sNaN_any _ _).mono ?_; rintro e w' ⟨rfl, rfl⟩)
          go_ret2
          exact ⟨k, by omega, hlo.out, fun i h hi => hhi.out i h hi, by rw [HR.out]; simp, rfl⟩
      · have HR := Lib.hid (bs_no HS.out hlo.out (fun h => absurd h hkl))
        go_wp2
        go_ret2
        exact ⟨k, by omega, hlo.out, fun i h hi => hhi.out i h hi, by rw [HR.out]; simp, rfl⟩
end Go.Proofs.Ytngaepgepcnhkaa
