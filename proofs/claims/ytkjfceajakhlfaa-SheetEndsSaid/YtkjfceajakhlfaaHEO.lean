/- SheetEnds' mathematics, further: what is below a branch, counted from one branch to the next; the sums on the way; the rest of a tree in memory. -/
import Derived.Test.YtkjfceajakhlfaaHEN
import Derived.Test.YtkjfceajakhlfaaHEC
import Derived.Test.YtkjfceajakhlfaaHK
namespace Go.Proofs.Ytkjfceajakhlfaa
set_option linter.unusedVariables false
set_option linter.unusedSimpArgs false
open Go.RowKit

section
variable {xs : List Iss} {zs : List Int} {q rk : Int → Nat}
theorem inner_of (K : Kit xs zs q rk) {z : Int} (hz : z ∈ zs) {e : Int} {L : List Br} {y : Iss} (hy : xs.getD (q z) zeroI = y) (h : ∃ (k : Nat) (R : List Br), L = (xs.getD (q z) zeroI).items.flatMap (fun y => treeL xs q k (e + 1) y.1 y.2) ++ R ∧ TailB e R ∧ ∀ it ∈ (xs.getD (q z) zeroI).items, rk it.1 ≤ k) :
    ∃ (m : Nat) (cnt : Nat → Nat), m ≤ L.length ∧ cnt 0 = 0 ∧ cnt m = y.items.length ∧ (∀ j (hj : j < L.length), j < m → e + 1 ≤ (L[j]).1) ∧ (∀ j (hj : j < L.length), j = m → (L[j]).1 ≤ e) ∧
    (∀ j (hj : j < L.length), j < m → (L[j]).1 = e + 1 → (∃ hn : cnt j < y.items.length, y.items[cnt j] = ((L[j]).2.1, (L[j]).2.2.2)) ∧ cnt (j + 1) = cnt j + 1) ∧ ∀ j (hj : j < L.length), j < m → (L[j]).1 ≠ e + 1 → cnt (j + 1) = cnt j := by
  subst hy
  obtain ⟨k, R, e1, hT, hr⟩ := h
  have hit := (K.itm hz).2.2
  have hil : ∀ it ∈ (xs.getD (q z) zeroI).items, (it.1 ∈ zs ∧ 1 ≤ it.2 ∧ it.2 ≤ 20) ∧ rk it.1 ≤ k := fun it hi => ⟨(hit it hi).1, hr it hi⟩
  have hhd := heads_row K (D := e) hil
  have hdp := deeper_row K (D := e) hil
  generalize (xs.getD (q z) zeroI).items = il at *
  generalize hrow : (il.flatMap fun y => treeL xs q k (e + 1) y.1 y.2) = Row at *
  clear hrow hit hil hr
  have hlt : ∀ j (hj : j < L.length) (hm : j < Row.length), L[j] = Row[j] := fun j hj hm => by
    simp only [e1]; rw [List.getElem_append_left hm]
  have hml : (Row.filter fun b => decide (b.1 = e + 1)).length = il.length := by rw [hhd, List.length_map]
  refine ⟨Row.length, fun j => ((Row.take j).filter fun b => decide (b.1 = e + 1)).length, ?_, rfl, ?_, fun j hj hm => ?_, fun j hj hm => ?_, fun j hj hm h1 => ?_, fun j hj hm h1 => ?_⟩
  · rw [e1, List.length_append]; omega
  · show ((Row.take Row.length).filter _).length = _
    rw [List.take_length, hml]
  · rw [hlt j hj hm]; exact hdp _ (List.getElem_mem hm)
  · subst hm
    have h2 : 0 < R.length := by rw [e1, List.length_append] at hj; omega
    have h3 : L[Row.length] = R[0] := by simp only [e1]; rw [List.getElem_append_right (Nat.le_refl _)]; simp
    rw [h3]
    exact hT R[0] (R.drop 1) (by rw [List.getElem_cons_drop]; rfl)
  · rw [hlt j hj hm] at h1 ⊢
    have hp : decide ((Row[j]).1 = e + 1) = true := decide_eq_true h1
    obtain ⟨hn, h2⟩ := filter_at hhd hm hp
    rw [List.length_map] at hn
    refine ⟨⟨hn, ?_⟩, ?_⟩
    · rw [List.getElem_map] at h2
      rw [← h2]
    · show ((Row.take (j + 1)).filter _).length = _
      rw [filter_next hm, if_pos hp]
  · rw [hlt j hj hm] at h1
    show ((Row.take (j + 1)).filter _).length = _
    rw [filter_next hm, if_neg (by rw [decide_eq_true_eq]; exact h1)]
    rfl
theorem adds_pos (K : Kit xs zs q rk) : ∀ (k : Nat) (z : Int), z ∈ zs → ∀ c, 0 < c → ∀ p ∈ addsL xs q k z c, 0 < p.2
  | 0, _, _, _, _, p, h => by cases h
  | k + 1, z, hz, c, hc, p, h => by
    rw [addsL] at h
    rcases List.mem_append.1 h with h | h
    · by_cases e : (xs.getD (q z) zeroI).k = 1
      · rw [if_pos e] at h; cases h
      · rw [if_neg e] at h
        rw [List.mem_singleton.1 h]
        exact hc
    · obtain ⟨it, hit, h2⟩ := List.mem_flatMap.1 h
      have h3 := ((K.itm hz).2.2 it hit).1
      exact adds_pos K k it.1 h3.1 _ (Int.mul_pos hc (by omega)) p h2
theorem parts_strict (hp : zs.Pairwise (· < ·)) (z : Int) : (partsL xs zs q z).Pairwise fun a b => a.1 < b.1 := by
  unfold partsL
  rw [List.pairwise_map]
  exact List.Pairwise.filter _ hp
theorem sum_pos2 {y : Int} : ∀ {b : List (Int × Int)}, (∀ p ∈ b, 0 < p.2) → 0 ≤ sumL b y
  | [], _ => Int.le_refl _
  | p :: r, h => by
    have h1 := sum_pos2 (y := y) (b := r) (fun q hq => h q (List.mem_cons_of_mem _ hq))
    have h2 := h p (by simp)
    unfold sumL at *
    rw [List.map_cons, List.sum_cons]
    split <;> omega
theorem ends_pre (I : Int → Bool) (W : Int → Int) (T : List Br) (i : Nat) : endsF I W (T.take i) <+: endsF I W T := by
  conv => rhs; rw [← List.take_append_drop i T]
  rw [endsF_app]
  exact List.prefix_append _ _
theorem ends_bd (K : Kit xs zs q rk) {d : Int} (hd : d ∈ zs) {I : Int → Bool} {W : Int → Int} {T : List Br} (h : endsF I W T = addsL xs q 6 d 1) (i : Nat) : (∀ y, 0 ≤ sumL (endsF I W (T.take i)) y ∧ sumL (endsF I W (T.take i)) y ≤ 16777216000000) ∧ ∀ p ∈ endsF I W (T.take i), 0 < p.2 := by
  have hp := adds_pos K 6 d hd 1 (by omega)
  obtain ⟨r, hr⟩ := ends_pre I W T i
  rw [h] at hr
  have h1 : ∀ p ∈ endsF I W (T.take i), 0 < p.2 := fun p hpp => hp p (by rw [← hr]; exact List.mem_append_left _ hpp)
  have h2 : ∀ p ∈ r, 0 < p.2 := fun p hpp => hp p (by rw [← hr]; exact List.mem_append_right _ hpp)
  refine ⟨fun y => ?_, h1⟩
  have hb := (adds_bd K y 6 d hd 1 (by omega)).2
  have hs := sumL_app (endsF I W (T.take i)) r y
  rw [hr] at hs
  have e1 := sum_pos2 (y := y) h1
  have e2 := sum_pos2 (y := y) h2
  have e3 : bnd 6 1 ≤ 16777216000000 := by decide
  omega
end
theorem add_offE (g o j : Nat) : (⟨g, o, none⟩ : Addr).add j = ⟨g, o + j, none⟩ := by
  unfold Addr.add
  by_cases h : j = 0
  · subst h; simp
  · simp [h]
/-- The rest of a tree, in memory. -/
theorem tree_tail {w : World} {A : Option Addr} {c k : Nat} {T : List Br} {i : Int} (h : BranchesAt w (.slice A T.length c) T) (hk : k ≤ T.length) (hc : T.length ≤ c) (hi : i = (k : Int)) :
    ∃ A' c', (∀ W : World, (Instr.slice 61 (.slice A T.length c) (some (.int .i64 i)) none none).run Try.prog W = .ok (.slice A' (T.drop k).length c') W) ∧ BranchesAt w (.slice A' (T.drop k).length c') (T.drop k) := by
  subst hi
  have hu : Try.prog.underlying 61 = some (.slice (Try.prog.elem 61)) := by kernel_rfl
  have hz : ∀ W : World, (sizeOf (Try.prog.elem 61)).run Try.prog W = .ok 4 W := fun W => by kernel_rfl
  obtain ⟨A', c', b, o, e, hA, hcl⟩ := h
  injection e with e1 e2 e3
  subst e1 e3
  refine ⟨if c = k then A else A.map (·.add (k * 4)), c - k, fun W => ?_, _, _, b, o + k * 4, rfl, fun h0 => ?_, fun j hj => ?_⟩
  · rw [run_slice_l W _ _ _ _ hu .i64 k (by omega) (by omega), hz, List.length_drop]
    rfl
  · rw [List.length_drop] at h0
    rw [if_neg (by omega), hA (by omega)]
    simp only [Option.map_some, add_offE]
  · rw [List.length_drop] at hj
    have h2 := hcl (k + j) (by omega)
    have e4 : o + (k + j) * 4 = o + k * 4 + j * 4 := by omega
    rw [e4] at h2
    simp only [List.getElem_drop]
    exact h2
end Go.Proofs.Ytkjfceajakhlfaa
