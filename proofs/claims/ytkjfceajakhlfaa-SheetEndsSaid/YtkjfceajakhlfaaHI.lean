/- SheetItems' mathematics: the parts of an assembly are those of its items, each as often as it is needed. -/
import Derived.Test.YtkjfceajakhlfaaHY
import Derived.Test.YtkjfceajakhlfaaVF
namespace Go.Proofs.Ytkjfceajakhlfaa
set_option linter.unusedVariables false
set_option linter.unusedSimpArgs false
open Go.RowKit

theorem issue_one {xs : List Iss} (h : layE xs = 0) {x y : Iss} (hx : x ∈ xs) (hy : y ∈ xs) (hd : x.d = y.d) (hl : x.l = y.l) : x = y := by
  obtain ⟨-, h2, -⟩ := layE_ok h
  have hp := (right_lt h2).1
  obtain ⟨i, hi, rfl⟩ := List.getElem_of_mem hx
  obtain ⟨j, hj, rfl⟩ := List.getElem_of_mem hy
  rcases Nat.lt_trichotomy i j with e | e | e
  · have := List.pairwise_iff_getElem.1 hp i j hi hj e
    unfold ltN at this
    omega
  · subst e; rfl
  · have := List.pairwise_iff_getElem.1 hp j i hj hi e
    unfold ltN at this
    omega
/-- All issues of a drawing have one kind. -/
theorem kind_from : ∀ {xs : List Iss} {b : Iss}, rightB b xs = true → ∀ x ∈ xs, x.d = b.d → x.k = b.k
  | [], _, _, _, h => by cases h
  | y :: r, b, h, x, hx => by
    intro hd
    obtain ⟨-, ho, h3⟩ := right_cons2 h
    have hge := right_ge h3
    have hyb : b.d ≤ y.d := by rcases orderB_iff.1 ho with ⟨e1, -⟩ | ⟨e1, -⟩ <;> omega
    have hyd : y.d = b.d := by
      rcases List.mem_cons.1 hx with rfl | h4
      · exact hd
      · have := hge x h4; omega
    have hyk : y.k = b.k := by
      rcases orderB_iff.1 ho with ⟨e1, e2, e3⟩ | ⟨e1, e2⟩
      · exact e3
      · omega
    rcases List.mem_cons.1 hx with rfl | h4
    · exact hyk
    · rw [kind_from h3 x h4 (by omega), hyk]
theorem kind_in : ∀ {xs : List Iss} {b : Iss}, rightB b xs = true → ∀ x ∈ xs, ∀ y ∈ xs, x.d = y.d → x.k = y.k
  | [], _, _, _, h, _, _, _ => by cases h
  | z :: r, b, h, x, hx, y, hy, e => by
    obtain ⟨-, -, h3⟩ := right_cons2 h
    rcases List.mem_cons.1 hx with rfl | hx'
    · rcases List.mem_cons.1 hy with rfl | hy'
      · rfl
      · exact (kind_from h3 y hy' e.symm).symm
    · rcases List.mem_cons.1 hy with rfl | hy'
      · exact kind_from h3 x hx' e
      · exact kind_in h3 x hx' y hy' e
section
variable {xs : List Iss} {zs : List Int} {q rk : Int → Nat}
theorem adds_stable (K : Kit xs zs q rk) : ∀ (k k' : Nat) (z : Int), z ∈ zs → rk z ≤ k → rk z ≤ k' → ∀ c, addsL xs q k z c = addsL xs q k' z c
  | 0, _, z, hz, h, _, _ => by have := K.pos z hz; omega
  | _ + 1, 0, z, hz, _, h, _ => by have := K.pos z hz; omega
  | k + 1, k' + 1, z, hz, h, h', c => by
    rw [addsL, addsL]
    congr 1
    refine flat_congr fun it hit => ?_
    have h4 := (K.itm hz).2.2 it hit
    exact adds_stable K k k' it.1 h4.1.1 (by omega) (by omega) _
theorem adds_scale (n : Int) : ∀ (k : Nat) (z c : Int), addsL xs q k z (c * n) = (addsL xs q k z c).map fun p => (p.1, p.2 * n)
  | 0, _, _ => rfl
  | k + 1, z, c => by
    rw [addsL, addsL, List.map_append, List.map_flatMap]
    congr 1
    · split <;> rfl
    · refine flat_congr fun it _ => ?_
      rw [← adds_scale n k, Int.mul_right_comm]
theorem adds_in (K : Kit xs zs q rk) : ∀ (k : Nat) (z : Int), z ∈ zs → ∀ c, ∀ p ∈ addsL xs q k z c, p.1 ∈ zs ∧ (xs.getD (q p.1) zeroI).k ≠ 1
  | 0, _, _, _, p, h => by cases h
  | k + 1, z, hz, c, p, h => by
    rw [addsL] at h
    rcases List.mem_append.1 h with h | h
    · by_cases e : (xs.getD (q z) zeroI).k = 1
      · rw [if_pos e] at h; cases h
      · rw [if_neg e] at h
        rw [List.mem_singleton.1 h]
        exact ⟨hz, e⟩
    · obtain ⟨it, hit, h2⟩ := List.mem_flatMap.1 h
      exact adds_in K k it.1 ((K.itm hz).2.2 it hit).1.1 _ p h2
theorem sumL_map (n y : Int) : ∀ l : List (Int × Int), sumL (l.map fun p => (p.1, p.2 * n)) y = sumL l y * n
  | [] => by simp [sumL]
  | p :: r => by
    have h := sumL_map n y r
    unfold sumL at *
    simp only [List.map_cons, List.sum_cons, h, Int.add_mul]
    congr 1
    split <;> simp
theorem sumL_flat {f g : Int × Int → List (Int × Int)} {y : Int} : ∀ {l : List (Int × Int)}, (∀ it ∈ l, sumL (f it) y = sumL (g it) y) → sumL (l.flatMap f) y = sumL (l.flatMap g) y
  | [], _ => rfl
  | it :: r, h => by
    rw [List.flatMap_cons, List.flatMap_cons, sumL_app, sumL_app, h it (by simp), sumL_flat (fun z hz => h z (List.mem_cons_of_mem _ hz))]
theorem sumL_no {y : Int} : ∀ {l : List (Int × Int)}, (∀ p ∈ l, p.1 ≠ y) → sumL l y = 0
  | [], _ => rfl
  | p :: r, h => by
    have h1 := sumL_no (y := y) (l := r) (fun z hz => h z (List.mem_cons_of_mem _ hz))
    have h2 := h p (by simp)
    unfold sumL at *
    rw [List.map_cons, List.sum_cons, if_neg h2, h1]; rfl
theorem sumL_some {y : Int} {l : List (Int × Int)} (h : sumL l y ≠ 0) : ∃ p ∈ l, p.1 = y := by
  by_cases e : ∃ p ∈ l, p.1 = y
  · exact e
  · exact absurd (sumL_no fun p hp e2 => e ⟨p, hp, e2⟩) h
/-- The sums of a list of parts are those that it was made of. -/
theorem sumL_parts {s : Int → Int} (h0 : ∀ y, 0 ≤ s y) (hs : ∀ y, y ∉ zs → s y = 0) (hp : zs.Pairwise (· < ·)) (y : Int) : sumL ((zs.filter fun z => decide (0 < s z)).map fun z => (z, s z)) y = s y := by
  induction zs generalizing s with
  | nil => rw [hs y (by simp)]; rfl
  | cons z r ih =>
    have hp' := List.pairwise_cons.1 hp
    have hzr : z ∉ r := fun h => by have := hp'.1 z h; omega
    have h1 := ih (s := fun x => if x = z then 0 else s x) (fun x => by split; exact Int.le_refl _; exact h0 x) (fun x hx => by
      by_cases e : x = z
      · simp [e]
      · simp only [if_neg e]; exact hs x (by simp [e, hx])) hp'.2
    have h2 : (r.filter fun x => decide (0 < if x = z then 0 else s x)) = r.filter fun x => decide (0 < s x) := List.filter_congr fun x hx => by
      have hne : x ≠ z := fun e => hzr (e ▸ hx)
      rw [if_neg hne]
    have h3 : ((r.filter fun x => decide (0 < s x)).map fun x => (x, if x = z then (0 : Int) else s x)) = (r.filter fun x => decide (0 < s x)).map fun x => (x, s x) := List.map_congr_left fun x hx => by
      have hne : x ≠ z := fun e => hzr (e ▸ (List.mem_filter.1 hx).1)
      rw [if_neg hne]
    rw [h2, h3] at h1
    by_cases e : 0 < s z
    · rw [List.filter_cons_of_pos (by simpa using e), List.map_cons]
      have h4 : ∀ l : List (Int × Int), sumL ((z, s z) :: l) y = (if z = y then s z else 0) + sumL l y := fun l => by simp [sumL]
      rw [h4, h1]
      by_cases e2 : z = y
      · subst e2; simp
      · rw [if_neg e2, if_neg (fun e3 => e2 e3.symm)]; omega
    · rw [List.filter_cons_of_neg (by simpa using e), h1]
      by_cases e2 : y = z
      · subst e2; have := h0 y; rw [if_pos rfl]; omega
      · rw [if_neg e2]
/-- How often a drawing is a part of another one. -/
def cntP (xs : List Iss) (q : Int → Nat) (z y : Int) : Int := sumL (addsL xs q 6 z 1) y
theorem cnt_nonneg (K : Kit xs zs q rk) {z : Int} (hz : z ∈ zs) (y : Int) : 0 ≤ cntP xs q z y := (adds_bd K y 6 z hz 1 (by omega)).1
theorem cnt_le (K : Kit xs zs q rk) {z : Int} (hz : z ∈ zs) (y : Int) : cntP xs q z y ≤ bnd 6 1 := (adds_bd K y 6 z hz 1 (by omega)).2
theorem cnt_in (K : Kit xs zs q rk) {z : Int} (hz : z ∈ zs) {y : Int} (h : cntP xs q z y ≠ 0) : y ∈ zs ∧ (xs.getD (q y) zeroI).k ≠ 1 := by
  obtain ⟨p, hp, rfl⟩ := sumL_some h
  exact adds_in K 6 z hz 1 p hp
theorem cnt_parts (K : Kit xs zs q rk) (hp : zs.Pairwise (· < ·)) {z : Int} (hz : z ∈ zs) (y : Int) : sumL (partsL xs zs q z) y = cntP xs q z y :=
  sumL_parts (s := cntP xs q z) (cnt_nonneg K hz) (fun y hy => by
    by_cases e : cntP xs q z y = 0
    · exact e
    · exact absurd (cnt_in K hz e).1 hy) hp y
/-- What the items of an assembly add. -/
def addF (xs : List Iss) (zs : List Int) (q : Int → Nat) (it : Int × Int) : List (Int × Int) := (partsL xs zs q it.1).map fun p => (p.1, p.2 * it.2)
theorem cnt_items (K : Kit xs zs q rk) (hp : zs.Pairwise (· < ·)) {z : Int} (hz : z ∈ zs) (hk : (xs.getD (q z) zeroI).k = 1) (y : Int) : sumL ((xs.getD (q z) zeroI).items.flatMap (addF xs zs q)) y = cntP xs q z y := by
  unfold cntP
  rw [addsL, if_pos hk, List.nil_append]
  refine sumL_flat fun it hit => ?_
  have h4 := (K.itm hz).2.2 it hit
  have hr := K.le z hz
  rw [adds_stable K 5 6 it.1 h4.1.1 (by omega) (by have := K.le it.1 h4.1.1; omega), adds_scale, sumL_map, addF, sumL_map, cnt_parts K hp h4.1.1]
  rfl
theorem cnt_part (K : Kit xs zs q rk) {z : Int} (hz : z ∈ zs) (hk : (xs.getD (q z) zeroI).k ≠ 1) (y : Int) : cntP xs q z y = if z = y then 1 else 0 := by
  unfold cntP
  rw [addsL, if_neg hk, (K.itm hz).2.1 hk, List.flatMap_nil, List.append_nil, sumL_one]
theorem cnt_some (K : Kit xs zs q rk) (hi : ∀ z ∈ zs, (xs.getD (q z) zeroI).k = 1 → (xs.getD (q z) zeroI).items ≠ []) : ∀ (k : Nat) (z : Int), z ∈ zs → rk z ≤ k → ∃ y ∈ zs, 0 < cntP xs q z y
  | 0, z, hz, h => by have := K.pos z hz; omega
  | k + 1, z, hz, h => by
    by_cases e : (xs.getD (q z) zeroI).k = 1
    · cases hl : (xs.getD (q z) zeroI).items with
      | nil => exact absurd hl (hi z hz e)
      | cons it r =>
        have h4 := (K.itm hz).2.2 it (by rw [hl]; simp)
        obtain ⟨y, hy, hc⟩ := cnt_some K hi k it.1 h4.1.1 (by omega)
        refine ⟨y, hy, ?_⟩
        have hr := K.le z hz
        have h5 : cntP xs q z y = sumL (addsL xs q 5 it.1 (1 * it.2)) y + sumL (r.flatMap fun it => addsL xs q 5 it.1 (1 * it.2)) y := by
          unfold cntP
          rw [addsL, if_pos e, List.nil_append, hl, List.flatMap_cons, sumL_app]
        have h6 := (sum_items (k := 5) (f := addsL xs q 5) (c := 1) (y := y) (by omega) (l := r) (fun z2 h7 => ((K.itm hz).2.2 z2 (by rw [hl]; simp [h7])).1.2) (fun z2 h7 c h8 => adds_bd K y 5 z2.1 ((K.itm hz).2.2 z2 (by rw [hl]; simp [h7])).1.1 c h8)).1
        rw [h5, adds_stable K 5 6 it.1 h4.1.1 (by omega) (by have := K.le it.1 h4.1.1; omega), adds_scale, sumL_map]
        have h7 : 0 < sumL (addsL xs q 6 it.1 1) y * it.2 := Int.mul_pos hc (by omega)
        omega
    · exact ⟨z, hz, by rw [cnt_part K hz e, if_pos rfl]; omega⟩
theorem parts_some (K : Kit xs zs q rk) (hi : ∀ z ∈ zs, (xs.getD (q z) zeroI).k = 1 → (xs.getD (q z) zeroI).items ≠ []) {z : Int} (hz : z ∈ zs) : 0 < (partsL xs zs q z).length := by
  obtain ⟨y, hy, hc⟩ := cnt_some K hi 6 z hz (K.le z hz)
  unfold partsL
  rw [List.length_map]
  exact List.length_pos_of_mem (List.mem_filter.2 ⟨hy, decide_eq_true (show 0 < sumL (addsL xs q 6 z 1) y from hc)⟩)
theorem parts_mem {z : Int} {p : Int × Int} (h : p ∈ partsL xs zs q z) : p.1 ∈ zs ∧ p.2 = cntP xs q z p.1 ∧ 0 < p.2 := by
  obtain ⟨y, hy, rfl⟩ := List.mem_map.1 h
  obtain ⟨h1, h2⟩ := List.mem_filter.1 hy
  exact ⟨h1, rfl, by simpa using h2⟩
theorem parts_one (K : Kit xs zs q rk) (hp : zs.Pairwise (· < ·)) {z : Int} (hz : z ∈ zs) (hk : (xs.getD (q z) zeroI).k ≠ 1) : partsL xs zs q z = [(z, 1)] := by
  have h1 : ∀ {l : List Int}, l.Pairwise (· < ·) → z ∈ l → (l.filter fun y => decide (0 < cntP xs q z y)) = [z] := by
    intro l
    induction l with
    | nil => intro _ h; cases h
    | cons y r ih =>
      intro hp h
      have hp' := List.pairwise_cons.1 hp
      by_cases e : y = z
      · subst e
        have h2 : (r.filter fun x => decide (0 < cntP xs q y x)) = [] := List.filter_eq_nil_iff.2 fun x hx => by
          rw [cnt_part K hz hk, if_neg (by have := hp'.1 x hx; omega)]; simp
        rw [List.filter_cons_of_pos (by rw [cnt_part K hz hk, if_pos rfl]; simp), h2]
      · rw [List.filter_cons_of_neg (by rw [cnt_part K hz hk, if_neg (fun e2 => e e2.symm)]; simp)]
        refine ih hp'.2 ?_
        rcases List.mem_cons.1 h with h | h
        · exact absurd h.symm e
        · exact h
  have h2 := h1 hp hz
  have h3 : partsL xs zs q z = (zs.filter fun y => decide (0 < cntP xs q z y)).map fun y => (y, cntP xs q z y) := rfl
  rw [h3, h2, List.map_cons, List.map_nil, cnt_part K hz hk, if_pos rfl]
end
/-- The issue that is taken of a drawing. -/
theorem taken_is {xs : List Iss} {ls : List Int} {d : Int} {p : Nat} (h : layE xs = 0) (hl : lettersB xs (numbersL xs) ls = true) (hd : d ∈ numbersL xs) (hp : idxL (numbersL xs) d = p) {x : Iss} (hx : x ∈ xs) (hxd : x.d = d) (hxl : x.l = ls.getD p 0) : xs.getD (qOf xs (numbersL xs) ls d) zeroI = x := by
  have K := kit_of h hl
  rw [K.get hd]
  have h1 : (xs[qOf xs (numbersL xs) ls d]'(K.lt d hd)).l = ls.getD p 0 := by
    have h2 : qOf xs (numbersL xs) ls d = idxN xs d (ls.getD p 0) := by unfold qOf; rw [hp]; rfl
    have h3 : idxN xs d (ls.getD p 0) < xs.length := by rw [← h2]; exact K.lt d hd
    have h4 := idxN_at h3
    simp only [h2]
    exact h4.2
  exact issue_one h (List.getElem_mem _) hx (by rw [K.d_ d hd (K.lt d hd), hxd]) (by rw [h1, hxl])
theorem letter_in {xs : List Iss} {ls : List Int} {d : Int} {p : Nat} (h : layE xs = 0) (hl : lettersB xs (numbersL xs) ls = true) (hd : d ∈ numbersL xs) (hp : idxL (numbersL xs) d = p) : p < ls.length ∧ 1 ≤ ls.getD p 0 ∧ ls.getD p 0 ≤ lastOfR d 0 xs := by
  obtain ⟨-, hr, -⟩ := layE_ok h
  obtain ⟨h1, h2⟩ := lettersB_iff.1 hl
  obtain ⟨r, hr1, ⟨hr2, hz⟩, hi⟩ := idx_spec hd
  have e : p = r := by omega
  subst e
  have h3 := h2 p hr1 (by omega)
  rw [hz, letter_iff hr (numbers_in hr _ hd).1] at h3
  unfold inB at h3
  simp at h3
  rw [List.getD_eq_getElem?_getD, List.getElem?_eq_getElem (by omega)]
  exact ⟨by omega, by simpa using h3⟩
theorem items_some {xs : List Iss} (h : layE xs = 0) {x : Iss} (hx : x ∈ xs) (hk : x.k = 1) : x.items ≠ [] := by
  obtain ⟨-, hr, -⟩ := layE_ok h
  obtain ⟨-, hm, -⟩ := right_named hr x hx
  unfold madeB at hm
  rw [if_pos hk, Bool.and_eq_true] at hm
  have h9 := hm.1
  unfold inB at h9
  simp at h9
  intro e
  rw [e] at h9
  simp at h9
end Go.Proofs.Ytkjfceajakhlfaa
