/- SheetBelow's mathematics, first part: the register of some drawings and of all that they need. -/
import Derived.Test.YtmhlbdighceogaaHI
namespace Go.Proofs.Ytmhlbdighceogaa
set_option linter.unusedVariables false
set_option linter.unusedSimpArgs false
open Go.RowKit

/-- The issues of some drawings. -/
def lessL (B : Int → Bool) (xs : List Iss) : List Iss := xs.filter fun x => B x.d
theorem less_right {B : Int → Bool} : ∀ {xs : List Iss} {b b' : Iss}, b'.d ≤ b.d → (B b.d = true → b' = b) → rightB b xs = true → rightB b' (lessL B xs) = true
  | [], _, _, _, _, _ => rfl
  | x :: r, b, b', h1, h2, h => by
    have hge := right_ge h x (by simp)
    rw [rightB, Bool.and_eq_true] at h
    unfold lessL
    by_cases hB : B x.d = true
    · rw [List.filter_cons_of_pos (by simpa using hB), rightB, Bool.and_eq_true]
      refine ⟨?_, less_right (Int.le_refl _) (fun _ => rfl) h.2⟩
      have hm := h.1
      unfold metB at hm ⊢
      rw [Bool.and_eq_true, Bool.and_eq_true, Bool.and_eq_true] at hm ⊢
      refine ⟨⟨⟨hm.1.1.1, ?_⟩, hm.1.2⟩, hm.2⟩
      by_cases e : x.d = b.d
      · rw [h2 (by rw [← e]; exact hB)]; exact hm.1.1.2
      · rcases orderB_iff.1 hm.1.1.2 with ⟨e1, -⟩ | ⟨e1, e2⟩
        · exact absurd e1.symm (fun e3 => e e3.symm)
        · exact orderB_iff.2 (.inr ⟨by omega, e2⟩)
    · rw [List.filter_cons_of_neg (by simpa using hB)]
      exact less_right (b := x) (by omega) (fun h3 => absurd h3 hB) h.2
theorem less_numbers (B : Int → Bool) (xs : List Iss) : numbersL (lessL B xs) = (numbersL xs).filter B := by
  unfold numbersL lessL
  rw [List.filter_map, List.filter_filter, List.filter_filter]
  congr 1
  refine List.filter_congr fun x _ => ?_
  rw [Bool.and_comm]
  rfl
theorem less_mem {B : Int → Bool} {xs : List Iss} {x : Iss} : x ∈ lessL B xs ↔ x ∈ xs ∧ B x.d = true := by
  unfold lessL; rw [List.mem_filter]
/-- Whatever is needed by what is in is in. -/
def Closed (B : Int → Bool) (xs : List Iss) : Prop := ∀ x ∈ xs, B x.d = true → ∀ it ∈ x.items, B it.1 = true
theorem less_depF {B : Int → Bool} {xs : List Iss} (hc : Closed B xs) : ∀ (k : Nat) (y : Int), B y = true → depF (lessL B xs) k y = depF xs k y
  | 0, _, _ => rfl
  | k + 1, y, hy => by
    have h : ∀ v, depF (lessL B xs) (k + 1) y ≤ v ↔ depF xs (k + 1) y ≤ v := fun v => by
      rw [depF_le, depF_le]
      refine and_congr Iff.rfl ⟨fun h x hx e => ?_, fun h x hx e => ?_⟩
      · have hB : B x.d = true := by rw [e]; exact hy
        obtain ⟨h1, h2⟩ := h x (less_mem.2 ⟨hx, hB⟩) e
        exact ⟨h1, fun it hit => by rw [← less_depF hc k it.1 (hc x hx hB it hit)]; exact h2 it hit⟩
      · obtain ⟨hx1, hB⟩ := less_mem.1 hx
        obtain ⟨h1, h2⟩ := h x hx1 e
        exact ⟨h1, fun it hit => by rw [less_depF hc k it.1 (hc x hx1 hB it hit)]; exact h2 it hit⟩
    exact Int.le_antisymm ((h _).2 (Int.le_refl _)) ((h _).1 (Int.le_refl _))
/-- A drawing's chain goes through a drawing of each lesser depth. -/
theorem dpt_down {xs : List Iss} (h : layE xs = 0) {B : Int → Bool} (hc : Closed B xs) : ∀ (n : Nat) (y : Int), y ∈ numbersL xs → B y = true → dpt xs y = (n : Int) + 1 → ∀ v : Nat, v ≤ n → ∃ z ∈ numbersL xs, B z = true ∧ dpt xs z = (v : Int) + 1
  | 0, y, hy, hB, e, v, hv => ⟨y, hy, hB, by rw [e]; have : v = 0 := by omega
                                             subst this; rfl⟩
  | n + 1, y, hy, hB, e, v, hv => by
    by_cases e2 : v = n + 1
    · subst e2; exact ⟨y, hy, hB, e⟩
    · have hex : ∃ x ∈ xs, x.d = y ∧ ∃ it ∈ x.items, dpt xs it.1 = (n : Int) + 1 := by
        by_cases hn : ∃ x ∈ xs, x.d = y ∧ ∃ it ∈ x.items, (n : Int) + 1 ≤ dpt xs it.1
        · obtain ⟨x, hx, hxy, it, hit, h1⟩ := hn
          have h2 := (dpt_item h hx hit).1
          rw [hxy, e] at h2
          exact ⟨x, hx, hxy, it, hit, by push_cast at h2; omega⟩
        · have h3 := dpt_le h hy (v := (n : Int)) (by omega) (fun x hx hxy it hit => by
            by_cases h4 : dpt xs it.1 ≤ (n : Int)
            · exact h4
            · exact absurd ⟨x, hx, hxy, it, hit, by omega⟩ hn)
          rw [e] at h3
          push_cast at h3
          omega
      obtain ⟨x, hx, hxy, it, hit, h1⟩ := hex
      exact dpt_down h hc n it.1 (dpt_item h hx hit).2 (hc x hx (by rw [hxy]; exact hB) it hit) h1 v (by omega)
theorem nodup_le2 {α : Type} [DecidableEq α] : ∀ {a b : List α}, a.Nodup → (∀ z ∈ a, z ∈ b) → a.length ≤ b.length
  | [], _, _, _ => by simp
  | z :: r, b, h, hs => by
    have h1 := List.nodup_cons.1 h
    have h2 : ∀ y ∈ r, y ∈ b.erase z := fun y hy => (List.mem_erase_of_ne (by rintro rfl; exact h1.1 hy)).2 (hs y (List.mem_cons_of_mem _ hy))
    have h3 := nodup_le2 h1.2 h2
    have h4 := List.length_erase_of_mem (hs z (by simp))
    have h5 := List.length_pos_of_mem (hs z (by simp))
    rw [List.length_cons]
    omega
/-- No chain is longer than there are drawings that it may go through. -/
theorem dpt_count {xs : List Iss} (h : layE xs = 0) {B : Int → Bool} (hc : Closed B xs) {y : Int} (hy : y ∈ numbersL xs) (hB : B y = true) : dpt xs y ≤ (numbersL (lessL B xs)).length := by
  have hb := dpt_bd h hy
  obtain ⟨n, hn⟩ : ∃ n : Nat, dpt xs y = (n : Int) + 1 := ⟨(dpt xs y - 1).toNat, by omega⟩
  have hd := dpt_down h hc n y hy hB hn
  have hall : (List.range (n + 1)).length ≤ ((numbersL (lessL B xs)).map fun z => (dpt xs z - 1).toNat).length := by
    refine nodup_le2 List.nodup_range fun v hv => ?_
    rw [List.mem_range] at hv
    obtain ⟨z, hz, hzB, e⟩ := hd v (by omega)
    rw [List.mem_map]
    exact ⟨z, by rw [less_numbers]; exact List.mem_filter.2 ⟨hz, hzB⟩, by rw [e]; omega⟩
  rw [List.length_range, List.length_map] at hall
  omega
/-- The lesser register is one; its chains are as long. -/
theorem less_lay {xs : List Iss} (h : layE xs = 0) {B : Int → Bool} (hc : Closed B xs) (hne : ∃ y ∈ numbersL xs, B y = true) : layE (lessL B xs) = 0 ∧ ∀ y ∈ numbersL xs, B y = true → dpt (lessL B xs) y = dpt xs y := by
  obtain ⟨⟨l1, l2⟩, h2, h3, h4, -, -⟩ := layE_ok h
  have hr : rightB zeroI (lessL B xs) = true := less_right (Int.le_refl _) (fun _ => rfl) h2
  have hn := less_numbers B xs
  have hcm : completeB (lessL B xs) (numbersL (lessL B xs)) = true := by
    unfold completeB
    rw [List.all_eq_true]
    intro x hx
    rw [List.all_eq_true]
    intro it hit
    obtain ⟨hx1, hB⟩ := less_mem.1 hx
    rw [decide_eq_true_eq, hn]
    exact List.mem_filter.2 ⟨complete_mem h4 x hx1 it hit, hc x hx1 hB it hit⟩
  have hmem : ∀ y ∈ numbersL (lessL B xs), y ∈ numbersL xs ∧ B y = true := fun y hy => by
    rw [hn] at hy
    exact List.mem_filter.1 hy
  have hdp : ∀ y ∈ numbersL (lessL B xs), dpt (lessL B xs) y = dpt xs y := fun y hy => by
    obtain ⟨hy1, hB⟩ := hmem y hy
    have hb := dpt_bd h hy1
    have hct := dpt_count h hc hy1 hB
    have e := dep_same (right_shut hr hcm) hy (numbersL (lessL B xs)).length
    have hF := dpt_F h hy1
    -- the depth in the great register is reached by as many rounds as there are drawings here
    have hle : (numbersL (lessL B xs)).length ≤ (numbersL xs).length := by rw [hn]; exact List.length_filter_le _ _
    have hst : depF xs ((numbersL (lessL B xs)).length + 1) y = dpt xs y := by
      refine Int.le_antisymm ?_ ?_
      · rw [← hF]; exact depF_monos (by omega) y
      · by_cases h5 : dpt xs y ≤ depF xs ((numbersL (lessL B xs)).length + 1) y
        · exact h5
        · obtain ⟨v, hv⟩ : ∃ v : Nat, dpt xs y = (v : Int) + 1 := ⟨(dpt xs y - 1).toNat, by omega⟩
          have h6 := depF_monos (xs := xs) (k := v + 1) (m := (numbersL (lessL B xs)).length + 1) (by omega) y
          have h7 := depF_stable (xs := xs) v y (by omega) ((numbersL xs).length + 1)
          rw [hF] at h7
          omega
    rw [less_depF hc _ y hB, hst] at e
    unfold dpt at e ⊢
    split at e
    · rename_i h0
      have : (numbersL (lessL B xs)).length + 1 ≤ (numbersL (lessL B xs)).length := by
        have h9 : dpt xs y = ((numbersL (lessL B xs)).length : Int) + 1 := e
        omega
      omega
    · exact e.symm
  have hch : ∀ z ∈ chainsL (lessL B xs) (numbersL (lessL B xs)), 1 ≤ z ∧ z ≤ 6 := fun z hz => by
    obtain ⟨y, hy, rfl⟩ := List.mem_map.1 hz
    have h5 := hdp y hy
    unfold dpt at h5
    rw [h5]
    exact dpt_bd h (hmem y hy).1
  refine ⟨?_, fun y hy hB => hdp y (by rw [hn]; exact List.mem_filter.2 ⟨hy, hB⟩)⟩
  obtain ⟨y0, hy0, hB0⟩ := hne
  have hpos : 0 < (lessL B xs).length := by
    refine List.length_pos_iff.2 fun e => ?_
    have h5 : y0 ∈ numbersL (lessL B xs) := by rw [hn]; exact List.mem_filter.2 ⟨hy0, hB0⟩
    rw [e] at h5
    exact absurd h5 (by simp [numbersL])
  have hlen : (lessL B xs).length ≤ xs.length := List.length_filter_le _ _
  have hnl : (numbersL (lessL B xs)).length ≤ (numbersL xs).length := by rw [hn]; exact List.length_filter_le _ _
  have hb1 : inB 1 60 (lessL B xs).length = true := by unfold inB; rw [decide_eq_true_eq]; omega
  have hcl : 0 < (chainsL (lessL B xs) (numbersL (lessL B xs))).length := by
    unfold chainsL
    rw [List.length_map]
    exact List.length_pos_of_mem (a := y0) (by rw [hn]; exact List.mem_filter.2 ⟨hy0, hB0⟩)
  unfold layE
  rw [if_neg (by rw [hb1, hr]; simp), if_neg (by rw [hcm, decide_eq_true (by omega)]; simp), if_neg (fun h5 => by have := (hch _ h5).1; omega), if_neg (by have := (maxL_le hcl).2 (fun x hx => (hch x hx).2); omega)]
/-- The letters of what is in. -/
def ownL (B : Int → Bool) : List Int → List Int → List Int
  | z :: r, l :: s => if B z = true then l :: ownL B r s else ownL B r s
  | _, _ => []
theorem own_len {B : Int → Bool} : ∀ {zs ls : List Int}, ls.length = zs.length → (ownL B zs ls).length = (zs.filter B).length
  | [], _, _ => by simp [ownL]
  | z :: r, [], h => by simp at h
  | z :: r, l :: s, h => by
    have ih := own_len (B := B) (zs := r) (ls := s) (by simpa using h)
    rw [ownL]
    by_cases hB : B z = true
    · rw [if_pos hB, List.filter_cons_of_pos hB, List.length_cons, List.length_cons, ih]
    · rw [if_neg hB, List.filter_cons_of_neg hB, ih]
theorem own_let {B : Int → Bool} {z : Int} (hB : B z = true) : ∀ {zs ls : List Int}, ls.length = zs.length → z ∈ zs → (ownL B zs ls).getD (idxL (zs.filter B) z).toNat 0 = ls.getD (idxL zs z).toNat 0
  | [], _, _, hz => by simp at hz
  | x :: r, [], h, _ => by simp at h
  | x :: r, l :: s, h, hz => by
    rw [ownL]
    by_cases e : x = z
    · subst e
      rw [if_pos hB, List.filter_cons_of_pos hB, idxL, if_pos rfl, idxL, if_pos rfl]
      rfl
    · have hz2 : z ∈ r := (List.mem_cons.1 hz).resolve_left fun e2 => e e2.symm
      have ih := own_let hB (zs := r) (ls := s) (by simpa using h) hz2
      have g1 := idxL_mem.2 hz2
      have e1 : (idxL (x :: r) z).toNat = (idxL r z).toNat + 1 := by rw [idxL, if_neg e, if_neg (by omega)]; omega
      rw [e1, List.getD_cons_succ, ← ih]
      by_cases hx : B x = true
      · have g2 : 0 ≤ idxL (r.filter B) z := idxL_mem.2 (List.mem_filter.2 ⟨hz2, hB⟩)
        have e2 : (idxL (x :: r.filter B) z).toNat = (idxL (r.filter B) z).toNat + 1 := by rw [idxL, if_neg e, if_neg (by omega)]; omega
        rw [if_pos hx, List.filter_cons_of_pos hx, e2, List.getD_cons_succ]
      · rw [if_neg hx, List.filter_cons_of_neg hx]
theorem own_all {B : Int → Bool} {xs ys : List Iss} (h : ∀ z l, B z = true → hasN xs z l = true → hasN ys z l = true) : ∀ {zs ls : List Int}, (List.zipWith (hasN xs) zs ls).all id = true → (List.zipWith (hasN ys) (zs.filter B) (ownL B zs ls)).all id = true
  | [], _, _ => by simp
  | x :: r, [], _ => by simp [ownL]
  | x :: r, l :: s, h1 => by
    rw [List.zipWith_cons_cons, List.all_cons, Bool.and_eq_true] at h1
    have ih := own_all h h1.2
    rw [ownL]
    by_cases hx : B x = true
    · rw [if_pos hx, List.filter_cons_of_pos hx, List.zipWith_cons_cons, List.all_cons, Bool.and_eq_true]
      exact ⟨h x l hx h1.1, ih⟩
    · rw [if_neg hx, List.filter_cons_of_neg hx]; exact ih
theorem own_letters {B : Int → Bool} {xs : List Iss} {ls : List Int} (hl : lettersB xs (numbersL xs) ls = true) : lettersB (lessL B xs) (numbersL (lessL B xs)) (ownL B (numbersL xs) ls) = true := by
  unfold lettersB at hl ⊢
  rw [Bool.and_eq_true, decide_eq_true_eq] at hl
  rw [less_numbers, Bool.and_eq_true, decide_eq_true_eq]
  refine ⟨own_len hl.1, own_all (fun z l hB h => ?_) hl.2⟩
  obtain ⟨x, hx, e1, e2⟩ := hasN_iff.1 h
  exact hasN_iff.2 ⟨x, less_mem.2 ⟨hx, by rw [e1]; exact hB⟩, e1, e2⟩
theorem getD_has {xs : List Iss} {d l : Int} (h : hasN xs d l = true) : xs.getD (idxN xs d l) zeroI ∈ xs ∧ (xs.getD (idxN xs d l) zeroI).d = d ∧ (xs.getD (idxN xs d l) zeroI).l = l := by
  have hlt : idxN xs d l < xs.length := by unfold hasN at h; exact of_decide_eq_true h
  have e : xs.getD (idxN xs d l) zeroI = xs[idxN xs d l] := by simp [List.getD_eq_getElem?_getD, hlt]
  rw [e]
  exact ⟨List.getElem_mem hlt, idxN_at hlt⟩
/-- The issue that is taken of a drawing is the same. -/
theorem less_q {xs : List Iss} (h : layE xs = 0) {B : Int → Bool} {ls : List Int} (hl : lettersB xs (numbersL xs) ls = true) {z : Int} (hz : z ∈ numbersL xs) (hB : B z = true) :
    (lessL B xs).getD (qOf (lessL B xs) (numbersL (lessL B xs)) (ownL B (numbersL xs) ls) z) zeroI = xs.getD (qOf xs (numbersL xs) ls z) zeroI := by
  have hll := (lettersB_iff.1 hl).1
  obtain ⟨p, hp0, ⟨hp, e1⟩, e2⟩ := idx_spec hz
  have hh : hasN xs z (ls.getD (idxL (numbersL xs) z).toNat 0) = true := by
    have h3 := (lettersB_iff.1 hl).2 p hp (by omega)
    rw [e1] at h3
    rw [e2, Int.toNat_natCast, List.getD_eq_getElem?_getD, List.getElem?_eq_getElem (by omega : p < ls.length)]
    exact h3
  unfold qOf
  rw [less_numbers, own_let hB hll hz]
  have h4 : hasN (lessL B xs) z (ls.getD (idxL (numbersL xs) z).toNat 0) = true := by
    obtain ⟨x, hx, e3, e4⟩ := hasN_iff.1 hh
    exact hasN_iff.2 ⟨x, less_mem.2 ⟨hx, by rw [e3]; exact hB⟩, e3, e4⟩
  have g1 := getD_has hh
  have g2 := getD_has h4
  exact issue_one h (less_mem.1 g2.1).1 g1.1 (by rw [g2.2.1, g1.2.1]) (by rw [g2.2.2, g1.2.2])
section
variable {xs ys : List Iss} {zs : List Int} {q q' rk : Int → Nat} {B : Int → Bool}
theorem tree_less (K : Kit xs zs q rk) (hq : ∀ z ∈ zs, B z = true → ys.getD (q' z) zeroI = xs.getD (q z) zeroI) (hc : ∀ z ∈ zs, B z = true → ∀ it ∈ (xs.getD (q z) zeroI).items, B it.1 = true) : ∀ (k : Nat) (z : Int), z ∈ zs → B z = true → ∀ dep c, treeL ys q' k dep z c = treeL xs q k dep z c
  | 0, _, _, _, _, _ => rfl
  | k + 1, z, hz, hB, dep, c => by
    rw [treeL, treeL, hq z hz hB]
    congr 1
    exact flat_congr fun it hit => tree_less K hq hc k it.1 ((K.itm hz).2.2 it hit).1.1 (hc z hz hB it hit) _ _
theorem adds_less (K : Kit xs zs q rk) (hq : ∀ z ∈ zs, B z = true → ys.getD (q' z) zeroI = xs.getD (q z) zeroI) (hc : ∀ z ∈ zs, B z = true → ∀ it ∈ (xs.getD (q z) zeroI).items, B it.1 = true) : ∀ (k : Nat) (z : Int), z ∈ zs → B z = true → ∀ c, addsL ys q' k z c = addsL xs q k z c
  | 0, _, _, _, _ => rfl
  | k + 1, z, hz, hB, c => by
    rw [addsL, addsL, hq z hz hB]
    congr 1
    exact flat_congr fun it hit => adds_less K hq hc k it.1 ((K.itm hz).2.2 it hit).1.1 (hc z hz hB it hit) _
theorem adds_B (K : Kit xs zs q rk) (hc : ∀ z ∈ zs, B z = true → ∀ it ∈ (xs.getD (q z) zeroI).items, B it.1 = true) : ∀ (k : Nat) (z : Int), z ∈ zs → B z = true → ∀ c, ∀ p ∈ addsL xs q k z c, B p.1 = true
  | 0, _, _, _, _, p, hp => by cases hp
  | k + 1, z, hz, hB, c, p, hp => by
    rw [addsL, List.mem_append] at hp
    rcases hp with hp | hp
    · split at hp
      · cases hp
      · rw [List.mem_singleton] at hp; subst hp; exact hB
    · obtain ⟨it, hit, hp⟩ := List.mem_flatMap.1 hp
      exact adds_B K hc k it.1 ((K.itm hz).2.2 it hit).1.1 (hc z hz hB it hit) _ p hp
end
theorem sumL_none {y : Int} : ∀ {l : List (Int × Int)}, (∀ p ∈ l, p.1 ≠ y) → sumL l y = 0
  | [], _ => rfl
  | p :: r, h => by
    have ih := sumL_none (y := y) (l := r) (fun p hp => h p (List.mem_cons_of_mem _ hp))
    have h1 := h p (by simp)
    unfold sumL at ih ⊢
    rw [List.map_cons, List.sum_cons, if_neg h1, ih]; rfl
/-- What is not needed does not matter: parts, tree and depth are the same, and what is left is a register. -/
theorem less_told {xs : List Iss} (h : layE xs = 0) {B : Int → Bool} (hc : Closed B xs) {ls : List Int} (hl : lettersB xs (numbersL xs) ls = true) {d : Int} (hd : d ∈ numbersL xs) (hB : B d = true) :
    layE (lessL B xs) = 0 ∧ d ∈ numbersL (lessL B xs) ∧ lettersB (lessL B xs) (numbersL (lessL B xs)) (ownL B (numbersL xs) ls) = true ∧ dpt (lessL B xs) d = dpt xs d ∧
    askE (lessL B xs) (ownL B (numbersL xs) ls) d = 0 ∧ explL (lessL B xs) (ownL B (numbersL xs) ls) d = explL xs ls d ∧ treeE (lessL B xs) (ownL B (numbersL xs) ls) d = treeE xs ls d := by
  obtain ⟨hy, hdp⟩ := less_lay h hc ⟨d, hd, hB⟩
  have hd2 : d ∈ numbersL (lessL B xs) := by rw [less_numbers]; exact List.mem_filter.2 ⟨hd, hB⟩
  have hl2 := own_letters (B := B) hl
  have K := kit_of h hl
  have ha := ask_ok h hl hd
  have ha2 := ask_ok hy hl2 hd2
  have hq : ∀ z ∈ numbersL xs, B z = true → (lessL B xs).getD (qOf (lessL B xs) (numbersL (lessL B xs)) (ownL B (numbersL xs) ls) z) zeroI = xs.getD (qOf xs (numbersL xs) ls z) zeroI := fun z hz h3 => less_q h hl hz h3
  have hcq : ∀ z ∈ numbersL xs, B z = true → ∀ it ∈ (xs.getD (qOf xs (numbersL xs) ls z) zeroI).items, B it.1 = true := fun z hz h3 it hit => by
    have hlt := K.lt z hz
    have hg : xs.getD (qOf xs (numbersL xs) ls z) zeroI = xs[qOf xs (numbersL xs) ls z] := by simp [List.getD_eq_getElem?_getD, hlt]
    rw [hg] at hit
    exact hc _ (List.getElem_mem hlt) (by rw [K.d_ z hz hlt]; exact h3) it hit
  refine ⟨hy, hd2, hl2, hdp d hd hB, ha2, ?_, ?_⟩
  · unfold explL partsL
    rw [if_pos ha, if_pos ha2, adds_less K hq hcq 6 d hd hB 1]
    congr 1
    rw [less_numbers, List.filter_filter]
    refine List.filter_congr fun z hz => ?_
    by_cases h3 : B z = true
    · rw [h3, Bool.and_true]
    · have e : sumL (addsL xs (qOf xs (numbersL xs) ls) 6 d 1) z = 0 := sumL_none fun p hp e => h3 (by rw [← e]; exact adds_B K hcq 6 d hd hB 1 p hp)
      rw [e]; rfl
  · unfold treeE
    rw [ha, ha2, tree_less K hq hcq 6 d hd hB 0 1]
/-- What is below a drawing, round by round. -/
def lowI (c : Int) (S : Int → Bool) (it : Int × Int) : Int → Bool := fun y => if y = it.1 then S y || S c else S y
def lowX (S : Int → Bool) (x : Iss) : Int → Bool := x.items.foldl (lowI x.d) S
def lowR (xs : List Iss) (S : Int → Bool) : Int → Bool := xs.foldl lowX S
def lowK (xs : List Iss) (d : Int) : Nat → Int → Bool
  | 0 => fun y => decide (y = d)
  | k + 1 => lowR xs (lowK xs d k)
theorem lowI_mono {c : Int} {S : Int → Bool} {it : Int × Int} {y : Int} (h : S y = true) : lowI c S it y = true := by
  unfold lowI; rw [h]; simp
theorem lowL_mono {c : Int} {y : Int} : ∀ {l : List (Int × Int)} {S : Int → Bool}, S y = true → l.foldl (lowI c) S y = true
  | [], _, h => h
  | it :: r, S, h => by rw [List.foldl_cons]; exact lowL_mono (lowI_mono h)
theorem lowL_push {c : Int} : ∀ {l : List (Int × Int)} {S : Int → Bool}, S c = true → ∀ it ∈ l, l.foldl (lowI c) S it.1 = true
  | [], _, _, it, hit => by cases hit
  | a :: r, S, h, it, hit => by
    rw [List.foldl_cons]
    rcases List.mem_cons.1 hit with e | e
    · subst e
      exact lowL_mono (by unfold lowI; rw [if_pos rfl, h, Bool.or_true])
    · exact lowL_push (lowI_mono h) it e
theorem lowL_from {c y : Int} : ∀ {l : List (Int × Int)} {S : Int → Bool}, l.foldl (lowI c) S y = true → S y = true ∨ (∃ it ∈ l, it.1 = y) ∧ l.foldl (lowI c) S c = true
  | [], _, h => .inl h
  | a :: r, S, h => by
    rw [List.foldl_cons] at h ⊢
    rcases lowL_from h with h1 | ⟨⟨it, hit, e⟩, h2⟩
    · unfold lowI at h1
      by_cases e : y = a.1
      · rw [if_pos e, Bool.or_eq_true] at h1
        exact h1.imp id fun h2 => ⟨⟨a, by simp, e.symm⟩, lowL_mono (lowI_mono h2)⟩
      · rw [if_neg e] at h1; exact .inl h1
    · exact .inr ⟨⟨it, List.mem_cons_of_mem _ hit, e⟩, h2⟩
theorem lowR_mono {y : Int} : ∀ {xs : List Iss} {S : Int → Bool}, S y = true → lowR xs S y = true
  | [], _, h => h
  | x :: r, S, h => by unfold lowR; rw [List.foldl_cons]; exact lowR_mono (xs := r) (lowL_mono h)
theorem lowR_push : ∀ {xs : List Iss} {S : Int → Bool}, ∀ x ∈ xs, S x.d = true → ∀ it ∈ x.items, lowR xs S it.1 = true
  | [], _, x, hx, _, _, _ => by cases hx
  | a :: r, S, x, hx, h, it, hit => by
    unfold lowR
    rw [List.foldl_cons]
    rcases List.mem_cons.1 hx with e | e
    · subst e; exact lowR_mono (xs := r) (lowL_push h it hit)
    · exact lowR_push (xs := r) x e (lowL_mono h) it hit
theorem lowR_from {y : Int} : ∀ {xs : List Iss} {S : Int → Bool}, lowR xs S y = true → S y = true ∨ ∃ x ∈ xs, (∃ it ∈ x.items, it.1 = y) ∧ lowR xs S x.d = true
  | [], _, h => .inl h
  | a :: r, S, h => by
    unfold lowR at h ⊢
    rw [List.foldl_cons] at h ⊢
    rcases lowR_from (xs := r) h with h1 | ⟨x, hx, h2, h3⟩
    · rcases lowL_from h1 with h2 | ⟨h2, h3⟩
      · exact .inl h2
      · exact .inr ⟨a, by simp, h2, lowR_mono (xs := r) h3⟩
    · exact .inr ⟨x, List.mem_cons_of_mem _ hx, h2, h3⟩
theorem lowK_mono {xs : List Iss} {d : Int} {k m : Nat} (hkm : k ≤ m) {y : Int} (h : lowK xs d k y = true) : lowK xs d m y = true := by
  induction m with
  | zero => rw [show k = 0 by omega] at h; exact h
  | succ m ih =>
    by_cases e : k = m + 1
    · subst e; exact h
    · exact lowR_mono (ih (by omega))
theorem lowK_from {xs : List Iss} {d : Int} {y : Int} : ∀ {k : Nat}, lowK xs d k y = true → y = d ∨ ∃ x ∈ xs, (∃ it ∈ x.items, it.1 = y) ∧ lowK xs d k x.d = true
  | 0, h => .inl (of_decide_eq_true h)
  | k + 1, h => by
    rcases lowR_from h with h1 | h1
    · exact (lowK_from h1).imp id fun ⟨x, hx, h2, h3⟩ => ⟨x, hx, h2, lowR_mono h3⟩
    · exact .inr h1
/-- What is in after some rounds is in after as many as the chain above it needs. -/
theorem lowK_soon {xs : List Iss} (h : layE xs = 0) {d : Int} (hd : d ∈ numbersL xs) {m : Nat} : ∀ (n : Nat) (y : Int), y ∈ numbersL xs → lowK xs d m y = true → 6 - dpt xs y ≤ n → dpt xs y ≤ dpt xs d ∧ lowK xs d (dpt xs d - dpt xs y).toNat y = true
  | n, y, hy, hk, hn => by
    rcases lowK_from hk with e | ⟨x, hx, ⟨it, hit, e⟩, h2⟩
    · subst e
      refine ⟨Int.le_refl _, lowK_mono (Nat.zero_le _) (k := 0) (by simp [lowK])⟩
    · have hi := (dpt_item h hx hit).1
      rw [e] at hi
      have hxn : x.d ∈ numbersL xs := numbers_has (layE_ok h).2.1 x hx
      have hb := dpt_bd h hxn
      obtain ⟨n', rfl⟩ : ∃ n', n = n' + 1 := ⟨n - 1, by omega⟩
      obtain ⟨h3, h4⟩ := lowK_soon h hd n' x.d hxn h2 (by omega)
      refine ⟨by omega, lowK_mono (k := (dpt xs d - dpt xs x.d).toNat + 1) (by omega) ?_⟩
      rw [← e]
      exact lowR_push x hx h4 it hit
  termination_by n => n
/-- After six rounds whatever is needed by what is in is in. -/
theorem low_closed {xs : List Iss} (h : layE xs = 0) {d : Int} (hd : d ∈ numbersL xs) : Closed (lowK xs d 6) xs ∧ lowK xs d 6 d = true := by
  refine ⟨fun x hx hB it hit => ?_, lowK_mono (k := 0) (by omega) (by simp [lowK])⟩
  have hxn : x.d ∈ numbersL xs := numbers_has (layE_ok h).2.1 x hx
  have hb := dpt_bd h hxn
  have hb2 := dpt_bd h hd
  obtain ⟨h3, h4⟩ := lowK_soon h hd 5 x.d hxn hB (by omega)
  have h5 : lowK xs d 5 x.d = true := lowK_mono (by omega) h4
  exact lowR_push x hx h5 it hit
end Go.Proofs.Ytmhlbdighceogaa
