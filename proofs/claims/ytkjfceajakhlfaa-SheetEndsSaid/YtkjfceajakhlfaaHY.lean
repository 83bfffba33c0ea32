/- HD: SheetDeep's mathematics: how long the longest chain of a drawing is. HM: What another letter of a drawing changes. HQ: The package's calls over a register that is valid, with what they return as slices. -/
import Derived.Test.YtkjfceajakhlfaaLJ
import Derived.Test.YtkjfceajakhlfaaUM
import Derived.Test.YtkjfceajakhlfaaLH
import Derived.Test.YtkjfceajakhlfaaHX
import Derived.Test.YtkjfceajakhlfaaLI
import Derived.Test.YtkjfceajakhlfaaUB
namespace Go.Proofs.Ytkjfceajakhlfaa
set_option linter.unusedVariables false
set_option linter.unusedSimpArgs false
section
open Go.RowKit

/-- How many drawings the longest chain of a drawing has. -/
def dpt (xs : List Iss) (d : Int) : Int := depW xs (numbersL xs) (numbersL xs).length d
theorem dpt_bd {xs : List Iss} (h : layE xs = 0) {d : Int} (hd : d ∈ numbersL xs) : 1 ≤ dpt xs d ∧ dpt xs d ≤ 6 := by
  obtain ⟨-, h2, -, h4, h5, h6⟩ := layE_ok h
  have hm : depW xs (numbersL xs) (numbersL xs).length d ∈ chainsL xs (numbersL xs) := List.mem_map.2 ⟨d, hd, rfl⟩
  have h0 : depW xs (numbersL xs) (numbersL xs).length d ≠ 0 := fun e => h5 (e ▸ hm)
  have h9 := depW_le (xs := xs) hd (numbersL xs).length
  have h10 := (maxL_le (List.length_pos_of_mem hm)).1 h6 _ hm
  unfold dpt
  omega
theorem dpt_F {xs : List Iss} (h : layE xs = 0) {d : Int} (hd : d ∈ numbersL xs) : depF xs ((numbersL xs).length + 1) d = dpt xs d := by
  obtain ⟨-, h2, -, h4, -, -⟩ := layE_ok h
  have := dpt_bd h hd
  have e := dep_same (right_shut h2 h4) hd (numbersL xs).length
  unfold dpt at this ⊢
  rw [if_neg (by omega)] at e
  exact e
theorem dpt_le {xs : List Iss} (h : layE xs = 0) {d v : Int} (hd : d ∈ numbersL xs) (hv : 0 ≤ v) (hall : ∀ x ∈ xs, x.d = d → ∀ it ∈ x.items, dpt xs it.1 ≤ v) : dpt xs d ≤ v + 1 := by
  obtain ⟨-, h2, -, h4, -, -⟩ := layE_ok h
  rw [← dpt_F h hd, depF_le]
  refine ⟨by omega, fun x hx e => ⟨by omega, fun it hit => ?_⟩⟩
  have h1 := hall x hx e it hit
  rw [← dpt_F h (complete_mem h4 x hx it hit)] at h1
  have h3 := depF_mono (xs := xs) (numbersL xs).length it.1
  omega
theorem dpt_item {xs : List Iss} (h : layE xs = 0) {x : Iss} (hx : x ∈ xs) {it : Int × Int} (hit : it ∈ x.items) : dpt xs it.1 + 1 ≤ dpt xs x.d ∧ it.1 ∈ numbersL xs := by
  obtain ⟨-, h2, -, h4, -, -⟩ := layE_ok h
  exact ⟨dep_item h hx hit, complete_mem h4 x hx it hit⟩
theorem depth_ok {xs : List Iss} (h : layE xs = 0) {d : Int} (hd : d ∈ numbersL xs) : depthE xs d = (dpt xs d, 0) := by
  unfold depthE
  rw [if_neg (by simpa using h), if_pos hd]
  rfl
theorem rk_dpt {xs : List Iss} (d : Int) : rkOf xs d = (dpt xs d).toNat := rfl
theorem above_deeper {xs : List Iss} {ls : List Int} {d u : Int} (h : layE xs = 0) (hl : lettersB xs (numbersL xs) ls = true) (hd : d ∈ numbersL xs) (hu : u ∈ (aboveE xs ls d).1) : u ∈ numbersL xs ∧ dpt xs d < dpt xs u := by
  unfold aboveE at hu
  split at hu
  · cases hu
  · obtain ⟨h1, h2⟩ := List.mem_filter.1 hu
    have h3 := abv_rank (kit_of h hl) 6 u h1 h2
    have h4 := dpt_bd h hd
    have h5 := dpt_bd h h1
    rw [rk_dpt, rk_dpt] at h3
    exact ⟨h1, by omega⟩
theorem above_fine {xs : List Iss} {ls : List Int} {d : Int} (h : layE xs = 0) (hl : lettersB xs (numbersL xs) ls = true) (hd : d ∈ numbersL xs) : (aboveE xs ls d).2 = 0 ∧ d ∉ (aboveE xs ls d).1 := by
  refine ⟨?_, fun hu => ?_⟩
  · unfold aboveE
    rw [if_neg (by rw [askE, if_neg (by simpa using h), if_neg (by simp [hl]), if_pos hd]; simp)]
  · have := (above_deeper h hl hd hu).2
    omega
theorem tree_depth {xs : List Iss} {zs : List Int} {q rk : Int → Nat} (K : Kit xs zs q rk) : ∀ (k : Nat) (z : Int), z ∈ zs → ∀ dep c, ∀ b ∈ treeL xs q k dep z c, dep ≤ b.1 ∧ b.1 < dep + rk z
  | 0, _, _, _, _, b, hb => by cases hb
  | k + 1, z, hz, dep, c, b, hb => by
    have hp := K.pos z hz
    rw [treeL] at hb
    rcases List.mem_cons.1 hb with rfl | hb
    · exact ⟨Int.le_refl _, by show dep < dep + (rk z : Int); omega⟩
    · obtain ⟨it, hit, hb2⟩ := List.mem_flatMap.1 hb
      obtain ⟨-, -, h3⟩ := K.itm hz
      have h4 := h3 it hit
      have := tree_depth K k it.1 h4.1.1 (dep + 1) it.2 b hb2
      omega
theorem tree_deep {xs : List Iss} {ls : List Int} {d : Int} (h : layE xs = 0) (hl : lettersB xs (numbersL xs) ls = true) (hd : d ∈ numbersL xs) : (∀ b ∈ (treeE xs ls d).1, b.1 < dpt xs d) ∧ ((treeE xs ls d).2 = 0 ∨ (treeE xs ls d).2 = 4) := by
  have K := kit_of h hl
  have hb := dpt_bd h hd
  have ha : askE xs ls d = 0 := by rw [askE, if_neg (by simpa using h), if_neg (by simp [hl]), if_pos hd]
  have e : treeE xs ls d = if 500 < (treeL xs (qOf xs (numbersL xs) ls) 6 0 d 1).length then ([], 4) else (treeL xs (qOf xs (numbersL xs) ls) 6 0 d 1, 0) := by
    unfold treeE
    rw [if_neg (by rw [ha]; simp)]
  rw [e]
  by_cases h5 : 500 < (treeL xs (qOf xs (numbersL xs) ls) 6 0 d 1).length
  · rw [if_pos h5]
    exact ⟨fun b hb => (by cases hb), .inr rfl⟩
  · rw [if_neg h5]
    refine ⟨fun b hbt => ?_, .inl rfl⟩
    have := (tree_depth K 6 d hd 0 1 b hbt).2
    rw [rk_dpt] at this
    omega
theorem last_ok {xs : List Iss} (h : layE xs = 0) {d : Int} (hd : d ∈ numbersL xs) : lastE xs d = (lastOfR d 0 xs, 0) := by
  obtain ⟨-, h2, -⟩ := layE_ok h
  have h1 := last_pos h hd
  unfold lastE
  rw [if_neg (by simpa using h), ← last_same h2, if_neg (by omega)]
theorem last_le {xs : List Iss} (h : layE xs = 0) {d : Int} (hd : d ∈ numbersL xs) : lastOfR d 0 xs ≤ 8 := by
  obtain ⟨-, h2, -⟩ := layE_ok h
  have h1 := last_pos h hd
  have h3 : hasN xs d (lastOfR d 0 xs) = true := by
    rw [letter_iff h2 (numbers_in h2 _ hd).1]; unfold inB; simp; omega
  obtain ⟨x, hx, -, e⟩ := hasN_iff.1 h3
  have := (namedB_iff.1 (right_named h2 x hx).1)
  omega
theorem above_sub {xs : List Iss} (ls : List Int) (d : Int) : (aboveE xs ls d).1.length ≤ (numbersL xs).length := by
  unfold aboveE
  split
  · simp
  · exact List.length_filter_le _ _
/-- The issue of a drawing with a letter that it has. -/
theorem at_has {xs : List Iss} (h : layE xs = 0) {d l : Int} (hd : d ∈ numbersL xs) (h1 : 1 ≤ l) (h2 : l ≤ lastOfR d 0 xs) {x : Iss} {ee : Int} (hq : AtQ xs d l x ee) : x ∈ xs ∧ x.d = d ∧ x.l = l ∧ ee = 0 := by
  obtain ⟨-, hr, -⟩ := layE_ok h
  have h3 : hasN xs d l = true := by
    rw [letter_iff hr (numbers_in hr _ hd).1]; unfold inB; simp; omega
  obtain ⟨y, hy, e1, e2⟩ := hasN_iff.1 h3
  rcases hq with ⟨a, -⟩ | ⟨-, b, -⟩ | ⟨-, k, b, -, c, e⟩
  · exact absurd h a
  · obtain ⟨j, hj, rfl⟩ := List.getElem_of_mem hy
    exact absurd ⟨e1, e2⟩ (b ⟨j, hj⟩)
  · subst c
    exact ⟨List.getElem_mem _, b.1, b.2, e⟩
theorem at_hasnt {xs : List Iss} (h : layE xs = 0) {d : Int} (hd : d ∈ numbersL xs) {x : Iss} {ee : Int} (hq : AtQ xs d (lastOfR d 0 xs + 1) x ee) : ee = 6 := by
  obtain ⟨-, hr, -⟩ := layE_ok h
  rcases hq with ⟨a, -⟩ | ⟨-, -, -, e⟩ | ⟨-, k, b, -, -, -⟩
  · exact absurd h a
  · exact e
  · have h3 : hasN xs d (lastOfR d 0 xs + 1) = true := hasN_iff.2 ⟨xs[k], List.getElem_mem _, b.1, b.2⟩
    rw [letter_iff hr (numbers_in hr _ hd).1] at h3
    unfold inB at h3
    simp at h3
    omega
/-- The greatest depth of the items of a drawing's issues. -/
theorem dpt_most {xs : List Iss} (h : layE xs = 0) {d m : Int} (hd : d ∈ numbersL xs) (h0 : 0 ≤ m) (hm : m = 0 ∨ ∃ x ∈ xs, x.d = d ∧ ∃ it ∈ x.items, m = dpt xs it.1) (hall : ∀ l, 1 ≤ l → l ≤ lastOfR d 0 xs → ∀ x ∈ xs, x.d = d → x.l = l → ∀ it ∈ x.items, dpt xs it.1 ≤ m) : dpt xs d = m + 1 := by
  obtain ⟨-, hr, -⟩ := layE_ok h
  have h1 := dpt_le h hd h0 (fun x hx e it hit => by
    have h3 : hasN xs d x.l = true := hasN_iff.2 ⟨x, hx, e, rfl⟩
    rw [letter_iff hr (numbers_in hr _ hd).1] at h3
    unfold inB at h3
    simp at h3
    exact hall x.l (by omega) (by omega) x hx e rfl it hit)
  rcases hm with rfl | ⟨x, hx, rfl, it, hit, rfl⟩
  · have := (dpt_bd h hd).1; omega
  · have := (dpt_item h hx hit).1; omega
end
section
open Go.RowKit

theorem flat_congr {α β : Type} {f g : α → List β} : ∀ {l : List α}, (∀ x ∈ l, f x = g x) → l.flatMap f = l.flatMap g
  | [], _ => rfl
  | x :: r, h => by rw [List.flatMap_cons, List.flatMap_cons, h x (by simp), flat_congr (fun y hy => h y (List.mem_cons_of_mem _ hy))]
theorem qOf_set {xs : List Iss} {zs ls : List Int} {d z v : Int} (hd : d ∈ zs) (hz : z ∈ zs) (hne : z ≠ d) : qOf xs zs (ls.set (idxL zs d).toNat v) z = qOf xs zs ls z := by
  obtain ⟨p, -, ⟨hp, e1⟩, e2⟩ := idx_spec hd
  obtain ⟨r, -, ⟨hr, e3⟩, e4⟩ := idx_spec hz
  have hpr : p ≠ r := by rintro rfl; exact hne (e3.symm.trans e1)
  unfold qOf
  rw [e2, e4]
  congr 1
  simp only [Int.toNat_natCast, List.getD_eq_getElem?_getD]
  rw [List.getElem?_set_ne hpr]
section
variable {xs : List Iss} {zs : List Int} {q q' rk : Int → Nat}
theorem abv_other (K : Kit xs zs q rk) {d : Int} (hq : ∀ z ∈ zs, z ≠ d → q' z = q z) : ∀ (k : Nat) (z : Int), z ∈ zs → abv xs q d k z = true → abv xs q' d k z = true
  | 0, _, _, h => by cases h
  | k + 1, z, hz, h => by
    have hne : z ≠ d := by
      rintro rfl
      have := abv_rank K (k + 1) z hz h
      omega
    obtain ⟨it, hit, h1⟩ := abv_iff.1 h
    refine abv_iff.2 ⟨it, by rw [hq z hz hne]; exact hit, h1.imp id (fun h5 => abv_other K hq k it.1 ((K.itm hz).2.2 it hit).1.1 h5)⟩
theorem tree_other (K : Kit xs zs q rk) {d : Int} (hq : ∀ z ∈ zs, z ≠ d → q' z = q z) : ∀ (k : Nat) (z : Int), z ∈ zs → z ≠ d → needA xs q d z = false → ∀ dep c, treeL xs q' k dep z c = treeL xs q k dep z c
  | 0, _, _, _, _, _, _ => rfl
  | k + 1, z, hz, hne, hn, dep, c => by
    rw [treeL, treeL, hq z hz hne]
    congr 1
    refine flat_congr fun it hit => ?_
    have h0 : ¬ (it.1 = d ∨ needA xs q d it.1 = true) := fun h => by
      have := (need_iff K hz).2 ⟨it, hit, h⟩
      rw [hn] at this; cases this
    exact tree_other K hq k it.1 ((K.itm hz).2.2 it hit).1.1 (fun e => h0 (.inl e)) (by rw [← Bool.not_eq_true]; exact fun e => h0 (.inr e)) _ _
theorem adds_other (K : Kit xs zs q rk) {d : Int} (hq : ∀ z ∈ zs, z ≠ d → q' z = q z) : ∀ (k : Nat) (z : Int), z ∈ zs → z ≠ d → needA xs q d z = false → ∀ c, addsL xs q' k z c = addsL xs q k z c
  | 0, _, _, _, _, _ => rfl
  | k + 1, z, hz, hne, hn, c => by
    rw [addsL, addsL, hq z hz hne]
    congr 1
    refine flat_congr fun it hit => ?_
    have h0 : ¬ (it.1 = d ∨ needA xs q d it.1 = true) := fun h => by
      have := (need_iff K hz).2 ⟨it, hit, h⟩
      rw [hn] at this; cases this
    exact adds_other K hq k it.1 ((K.itm hz).2.2 it hit).1.1 (fun e => h0 (.inl e)) (by rw [← Bool.not_eq_true]; exact fun e => h0 (.inr e)) _
end
theorem letter_above {xs : List Iss} {ls : List Int} {d v : Int} (h : layE xs = 0) (hl : lettersB xs (numbersL xs) ls = true) (hm : lettersB xs (numbersL xs) (ls.set (idxL (numbersL xs) d).toNat v) = true) (hd : d ∈ numbersL xs) :
    aboveE xs (ls.set (idxL (numbersL xs) d).toNat v) d = aboveE xs ls d ∧ d ∉ (aboveE xs ls d).1 ∧ (aboveE xs ls d).2 = 0 := by
  have K := kit_of h hl
  have K' := kit_of h hm
  have hq : ∀ z ∈ numbersL xs, z ≠ d → qOf xs (numbersL xs) (ls.set (idxL (numbersL xs) d).toNat v) z = qOf xs (numbersL xs) ls z := fun z hz hne => qOf_set hd hz hne
  unfold aboveE
  rw [ask_ok h hl hd, ask_ok h hm hd]
  simp only [ne_eq, not_true_eq_false, if_false]
  refine ⟨?_, ?_, trivial⟩
  · congr 1
    unfold overL
    refine List.filter_congr fun z hz => ?_
    rw [Bool.eq_iff_iff]
    exact ⟨abv_other K' (fun z hz hne => (hq z hz hne).symm) 6 z hz, abv_other K hq 6 z hz⟩
  · intro hh
    have := (List.mem_filter.1 hh).2
    rw [need_self K hd] at this
    cases this
theorem letter_parts {xs : List Iss} {ls : List Int} {d v x : Int} (h : layE xs = 0) (hl : lettersB xs (numbersL xs) ls = true) (hm : lettersB xs (numbersL xs) (ls.set (idxL (numbersL xs) d).toNat v) = true) (hd : d ∈ numbersL xs) (hx : x ∈ numbersL xs) (hne : x ≠ d) (hno : x ∉ (aboveE xs ls d).1) :
    explL xs (ls.set (idxL (numbersL xs) d).toNat v) x = explL xs ls x ∧ treeE xs (ls.set (idxL (numbersL xs) d).toNat v) x = treeE xs ls x := by
  have K := kit_of h hl
  have hq : ∀ z ∈ numbersL xs, z ≠ d → qOf xs (numbersL xs) (ls.set (idxL (numbersL xs) d).toNat v) z = qOf xs (numbersL xs) ls z := fun z hz hne => qOf_set hd hz hne
  have hn : needA xs (qOf xs (numbersL xs) ls) d x = false := by
    rw [← Bool.not_eq_true]
    intro hh
    apply hno
    unfold aboveE
    rw [if_neg (by rw [ask_ok h hl hd]; simp)]
    exact List.mem_filter.2 ⟨hx, hh⟩
  constructor
  · unfold explL
    rw [ask_ok h hl hx, ask_ok h hm hx, if_pos rfl, if_pos rfl]
    unfold partsL
    rw [adds_other K hq 6 x hx hne hn 1]
  · unfold treeE
    rw [ask_ok h hl hx, ask_ok h hm hx, tree_other K hq 6 x hx hne hn 0 1]
end
section
open Go.RowKit

theorem el_len (xs : List Iss) (ls : List Int) (d : Int) : (explL xs ls d).length ≤ 20 := by
  unfold explL
  split
  · rename_i h
    have := (layE_ok (askE_ok h).1).2.2.1
    unfold partsL
    rw [List.length_map]
    exact Nat.le_trans (List.length_filter_le _ _) this
  · simp
theorem tl_len (xs : List Iss) (ls : List Int) (d : Int) : (treeE xs ls d).1.length ≤ 500 := by
  unfold treeE
  split
  · simp
  · split
    · simp
    · simp only; omega
theorem above_s {vI vL : Value} {xs : List Iss} {ls : List Int} {d : Int} {u : List Int} {q : Int} {w : World} (h : RegAt w vI xs) (hL : IntsAt w vL ls) (hll : ls.length ≤ 1000) (he : aboveE xs ls d = (u, q)) :
    Calls Try.prog 40 #[.agg #[vI], vL, .int .i64 d] w fun e w' => ∃ A c, e = .returned (.tuple #[.slice A u.length c, .int .i64 q]) ∧ IntsAt w' (.slice A u.length c) u ∧ Below w.heap.size w w' := by
  have h2 := sAbove_any d h hL (by omega)
  rw [he] at h2
  refine h2.mono ?_
  rintro e w' ⟨v, rfl, hi, hb⟩
  obtain ⟨A, c, rfl⟩ := hi.slice
  exact ⟨A, c, rfl, hi, hb⟩
theorem expl_s {vI vL : Value} {xs : List Iss} {ls : List Int} {d : Int} {l : List (Int × Int)} {w : World} (h : RegAt w vI xs) (hL : IntsAt w vL ls) (hll : ls.length ≤ 1000) (ha : askE xs ls d = 0) (he : explL xs ls d = l) :
    Calls Try.prog 32 #[.agg #[vI], vL, .int .i64 d] w fun e w' => ∃ A c, e = .returned (.tuple #[.slice A l.length c, .int .i64 0]) ∧ ItemsAt w' (.slice A l.length c) l ∧ Below w.heap.size w w' := by
  have h2 := sExplode_any d h hL (by omega)
  rw [he, ha] at h2
  refine h2.mono ?_
  rintro e w' ⟨v, rfl, hi, hb⟩
  have hi2 := hi
  obtain ⟨A, c, b, off, rfl, -⟩ := hi2
  exact ⟨A, c, rfl, hi, hb⟩
theorem tree_s {vI vL : Value} {xs : List Iss} {ls : List Int} {d : Int} {l : List (Int × Int × Int × Int)} {q : Int} {w : World} (h : RegAt w vI xs) (hL : IntsAt w vL ls) (hll : ls.length ≤ 1000) (he : treeE xs ls d = (l, q)) :
    Calls Try.prog 34 #[.agg #[vI], vL, .int .i64 d] w fun e w' => ∃ A c, e = .returned (.tuple #[.slice A l.length c, .int .i64 q]) ∧ BranchesAt w' (.slice A l.length c) l ∧ Below w.heap.size w w' := by
  have h2 := sTree_any d h hL (by omega)
  rw [he] at h2
  refine h2.mono ?_
  rintro e w' ⟨v, rfl, hi, hb⟩
  obtain ⟨A, c, rfl⟩ := hi.slice
  exact ⟨A, c, rfl, hi, hb⟩
theorem own_mtN (u : World) (base k : Nat) (hk : k = u.heap.size) (hb : base ≤ k) : (u.alloc (.cells #[] 3)).ownsRow base 3 1 (.slice (some ⟨k, 0, none⟩) 0 0) 0 [] := by
  subst hk
  exact World.ownsRow_made (base := base) (e := 3) (size := 1) u #[] 0 hb (by decide) rfl
theorem news_row {w W : World} {l : List Int} {b off : Nat} (hc : ∀ i (h : i < l.length), w.cell? ⟨b, off + i, none⟩ = some (.int .i64 l[i])) (hb : Below w.heap.size w W) : ∀ j u, (cellsN l)[j]? = some u → W.cell? ((⟨b, off, none⟩ : Addr).add j) = some u := by
  intro j u hu
  obtain ⟨hj, he⟩ := List.getElem?_eq_some_iff.1 hu
  have hj2 : j < l.length := by simpa [cellsN] using hj
  have h2 := cell_keep hb (hc j hj2)
  have h3 : (⟨b, off, none⟩ : Addr).add j = ⟨b, off + j, none⟩ := by unfold Addr.add; split <;> simp_all
  rw [h3, h2, ← he]
  simp [cellsN]
theorem depth_s {vI : Value} {xs : List Iss} {d : Int} {w : World} (h : RegAt w vI xs) (h0 : layE xs = 0) (hd : d ∈ numbersL xs) : Calls Try.prog 28 #[.agg #[vI], .int .i64 d] w fun e w' => e = .returned (.tuple #[.int .i64 (dpt xs d), .int .i64 0]) ∧ Below w.heap.size w w' := by
  have h2 := sDepth_any d h
  rw [depth_ok h0 hd] at h2
  exact h2
theorem last_s {vI : Value} {xs : List Iss} {d : Int} {w : World} (h : RegAt w vI xs) (h0 : layE xs = 0) (hd : d ∈ numbersL xs) : Calls Try.prog 21 #[.agg #[vI], .int .i64 d] w fun e w' => e = .returned (.tuple #[.int .i64 (lastOfR d 0 xs), .int .i64 0]) ∧ Below w.heap.size w w' := by
  have h2 := sLast_any d h
  rw [last_ok h0 hd] at h2
  exact h2
/-- An issue that is there. -/
theorem at_s {vI : Value} {xs : List Iss} {d l : Int} {w : World} (h : RegAt w vI xs) (h0 : layE xs = 0) (hd : d ∈ numbersL xs) (h1 : 1 ≤ l) (h2 : l ≤ lastOfR d 0 xs) : Calls Try.prog 26 #[.agg #[vI], .agg #[.int .i64 d, .int .i64 l]] w fun e w' => ∃ x A3 c3 A4 c4, e = .returned (.tuple #[.agg #[.int .i64 d, .int .i64 l, .int .u8 x.k, .slice A3 x.items.length c3, .slice A4 x.dims.length c4], .int .i64 0]) ∧ ItemsAt w' (.slice A3 x.items.length c3) x.items ∧ DimsAt w' (.slice A4 x.dims.length c4) x.dims ∧ (x ∈ xs ∧ x.d = d ∧ x.l = l) ∧ Below w.heap.size w w' := by
  refine (sAt_any d l h).mono ?_
  intro e w' h3
  obtain ⟨y, x, ee, rfl, hy, haq, hb⟩ := at_yat h3 0 (Nat.zero_le _)
  obtain ⟨h4, rfl, rfl, rfl⟩ := at_has h0 hd h1 h2 haq
  obtain ⟨A3, c3, g3, A4, c4, g4, rfl, h5, h6, -, -⟩ := hy
  exact ⟨x, A3, c3, A4, c4, rfl, h5, h6, ⟨h4, rfl, rfl⟩, hb⟩
/-- An issue that is not there. -/
theorem at_none {vI : Value} {xs : List Iss} {d l : Int} {w : World} (h : RegAt w vI xs) (h0 : layE xs = 0) (hd : d ∈ numbersL xs) (hl : l = lastOfR d 0 xs + 1) : Calls Try.prog 26 #[.agg #[vI], .agg #[.int .i64 d, .int .i64 l]] w fun e w' => ∃ a b k A3 n3 c3 A4 n4 c4, e = .returned (.tuple #[.agg #[.int .i64 a, .int .i64 b, .int .u8 k, .slice A3 n3 c3, .slice A4 n4 c4], .int .i64 6]) ∧ Below w.heap.size w w' := by
  subst hl
  refine (sAt_any d _ h).mono ?_
  intro e w' h3
  obtain ⟨y, x, ee, rfl, hy, haq, hb⟩ := at_yat h3 0 (Nat.zero_le _)
  obtain rfl := at_hasnt h0 hd haq
  obtain ⟨A3, c3, g3, A4, c4, g4, rfl, -⟩ := hy
  exact ⟨_, _, _, _, _, _, _, _, _, rfl, hb⟩
end
end Go.Proofs.Ytkjfceajakhlfaa
