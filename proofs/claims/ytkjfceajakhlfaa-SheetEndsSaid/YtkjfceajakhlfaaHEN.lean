/- SheetEnds' mathematics: the ends of a tree, with the counts on the way to them, are the parts; what is below a branch. -/
import Derived.Test.YtkjfceajakhlfaaHY
import Derived.Test.YtkjfceajakhlfaaHI
namespace Go.Proofs.Ytkjfceajakhlfaa
set_option linter.unusedVariables false
set_option linter.unusedSimpArgs false
open Go.RowKit

abbrev Br := Int × Int × Int × Int
/-- The row of products, behind a branch. -/
def stepW (W : Int → Int) (b : Br) : Int → Int := fun e => if e = b.1 then (if 0 < b.1 then b.2.2.2 * W (b.1 - 1) else b.2.2.2) else W e
/-- The ends among branches, each with its product. -/
def endsF (I : Int → Bool) : (Int → Int) → List Br → List (Int × Int)
  | _, [] => []
  | W, b :: r => (if I b.2.1 = true then [(b.2.1, stepW W b b.1)] else []) ++ endsF I (stepW W b) r
theorem endsF_app (I : Int → Bool) : ∀ (a b : List Br) (W : Int → Int), endsF I W (a ++ b) = endsF I W a ++ endsF I (a.foldl stepW W) b
  | [], _, _ => rfl
  | x :: r, b, W => by rw [List.cons_append, endsF, endsF_app I r b, endsF, List.foldl_cons, List.append_assoc]
section
variable {xs : List Iss} {zs : List Int} {q rk : Int → Nat}
def endI (xs : List Iss) (q : Int → Nat) (z : Int) : Bool := (xs.getD (q z) zeroI).items.isEmpty
theorem ends_tree (K : Kit xs zs q rk) (hk : ∀ z ∈ zs, (xs.getD (q z) zeroI).k = 1 ↔ (xs.getD (q z) zeroI).items ≠ []) : ∀ (k : Nat) (z : Int), z ∈ zs → rk z ≤ k → ∀ (dep c : Int) (W : Int → Int), 0 ≤ dep →
    endsF (endI xs q) W (treeL xs q k dep z c) = addsL xs q k z (if 0 < dep then c * W (dep - 1) else c) ∧ ∀ e, e < dep → (treeL xs q k dep z c).foldl stepW W e = W e
  | 0, z, hz, h, _, _, _, _ => by have := K.pos z hz; omega
  | k + 1, z, hz, h, dep, c, W, hd => by
    have hzd : (xs.getD (q z) zeroI).d = z := by rw [K.get hz]; exact K.d_ z hz (K.lt z hz)
    have hit := (K.itm hz).2.2
    have hkz := hk z hz
    rw [treeL, addsL, hzd, List.foldl_cons, endsF]
    generalize hp : (if 0 < dep then c * W (dep - 1) else c) = p
    have hW1 : stepW W (dep, z, (xs.getD (q z) zeroI).l, c) dep = p := by
      unfold stepW
      simp only [if_true]
      exact hp
    have hW2 : ∀ e, e ≠ dep → stepW W (dep, z, (xs.getD (q z) zeroI).l, c) e = W e := fun e he => by
      unfold stepW
      simp only [if_neg he]
    generalize stepW W (dep, z, (xs.getD (q z) zeroI).l, c) = W1 at *
    have hrow : ∀ (il : List (Int × Int)), (∀ it ∈ il, it.1 ∈ zs ∧ rk it.1 ≤ k) → ∀ V : Int → Int, V dep = p →
        endsF (endI xs q) V (il.flatMap fun y => treeL xs q k (dep + 1) y.1 y.2) = (il.flatMap fun it => addsL xs q k it.1 (p * it.2)) ∧ ∀ e, e < dep + 1 → (il.flatMap fun y => treeL xs q k (dep + 1) y.1 y.2).foldl stepW V e = V e := by
      intro il
      induction il with
      | nil => intro _ V _; exact ⟨rfl, fun _ _ => rfl⟩
      | cons y r ih =>
        intro h1 V hV
        obtain ⟨h2, h3⟩ := h1 y (by simp)
        obtain ⟨e1, e2⟩ := ends_tree K hk k y.1 h2 h3 (dep + 1) y.2 V (by omega)
        rw [if_pos (by omega), show dep + 1 - 1 = dep by omega, hV, Int.mul_comm] at e1
        obtain ⟨e3, e4⟩ := ih (fun it hi => h1 it (List.mem_cons_of_mem _ hi)) ((treeL xs q k (dep + 1) y.1 y.2).foldl stepW V) (by rw [e2 dep (by omega)]; exact hV)
        rw [List.flatMap_cons, List.flatMap_cons, endsF_app, e1, e3]
        refine ⟨rfl, fun e he => ?_⟩
        rw [List.foldl_append, e4 e he, e2 e he]
    obtain ⟨e1, e2⟩ := hrow (xs.getD (q z) zeroI).items (fun it hi => ⟨(hit it hi).1.1, by have := (hit it hi).2; omega⟩) W1 hW1
    refine ⟨?_, fun e he => by rw [e2 e (by omega), hW2 e (by omega)]⟩
    rw [e1]
    congr 1
    simp only [hW1]
    unfold endI
    by_cases h0 : (xs.getD (q z) zeroI).items = []
    · rw [if_neg (fun h1 => hkz.1 h1 h0), h0]; rfl
    · rw [if_pos (hkz.2 h0)]
      have : (xs.getD (q z) zeroI).items.isEmpty = false := by rw [Bool.eq_false_iff]; intro h1; exact h0 (List.isEmpty_iff.1 h1)
      rw [this]; rfl
/-- The products are small. -/
theorem step_bd : ∀ {l : List Br} {W : Int → Int}, (∀ b ∈ l, 0 ≤ b.1 ∧ 1 ≤ b.2.2.2 ∧ b.2.2.2 ≤ 20) → (∀ e : Nat, 0 ≤ W e ∧ W e ≤ 20 ^ (e + 1)) → ∀ e : Nat, 0 ≤ l.foldl stepW W e ∧ l.foldl stepW W e ≤ 20 ^ (e + 1)
  | [], _, _, h, e => h e
  | b :: r, W, hb, h, e => by
    rw [List.foldl_cons]
    refine step_bd (fun c hc => hb c (List.mem_cons_of_mem _ hc)) (fun f => ?_) e
    obtain ⟨h1, h2, h3⟩ := hb b (by simp)
    unfold stepW
    by_cases hf : (f : Int) = b.1
    · rw [if_pos hf]
      by_cases h0 : 0 < b.1
      · rw [if_pos h0]
        obtain ⟨g, rfl⟩ : ∃ g, f = g + 1 := ⟨f - 1, by omega⟩
        have hg : b.1 - 1 = (g : Int) := by omega
        rw [hg]
        obtain ⟨h4, h5⟩ := h g
        refine ⟨Int.mul_nonneg (by omega) h4, ?_⟩
        have h6 : b.2.2.2 * W g ≤ 20 * 20 ^ (g + 1) := Int.mul_le_mul h3 h5 h4 (by omega)
        have h7 : (20 : Int) ^ (g + 1 + 1) = 20 * 20 ^ (g + 1) := by rw [Int.pow_succ, Int.mul_comm]
        omega
      · rw [if_neg h0]
        have h6 : (1 : Int) ≤ 20 ^ f := by have := Int.pow_pos (n := 20) (m := f) (by omega); omega
        have h7 : (20 : Int) ^ (f + 1) = 20 ^ f * 20 := Int.pow_succ 20 f
        omega
    · rw [if_neg hf]; exact h f
theorem pow_six {f : Nat} (h : f < 6) : (20 : Int) ^ (f + 1) ≤ 64000000 := by
  have h2 : f = 0 ∨ f = 1 ∨ f = 2 ∨ f = 3 ∨ f = 4 ∨ f = 5 := by omega
  rcases h2 with rfl | rfl | rfl | rfl | rfl | rfl <;> decide
/-- Each branch of a tree. -/
theorem tree_each (K : Kit xs zs q rk) : ∀ (k : Nat) (z : Int), z ∈ zs → ∀ (dep c : Int), 1 ≤ c ∧ c ≤ 20 → ∀ b ∈ treeL xs q k dep z c, (dep ≤ b.1 ∧ b.1 < dep + k) ∧ b.2.1 ∈ zs ∧ b.2.2.1 = (xs.getD (q b.2.1) zeroI).l ∧ 1 ≤ b.2.2.2 ∧ b.2.2.2 ≤ 20
  | 0, _, _, _, _, _, b, hb => by cases hb
  | k + 1, z, hz, dep, c, hc, b, hb => by
    have hzd : (xs.getD (q z) zeroI).d = z := by rw [K.get hz]; exact K.d_ z hz (K.lt z hz)
    rw [treeL, hzd] at hb
    rcases List.mem_cons.1 hb with rfl | hb
    · exact ⟨⟨Int.le_refl _, by push_cast; omega⟩, hz, rfl, hc⟩
    · obtain ⟨it, hit, hb2⟩ := List.mem_flatMap.1 hb
      have h4 := (K.itm hz).2.2 it hit
      obtain ⟨⟨h5, h6⟩, h7⟩ := tree_each K k it.1 h4.1.1 (dep + 1) it.2 h4.1.2 b hb2
      exact ⟨⟨by omega, by push_cast; omega⟩, h7⟩
/-- What follows a tree is no deeper. -/
def TailB (e : Int) (R : List Br) : Prop := ∀ b r, R = b :: r → b.1 ≤ e
/-- What is behind a branch: the trees of its items, and then what is no deeper. -/
def SplitB (xs : List Iss) (q rk : Int → Nat) (s : List Br) : Prop := ∀ b r, s = b :: r → ∃ (k : Nat) (R : List Br), r = (xs.getD (q b.2.1) zeroI).items.flatMap (fun y => treeL xs q k (b.1 + 1) y.1 y.2) ++ R ∧ TailB b.1 R ∧ ∀ it ∈ (xs.getD (q b.2.1) zeroI).items, rk it.1 ≤ k
theorem split_tree (K : Kit xs zs q rk) : ∀ (k : Nat) (z : Int), z ∈ zs → rk z ≤ k → ∀ (dep c : Int) (R : List Br), TailB dep R → (∀ s, s <:+ R → SplitB xs q rk s) → ∀ s, s <:+ (treeL xs q k dep z c ++ R) → SplitB xs q rk s
  | 0, z, hz, h, _, _, _, _, _ => by have := K.pos z hz; omega
  | k + 1, z, hz, h, dep, c, R, hT, hR => by
    have hzd : (xs.getD (q z) zeroI).d = z := by rw [K.get hz]; exact K.d_ z hz (K.lt z hz)
    have hit := (K.itm hz).2.2
    have hrow : ∀ (il : List (Int × Int)), (∀ it ∈ il, it.1 ∈ zs ∧ rk it.1 ≤ k) → TailB (dep + 1) ((il.flatMap fun y => treeL xs q k (dep + 1) y.1 y.2) ++ R) ∧ ∀ s, s <:+ ((il.flatMap fun y => treeL xs q k (dep + 1) y.1 y.2) ++ R) → SplitB xs q rk s := by
      intro il
      induction il with
      | nil => intro _; exact ⟨fun b r e => by have := hT b r e; omega, hR⟩
      | cons y r ih =>
        intro h1
        obtain ⟨h2, h3⟩ := h1 y (by simp)
        obtain ⟨e1, e2⟩ := ih (fun it hi => h1 it (List.mem_cons_of_mem _ hi))
        rw [List.flatMap_cons, List.append_assoc]
        refine ⟨?_, split_tree K k y.1 h2 h3 (dep + 1) y.2 _ e1 e2⟩
        intro b s e
        obtain ⟨k', rfl⟩ : ∃ k', k = k' + 1 := ⟨k - 1, by have := K.pos y.1 h2; omega⟩
        rw [treeL, List.cons_append] at e
        injection e with e3 e4
        rw [← e3]
        exact Int.le_refl _
    intro s hs
    rw [treeL, hzd, List.cons_append, List.suffix_cons_iff] at hs
    have hrz := hrow (xs.getD (q z) zeroI).items (fun it hi => ⟨(hit it hi).1.1, by have := (hit it hi).2; omega⟩)
    rcases hs with rfl | hs
    · intro b r e
      injection e with e1 e2
      subst e1 e2
      exact ⟨k, R, rfl, hT, fun it hi => by have := (hit it hi).2; omega⟩
    · exact hrz.2 s hs
/-- The branches just below: one for each item. -/
theorem heads_row (K : Kit xs zs q rk) {k : Nat} {D : Int} : ∀ {il : List (Int × Int)}, (∀ it ∈ il, (it.1 ∈ zs ∧ 1 ≤ it.2 ∧ it.2 ≤ 20) ∧ rk it.1 ≤ k) → (il.flatMap fun y => treeL xs q k (D + 1) y.1 y.2).filter (fun b => decide (b.1 = D + 1)) = il.map fun y => (D + 1, y.1, (xs.getD (q y.1) zeroI).l, y.2)
  | [], _ => rfl
  | y :: r, h => by
    obtain ⟨⟨h1, h2⟩, h3⟩ := h y (by simp)
    have hzd : (xs.getD (q y.1) zeroI).d = y.1 := by rw [K.get h1]; exact K.d_ y.1 h1 (K.lt y.1 h1)
    obtain ⟨k', rfl⟩ : ∃ k', k = k' + 1 := ⟨k - 1, by have := K.pos y.1 h1; omega⟩
    rw [List.flatMap_cons, List.filter_append, List.map_cons, heads_row K (fun it hi => h it (List.mem_cons_of_mem _ hi)), treeL, hzd, List.filter_cons_of_pos (by simp)]
    have hno : ((xs.getD (q y.1) zeroI).items.flatMap fun y => treeL xs q k' (D + 1 + 1) y.1 y.2).filter (fun b => decide (b.1 = D + 1)) = [] := by
      rw [List.filter_eq_nil_iff]
      intro b hb
      obtain ⟨it, hit, hb2⟩ := List.mem_flatMap.1 hb
      have h4 := (K.itm h1).2.2 it hit
      have h5 := (tree_each K k' it.1 h4.1.1 (D + 1 + 1) it.2 h4.1.2 b hb2).1.1
      rw [decide_eq_true_eq]
      omega
    rw [hno]
    rfl
theorem deeper_row (K : Kit xs zs q rk) {k : Nat} {D : Int} {il : List (Int × Int)} (h : ∀ it ∈ il, (it.1 ∈ zs ∧ 1 ≤ it.2 ∧ it.2 ≤ 20) ∧ rk it.1 ≤ k) : ∀ b ∈ (il.flatMap fun y => treeL xs q k (D + 1) y.1 y.2), D + 1 ≤ b.1 := fun b hb => by
  obtain ⟨it, hit, hb2⟩ := List.mem_flatMap.1 hb
  exact (tree_each K k it.1 (h it hit).1.1 (D + 1) it.2 (h it hit).1.2 b hb2).1.1
end
/-- The next branch is at most one deeper. -/
theorem split_next {xs : List Iss} {zs : List Int} {q rk : Int → Nat} (K : Kit xs zs q rk) {b c : Br} {r : List Br} (hb : b.2.1 ∈ zs) (h : SplitB xs q rk (b :: c :: r)) : c.1 ≤ b.1 + 1 := by
  obtain ⟨k, R, e, hT, hr⟩ := h b (c :: r) rfl
  cases hil : (xs.getD (q b.2.1) zeroI).items with
  | nil =>
    rw [hil, List.flatMap_nil, List.nil_append] at e
    have := hT c r e.symm
    omega
  | cons y il =>
    rw [hil] at e hr
    have h1 := ((K.itm hb).2.2 y (by rw [hil]; simp)).1.1
    obtain ⟨k', rfl⟩ : ∃ k', k = k' + 1 := ⟨k - 1, by have := K.pos y.1 h1; have := hr y (by simp); omega⟩
    rw [List.flatMap_cons, treeL, List.cons_append, List.cons_append] at e
    injection e with e1 e2
    rw [e1]
    exact Int.le_refl _
theorem letter_q {xs : List Iss} {ls : List Int} {z : Int} {p : Nat} (h : layE xs = 0) (hl : lettersB xs (numbersL xs) ls = true) (hz : z ∈ numbersL xs) (hp : idxL (numbersL xs) z = p) : (xs.getD (qOf xs (numbersL xs) ls z) zeroI).l = ls.getD p 0 := by
  obtain ⟨h1, h2, h3⟩ := letter_in h hl hz hp
  have hh : hasN xs z (ls.getD p 0) = true := by
    obtain ⟨h4, h5⟩ := lettersB_iff.1 hl
    obtain ⟨p', hp', ⟨hp2, hz2⟩, hi⟩ := idx_spec hz
    obtain rfl : p' = p := by omega
    have := h5 p' hp2 h1
    rw [hz2] at this
    rw [List.getD_eq_getElem?_getD, List.getElem?_eq_getElem h1]
    exact this
  obtain ⟨x, hx, e1, e2⟩ := hasN_iff.1 hh
  rw [taken_is h hl hz hp hx e1 e2, e2]
/-- The tree of a drawing, told. -/
theorem ends_told {xs : List Iss} {ls : List Int} {d : Int} (h : layE xs = 0) (hl : lettersB xs (numbersL xs) ls = true) (hd : d ∈ numbersL xs) {T : List Br} (hT : treeE xs ls d = (T, 0)) :
    T = treeL xs (qOf xs (numbersL xs) ls) 6 0 d 1 ∧ (∀ i (hi : i < T.length), (0 ≤ (T[i]).1 ∧ (T[i]).1 < 6) ∧ ((T[i]).2.1 ∈ numbersL xs ∧ (T[i]).2.2.1 = (xs.getD (qOf xs (numbersL xs) ls (T[i]).2.1) zeroI).l ∧ 1 ≤ (T[i]).2.2.2 ∧ (T[i]).2.2.2 ≤ 20) ∧ (0 < i → 1 ≤ (T[i]).1) ∧ SplitB xs (qOf xs (numbersL xs) ls) (rkOf xs) (T.drop i)) ∧
    (∀ i (hi : i + 1 < T.length), (T[i + 1]).1 ≤ (T[i]'(by omega)).1 + 1) ∧ (∃ h0 : 0 < T.length, T[0] = (0, d, (xs.getD (qOf xs (numbersL xs) ls d) zeroI).l, 1)) ∧
    ∀ W, endsF (endI xs (qOf xs (numbersL xs) ls)) W T = addsL xs (qOf xs (numbersL xs) ls) 6 d 1 := by
  have K := kit_of h hl
  have e : T = treeL xs (qOf xs (numbersL xs) ls) 6 0 d 1 := by
    unfold treeE at hT
    rw [if_neg (by rw [ask_ok h hl hd]; simp)] at hT
    split at hT
    · injection hT with _ h2; cases h2
    · injection hT with h1 _; exact h1.symm
  have hle := K.le d hd
  have hdd : (xs.getD (qOf xs (numbersL xs) ls d) zeroI).d = d := by rw [K.get hd]; exact K.d_ d hd (K.lt d hd)
  have hsp : ∀ i, SplitB xs (qOf xs (numbersL xs) ls) (rkOf xs) (T.drop i) := fun i => by
    refine split_tree K 6 d hd hle 0 1 [] (fun b r e => by cases e) (fun s hs b r e2 => ?_) _ ?_
    · rw [List.suffix_nil.1 hs] at e2; cases e2
    · rw [List.append_nil, ← e]; exact List.drop_suffix i T
  have heach := fun b hb => tree_each K 6 d hd 0 1 ⟨by omega, by omega⟩ b hb
  rw [← e] at heach
  have hrest : ∀ i, 0 < i → ∀ (hi : i < T.length), 1 ≤ (T[i]).1 := fun i h0 hi => by
    obtain ⟨j, rfl⟩ : ∃ j, i = j + 1 := ⟨i - 1, by omega⟩
    have e2 : T = (0, d, (xs.getD (qOf xs (numbersL xs) ls d) zeroI).l, 1) :: (xs.getD (qOf xs (numbersL xs) ls d) zeroI).items.flatMap fun y => treeL xs (qOf xs (numbersL xs) ls) 5 (0 + 1) y.1 y.2 := by rw [e, treeL, hdd]
    have h1 : T[j + 1] ∈ ((xs.getD (qOf xs (numbersL xs) ls d) zeroI).items.flatMap fun y => treeL xs (qOf xs (numbersL xs) ls) 5 (0 + 1) y.1 y.2) := by
      have h2 : T[j + 1]? = some T[j + 1] := List.getElem?_eq_getElem hi
      conv at h2 => lhs; rw [e2, List.getElem?_cons_succ]
      exact List.mem_of_getElem? h2
    have h3 := deeper_row K (k := 5) (D := 0) (fun it hit => by have := (K.itm hd).2.2 it hit; exact ⟨this.1, by omega⟩) _ h1
    omega
  refine ⟨e, fun i hi => ?_, fun i hi => ?_, ?_, fun W => ?_⟩
  · obtain ⟨h1, h2⟩ := heach _ (List.getElem_mem hi)
    exact ⟨⟨h1.1, by have := h1.2; omega⟩, h2, fun h0 => hrest i h0 hi, hsp i⟩
  · have h1 := hsp i
    rw [List.drop_eq_getElem_cons (by omega), List.drop_eq_getElem_cons hi] at h1
    exact split_next K (heach _ (List.getElem_mem _)).2.1 h1
  · have e2 : T = (0, d, (xs.getD (qOf xs (numbersL xs) ls d) zeroI).l, 1) :: (xs.getD (qOf xs (numbersL xs) ls d) zeroI).items.flatMap fun y => treeL xs (qOf xs (numbersL xs) ls) 5 (0 + 1) y.1 y.2 := by rw [e, treeL, hdd]
    refine ⟨by rw [e2]; simp, ?_⟩
    simp only [e2, List.getElem_cons_zero]
  · have his : ∀ z ∈ numbersL xs, (xs.getD (qOf xs (numbersL xs) ls z) zeroI).k = 1 ↔ (xs.getD (qOf xs (numbersL xs) ls z) zeroI).items ≠ [] := fun z hz => by
      refine ⟨fun h1 => ?_, fun h1 => ?_⟩
      · rw [K.get hz] at h1 ⊢; exact items_some h (List.getElem_mem _) h1
      · by_cases h2 : (xs.getD (qOf xs (numbersL xs) ls z) zeroI).k = 1
        · exact h2
        · exact absurd ((K.itm hz).2.1 h2) h1
    have h1 := (ends_tree K his 6 d hd hle 0 1 W (Int.le_refl 0)).1
    rw [← e, if_neg (by omega)] at h1
    exact h1
theorem filter_at {α : Type} {p : α → Bool} {L M : List α} (h : L.filter p = M) {j : Nat} (hj : j < L.length) (hp : p L[j] = true) : ∃ hn : ((L.take j).filter p).length < M.length, M[((L.take j).filter p).length] = L[j] := by
  have h1 : L = L.take j ++ L[j] :: L.drop (j + 1) := by rw [List.getElem_cons_drop, List.take_append_drop]
  have h2 : M = (L.take j).filter p ++ L[j] :: (L.drop (j + 1)).filter p := by
    rw [← h]
    conv => lhs; rw [h1]
    rw [List.filter_append, List.filter_cons_of_pos hp]
  have h3 : M[((L.take j).filter p).length]? = some L[j] := by
    conv => lhs; rw [h2]
    simp
  obtain ⟨hn, e⟩ := List.getElem?_eq_some_iff.1 h3
  exact ⟨hn, e⟩
theorem filter_next {α : Type} {p : α → Bool} {L : List α} {j : Nat} (hj : j < L.length) : ((L.take (j + 1)).filter p).length = ((L.take j).filter p).length + if p L[j] = true then 1 else 0 := by
  rw [List.take_succ_eq_append_getElem hj, List.filter_append, List.length_append]
  congr 1
  by_cases e : p L[j] = true
  · rw [if_pos e, List.filter_cons_of_pos e]; rfl
  · rw [if_neg e, List.filter_cons_of_neg e]; rfl
end Go.Proofs.Ytkjfceajakhlfaa
