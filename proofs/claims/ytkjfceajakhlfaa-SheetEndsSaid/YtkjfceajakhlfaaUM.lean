/- What is above a drawing: the mathematics. -/
import Derived.Test.YtkjfceajakhlfaaLF
namespace Go.Proofs.Ytkjfceajakhlfaa
set_option linter.unusedVariables false
set_option linter.unusedSimpArgs false
open Go.RowKit

/-- Whether a drawing needs d, with the issues that are taken, by a way of at most k steps. -/
def abv (xs : List Iss) (q : Int → Nat) (d : Int) : Nat → Int → Bool
  | 0, _ => false
  | k + 1, z => (xs.getD (q z) zeroI).items.any fun it => it.1 == d || abv xs q d k it.1
def needA (xs : List Iss) (q : Int → Nat) (d z : Int) : Bool := abv xs q d 6 z
theorem abv_iff {xs : List Iss} {q : Int → Nat} {d : Int} {k : Nat} {z : Int} : abv xs q d (k + 1) z = true ↔ ∃ it ∈ (xs.getD (q z) zeroI).items, it.1 = d ∨ abv xs q d k it.1 = true := by
  rw [abv, List.any_eq_true]
  constructor
  · rintro ⟨it, hit, h⟩
    rw [Bool.or_eq_true, beq_iff_eq] at h
    exact ⟨it, hit, h⟩
  · rintro ⟨it, hit, h⟩
    exact ⟨it, hit, by rw [Bool.or_eq_true, beq_iff_eq]; exact h⟩
section
variable {xs : List Iss} {zs : List Int} {q rk : Int → Nat}
theorem abv_stable (K : Kit xs zs q rk) (d : Int) : ∀ (k k' : Nat) (z : Int), z ∈ zs → rk z ≤ k → rk z ≤ k' → (abv xs q d k z = true → abv xs q d k' z = true)
  | 0, _, z, hz, h, _ => by have := K.pos z hz; omega
  | _ + 1, 0, z, hz, _, h => by have := K.pos z hz; omega
  | k + 1, k' + 1, z, hz, h, h' => by
    rw [abv_iff, abv_iff]
    rintro ⟨it, hit, h1⟩
    obtain ⟨-, -, h3⟩ := K.itm hz
    have h4 := h3 it hit
    exact ⟨it, hit, h1.imp id (fun h5 => abv_stable K d k k' it.1 h4.1.1 (by omega) (by omega) h5)⟩
theorem abv_rank (K : Kit xs zs q rk) {d : Int} : ∀ (k : Nat) (z : Int), z ∈ zs → abv xs q d k z = true → rk d + 1 ≤ rk z
  | 0, _, _, h => by cases h
  | k + 1, z, hz, h => by
    obtain ⟨it, hit, h1⟩ := abv_iff.1 h
    obtain ⟨-, -, h3⟩ := K.itm hz
    have h4 := h3 it hit
    rcases h1 with h1 | h1
    · rw [h1] at h4; omega
    · have := abv_rank K k it.1 h4.1.1 h1; omega
theorem need_iff (K : Kit xs zs q rk) {d z : Int} (hz : z ∈ zs) : needA xs q d z = true ↔ ∃ it ∈ (xs.getD (q z) zeroI).items, it.1 = d ∨ needA xs q d it.1 = true := by
  unfold needA
  rw [← abv_iff]
  have := K.le z hz
  exact ⟨abv_stable K d 6 7 z hz (by omega) (by omega), abv_stable K d 7 6 z hz (by omega) (by omega)⟩
theorem need_of (K : Kit xs zs q rk) {d : Int} : ∀ (n : Nat) (z : Int), z ∈ zs → abv xs q d n z = true → needA xs q d z = true
  | 0, _, _, h => by cases h
  | n + 1, z, hz, h => by
    obtain ⟨it, hit, h1⟩ := abv_iff.1 h
    obtain ⟨-, -, h3⟩ := K.itm hz
    exact (need_iff K hz).2 ⟨it, hit, h1.imp id (fun h5 => need_of K n it.1 (h3 it hit).1.1 h5)⟩
theorem need_self (K : Kit xs zs q rk) {d : Int} (hd : d ∈ zs) : needA xs q d d = false := by
  rw [← Bool.not_eq_true]
  intro h
  have := abv_rank K 6 d hd h
  omega

/-- A step of the program's round: an issue goes if one of its items has gone. -/
def stepA (S : Int → Bool) (x : Iss) : Int → Bool := if x.items.any (fun it => !S it.1) = true then (fun y => if y = x.d then false else S y) else S
theorem stepA_keep {S : Int → Bool} {x : Iss} {y : Int} (h : S y = false) : stepA S x y = false := by
  unfold stepA
  split
  · show (if y = x.d then false else S y) = false
    split
    · rfl
    · exact h
  · exact h
theorem foldA_keep {y : Int} : ∀ {l : List Iss} {S : Int → Bool}, S y = false → l.foldl stepA S y = false
  | [], _, h => h
  | x :: r, S, h => by rw [List.foldl_cons]; exact foldA_keep (stepA_keep h)
/-- What has gone is d, or needs it. -/
def goneQ (xs : List Iss) (zs : List Int) (q : Int → Nat) (d y : Int) : Prop := y ∉ zs ∨ y = d ∨ needA xs q d y = true
theorem foldA_sound (K : Kit xs zs q rk) {d : Int} : ∀ {l : List Iss} {S : Int → Bool}, (∀ x ∈ l, ∃ z ∈ zs, x = xs.getD (q z) zeroI) → (∀ y, S y = false → goneQ xs zs q d y) → ∀ y, l.foldl stepA S y = false → goneQ xs zs q d y
  | [], _, _, h, y, hy => h y hy
  | x :: r, S, hl, h, y, hy => by
    rw [List.foldl_cons] at hy
    refine foldA_sound K (fun z hz => hl z (List.mem_cons_of_mem _ hz)) (fun y hy => ?_) y hy
    unfold stepA at hy
    split at hy
    · rename_i hc
      change (if y = x.d then false else S y) = false at hy
      split at hy
      · rename_i hyd
        obtain ⟨z, hz, rfl⟩ := hl x (by simp)
        have hzd : (xs.getD (q z) zeroI).d = z := by rw [K.get hz]; exact K.d_ z hz _
        rw [hzd] at hyd
        subst hyd
        obtain ⟨it, hit, h1⟩ := List.any_eq_true.1 hc
        obtain ⟨-, -, h3⟩ := K.itm hz
        have h4 := (h3 it hit).1.1
        have h5 := h it.1 (by simpa using h1)
        refine .inr (.inr ((need_iff K hz).2 ⟨it, hit, ?_⟩))
        rcases h5 with h5 | h5
        · exact absurd h4 h5
        · exact h5
      · exact h y hy
    · exact h y hy
theorem foldA_done {d : Int} {n : Nat} {z : Int} (hzd : (xs.getD (q z) zeroI).d = z) (hz : abv xs q d (n + 1) z = true) (hi : ∀ it ∈ (xs.getD (q z) zeroI).items, it.1 ∈ zs) : ∀ {l : List Iss} {S : Int → Bool}, xs.getD (q z) zeroI ∈ l → S d = false → (∀ y ∈ zs, abv xs q d n y = true → S y = false) → l.foldl stepA S z = false
  | [], _, hm, _, _ => by cases hm
  | x :: r, S, hm, hd, h => by
    rw [List.foldl_cons]
    rcases List.mem_cons.1 hm with e | e
    · refine foldA_keep ?_
      obtain ⟨it, hit, h1⟩ := abv_iff.1 hz
      have hS : S it.1 = false := by
        rcases h1 with h1 | h1
        · rw [h1]; exact hd
        · exact h it.1 (hi it hit) h1
      have hc : x.items.any (fun it => !S it.1) = true := by
        rw [← e]
        exact List.any_eq_true.2 ⟨it, hit, by rw [hS]; rfl⟩
      unfold stepA
      rw [if_pos hc, ← e, hzd]
      simp
    · exact foldA_done hzd hz hi e (stepA_keep hd) (fun y hy h1 => stepA_keep (h y hy h1))
def chosenI (xs : List Iss) (zs : List Int) (q : Int → Nat) : List Iss := zs.map fun z => xs.getD (q z) zeroI
/-- What has not gone behind n rounds. -/
def awayA (xs : List Iss) (zs : List Int) (q : Int → Nat) (d : Int) : Nat → Int → Bool
  | 0 => fun y => if y = d then false else decide (y ∈ zs)
  | n + 1 => (chosenI xs zs q).foldl stepA (awayA xs zs q d n)
theorem away_d (d : Int) : ∀ n, awayA xs zs q d n d = false
  | 0 => by simp [awayA]
  | n + 1 => foldA_keep (away_d d n)
theorem chosen_mem {x : Iss} (h : x ∈ chosenI xs zs q) : ∃ z ∈ zs, x = xs.getD (q z) zeroI := by
  obtain ⟨z, hz, rfl⟩ := List.mem_map.1 h
  exact ⟨z, hz, rfl⟩
theorem away_sound (K : Kit xs zs q rk) {d : Int} : ∀ n y, awayA xs zs q d n y = false → goneQ xs zs q d y
  | 0, y, h => by
    unfold goneQ
    by_cases e : y = d
    · exact .inr (.inl e)
    · simp only [awayA, if_neg e] at h
      exact .inl (by simpa using h)
  | n + 1, y, h => foldA_sound K (fun x hx => chosen_mem hx) (away_sound K n) y h
theorem away_done (K : Kit xs zs q rk) {d : Int} : ∀ n, ∀ y ∈ zs, abv xs q d n y = true → awayA xs zs q d n y = false
  | 0, _, _, h => by cases h
  | n + 1, y, hy, h => foldA_done (by rw [K.get hy]; exact K.d_ y hy _) h (fun it hit => ((K.itm hy).2.2 it hit).1.1) (List.mem_map.2 ⟨y, hy, rfl⟩) (away_d d n) (away_done K n)
theorem away_end (K : Kit xs zs q rk) {d y : Int} (hd : d ∈ zs) (hy : y ∈ zs) : (!awayA xs zs q d 6 y && y != d) = needA xs q d y := by
  rw [Bool.eq_iff_iff, Bool.and_eq_true, Bool.not_eq_true', bne_iff_ne]
  constructor
  · rintro ⟨h1, h2⟩
    rcases away_sound K 6 y h1 with h | h | h
    · exact absurd hy h
    · exact absurd h h2
    · exact h
  · intro h
    refine ⟨away_done K 6 y hy h, ?_⟩
    rintro rfl
    rw [need_self K hd] at h; cases h

/-- The reference's steps. -/
def stepI (d z : Int) (B : Int → Bool) (it : Int × Int) : Int → Bool := fun y => if y = z then B z || it.1 == d || B it.1 else B y
def stepR (d : Int) (B : Int → Bool) (x : Iss) : Int → Bool := x.items.foldl (stepI d x.d) B
def inR (xs : List Iss) (zs : List Int) (q : Int → Nat) (d : Int) : Nat → Int → Bool
  | 0 => fun _ => false
  | n + 1 => (chosenI xs zs q).foldl (stepR d) (inR xs zs q d n)
theorem stepI_keep {d z : Int} {B : Int → Bool} {it : Int × Int} {y : Int} (h : B y = true) : stepI d z B it y = true := by
  unfold stepI
  split
  · rename_i e; subst e; rw [h]; rfl
  · exact h
theorem foldI_keep {d z y : Int} : ∀ {l : List (Int × Int)} {B : Int → Bool}, B y = true → l.foldl (stepI d z) B y = true
  | [], _, h => h
  | x :: r, B, h => by rw [List.foldl_cons]; exact foldI_keep (stepI_keep h)
theorem foldR_keep {d y : Int} : ∀ {l : List Iss} {B : Int → Bool}, B y = true → l.foldl (stepR d) B y = true
  | [], _, h => h
  | x :: r, B, h => by rw [List.foldl_cons]; exact foldR_keep (foldI_keep h)
theorem foldI_sound {d z : Int} {P : Int → Prop} : ∀ {l : List (Int × Int)} {B : Int → Bool}, (∀ it ∈ l, it.1 = d ∨ P it.1 → P z) → (∀ y, B y = true → P y) → ∀ y, l.foldl (stepI d z) B y = true → P y
  | [], _, _, h, y, hy => h y hy
  | it :: r, B, hl, h, y, hy => by
    rw [List.foldl_cons] at hy
    refine foldI_sound (fun x hx => hl x (List.mem_cons_of_mem _ hx)) (fun y hy => ?_) y hy
    unfold stepI at hy
    split at hy
    · rename_i e
      subst e
      rw [Bool.or_eq_true, Bool.or_eq_true, beq_iff_eq] at hy
      rcases hy with (hy | hy) | hy
      · exact h y hy
      · exact hl it (by simp) (.inl hy)
      · exact hl it (by simp) (.inr (h it.1 hy))
    · exact h y hy
theorem in_sound (K : Kit xs zs q rk) {d : Int} : ∀ n y, inR xs zs q d n y = true → needA xs q d y = true := by
  have hf : ∀ (l : List Iss) (B : Int → Bool), (∀ x ∈ l, ∃ z ∈ zs, x = xs.getD (q z) zeroI) → (∀ y, B y = true → needA xs q d y = true) → ∀ y, l.foldl (stepR d) B y = true → needA xs q d y = true := by
    intro l
    induction l with
    | nil => intro B _ h y hy; exact h y hy
    | cons x r ih =>
      intro B hl h y hy
      rw [List.foldl_cons] at hy
      refine ih _ (fun z hz => hl z (List.mem_cons_of_mem _ hz)) (fun y hy => ?_) y hy
      obtain ⟨z, hz, rfl⟩ := hl x (by simp)
      have hzd : (xs.getD (q z) zeroI).d = z := by rw [K.get hz]; exact K.d_ z hz _
      unfold stepR at hy
      rw [hzd] at hy
      exact foldI_sound (P := fun y => needA xs q d y = true) (fun it hit h1 => (need_iff K hz).2 ⟨it, hit, h1⟩) h y hy
  intro n
  induction n with
  | zero => intro y h; cases h
  | succ n ih => exact hf _ _ (fun x hx => chosen_mem hx) ih
theorem foldI_done {d z : Int} {it : Int × Int} : ∀ {l : List (Int × Int)} {B : Int → Bool}, it ∈ l → it.1 = d ∨ B it.1 = true → l.foldl (stepI d z) B z = true
  | [], _, h, _ => by cases h
  | x :: r, B, h, h1 => by
    rw [List.foldl_cons]
    rcases List.mem_cons.1 h with e | e
    · subst e
      refine foldI_keep ?_
      unfold stepI
      rw [if_pos rfl, Bool.or_eq_true, Bool.or_eq_true, beq_iff_eq]
      rcases h1 with h1 | h1
      · exact .inl (.inr h1)
      · exact .inr h1
    · exact foldI_done e (h1.imp id stepI_keep)
theorem foldR_done {d : Int} {n : Nat} {z : Int} (hzd : (xs.getD (q z) zeroI).d = z) (hz : abv xs q d (n + 1) z = true) (hi : ∀ it ∈ (xs.getD (q z) zeroI).items, it.1 ∈ zs) : ∀ {l : List Iss} {B : Int → Bool}, xs.getD (q z) zeroI ∈ l → (∀ y ∈ zs, abv xs q d n y = true → B y = true) → l.foldl (stepR d) B z = true
  | [], _, hm, _ => by cases hm
  | x :: r, B, hm, h => by
    rw [List.foldl_cons]
    rcases List.mem_cons.1 hm with e | e
    · refine foldR_keep ?_
      obtain ⟨it, hit, h1⟩ := abv_iff.1 hz
      unfold stepR
      rw [← e, hzd]
      exact foldI_done hit (h1.imp id (fun h2 => h it.1 (hi it hit) h2))
    · exact foldR_done hzd hz hi e (fun y hy h1 => foldI_keep (h y hy h1))
theorem in_done (K : Kit xs zs q rk) {d : Int} : ∀ n, ∀ y ∈ zs, abv xs q d n y = true → inR xs zs q d n y = true
  | 0, _, _, h => by cases h
  | n + 1, y, hy, h => foldR_done (by rw [K.get hy]; exact K.d_ y hy _) h (fun it hit => ((K.itm hy).2.2 it hit).1.1) (List.mem_map.2 ⟨y, hy, rfl⟩) (in_done K n)
theorem in_end (K : Kit xs zs q rk) (hk : ∀ z ∈ zs, rk z ≤ zs.length) {d y : Int} (hy : y ∈ zs) : inR xs zs q d zs.length y = needA xs q d y := by
  rw [Bool.eq_iff_iff]
  exact ⟨in_sound K _ y, fun h => in_done K _ y hy (abv_stable K d 6 zs.length y hy (K.le y hy) (hk y hy) h)⟩
end
theorem rk_len {xs : List Iss} (z : Int) (hz : z ∈ numbersL xs) : rkOf xs z ≤ (numbersL xs).length := by
  have := depW_le (xs := xs) hz (numbersL xs).length
  unfold rkOf; omega
/-- What Above tells. -/
def overL (xs : List Iss) (zs : List Int) (q : Int → Nat) (d : Int) : List Int := zs.filter (needA xs q d)
def aboveE (xs : List Iss) (ls : List Int) (d : Int) : List Int × Int := if askE xs ls d ≠ 0 then ([], askE xs ls d) else (overL xs (numbersL xs) (qOf xs (numbersL xs) ls) d, 0)
def AboveP (r : List Int × Int) (w : World) (e : Ending) (w' : World) : Prop := ∃ v, e = .returned (.tuple #[v, .int .i64 r.2]) ∧ IntsAt w' v r.1 ∧ Below w.heap.size w w'
end Go.Proofs.Ytkjfceajakhlfaa
