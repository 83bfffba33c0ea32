/- Texts of sizes, as lists of bytes: how numbers are written, and read. Nothing of the program. -/
import Derived.Lib.ItoaNum
import Derived.Lib.Split
import Derived.Lib.IndexBytes
namespace Go.Proofs.YtjejjeomknkglaaDoor
set_option linter.unusedVariables false
set_option linter.unusedSimpArgs false

/-- Digits with as many zeros ahead that they are k at least. -/
def padL (k : Nat) (d : List UInt8) : List UInt8 := List.replicate (k - d.length) 48 ++ d
/-- A point ahead of the last pl digits. -/
def dotL (pl : Nat) (d : List UInt8) : List UInt8 := d.take (d.length - pl) ++ 46 :: d.drop (d.length - pl)
def decL (st : Int) (pl : Nat) (n : Int) : List UInt8 := dotL pl (padL (pl + 1) (Lib.itoa (n / st)))
def sgnL (st : Int) (pl : Nat) (n : Int) : List UInt8 := if n < 0 then 45 :: decL st pl (-n) else 43 :: decL st pl n
def textL (st : Int) (pl : Nat) (mk : List UInt8) (n l u : Int) : List UInt8 :=
  decL st pl n ++ 32 :: (sgnL st pl (l - n) ++ 32 :: (sgnL st pl (u - n) ++ 32 :: mk))

/-- The number of a word, from what was read so far on. -/
def numGo (most : Int) : Int → List UInt8 → Option Int
  | s, [] => some s
  | s, c :: cs => if c = 43 ∨ c = 45 ∨ c = 46 then numGo most s cs else if c < 48 ∨ 57 < c ∨ most < s then none else numGo most (s * 10 + ((c.toNat : Int) - 48)) cs
def numL (st : Int) (w : List UInt8) : Option Int := (numGo (1000000000 / st) 0 w).map fun s => if w.head? = some 45 then -s * st else s * st

theorem numGo_append (most : Int) : ∀ (a b : List UInt8) (s : Int), numGo most s (a ++ b) = (numGo most s a).bind fun t => numGo most t b
  | [], _, _ => rfl
  | c :: a, b, s => by
    simp only [List.cons_append, numGo]
    split
    · exact numGo_append most a b s
    · split
      · rfl
      · exact numGo_append most a b _
theorem numGo_dot (most : Int) (a b : List UInt8) (s : Int) : numGo most s (a ++ 46 :: b) = numGo most s (a ++ b) := by
  rw [numGo_append, numGo_append]
  rfl
theorem dig_val {k : Nat} (h : k < 10) : (UInt8.ofNat (48 + k)).toNat = 48 + k := by simp; omega
theorem numGo_dig (most s : Int) {k : Nat} (h : k < 10) (hs : s ≤ most) : numGo most s [UInt8.ofNat (48 + k)] = some (s * 10 + k) := by
  have e := dig_val h
  generalize UInt8.ofNat (48 + k) = c at *
  have h1 : ¬ (c = 43 ∨ c = 45 ∨ c = 46) := by
    rintro (rfl | rfl | rfl) <;> simp at e <;> omega
  have h2 : ¬ (c < 48 ∨ 57 < c ∨ most < s) := by
    rintro (h2 | h2 | h2)
    · have := UInt8.lt_iff_toNat_lt.1 h2; simp at this; omega
    · have := UInt8.lt_iff_toNat_lt.1 h2; simp at this; omega
    · omega
  simp only [numGo, if_neg h1, if_neg h2, e]
  congr 1; omega
theorem numGo_dec (most : Int) : ∀ (u : Nat), (u : Int) ≤ most → numGo most 0 (Lib.decDigits u) = some (u : Int) := by
  intro u
  induction u using Nat.strongRecOn with
  | _ u ih =>
    intro h
    by_cases h1 : u < 10
    · rw [Lib.decDigits_one h1, numGo_dig most 0 h1 (by omega)]; simp
    · rw [Lib.decDigits, dif_neg h1, numGo_append, ih (u / 10) (by omega) (by omega)]
      show numGo most ((u / 10 : Nat) : Int) [UInt8.ofNat (48 + u % 10)] = _
      rw [numGo_dig most _ (by omega) (by omega)]
      congr 1; omega
theorem numGo_zeros (most : Int) (h : 0 ≤ most) : ∀ (k : Nat), numGo most 0 (List.replicate k 48) = some 0
  | 0 => rfl
  | k + 1 => by
    have := numGo_dig most 0 (k := 0) (by omega) h
    rw [List.replicate_succ, show (48 : UInt8) :: List.replicate k 48 = [UInt8.ofNat (48 + 0)] ++ List.replicate k 48 from rfl, numGo_append, this]
    exact numGo_zeros most h k
theorem itoa_nat {n : Int} (h : 0 ≤ n) : Lib.itoa n = Lib.decDigits n.toNat := by unfold Lib.itoa; rw [if_neg (by omega)]
theorem numGo_decL {st : Int} {pl : Nat} {n : Int} (hst : 0 < st) (h0 : 0 ≤ n) (h1 : n ≤ 1000000000) : numGo (1000000000 / st) 0 (decL st pl n) = some (n / st) := by
  have hq : 0 ≤ n / st := Int.ediv_nonneg h0 (by omega)
  have hm : n / st ≤ 1000000000 / st := Int.ediv_le_ediv hst h1
  unfold decL dotL
  rw [numGo_dot, List.take_append_drop]
  unfold padL
  rw [numGo_append, numGo_zeros _ (by omega), itoa_nat hq]
  show numGo _ 0 _ = _
  rw [numGo_dec _ _ (by omega)]
  congr 1; omega

theorem decDigits_range : ∀ (u : Nat), ∀ c ∈ Lib.decDigits u, 48 ≤ c.toNat ∧ c.toNat ≤ 57 := by
  intro u
  induction u using Nat.strongRecOn with
  | _ u ih =>
    intro c hc
    by_cases h1 : u < 10
    · rw [Lib.decDigits_one h1] at hc
      have : c = UInt8.ofNat (48 + u) := by simpa using hc
      subst this
      rw [dig_val h1]; omega
    · rw [Lib.decDigits, dif_neg h1] at hc
      rcases List.mem_append.1 hc with hc | hc
      · exact ih (u / 10) (by omega) c hc
      · have : c = UInt8.ofNat (48 + u % 10) := by simpa using hc
        subst this
        rw [dig_val (by omega)]; omega
theorem padL_length (k : Nat) (d : List UInt8) : k ≤ (padL k d).length := by unfold padL; simp; omega
theorem padL_range {k u : Nat} : ∀ c ∈ padL k (Lib.decDigits u), 48 ≤ c.toNat ∧ c.toNat ≤ 57 := by
  intro c hc
  unfold padL at hc
  rcases List.mem_append.1 hc with hc | hc
  · have := (List.mem_replicate.1 hc).2; subst this; simp
  · exact decDigits_range _ _ hc
theorem decL_range {st : Int} {pl : Nat} {n : Int} (hst : 0 < st) (h0 : 0 ≤ n) : ∀ c ∈ decL st pl n, c = 46 ∨ (48 ≤ c.toNat ∧ c.toNat ≤ 57) := by
  intro c hc
  have hq : 0 ≤ n / st := Int.ediv_nonneg h0 (by omega)
  unfold decL dotL at hc
  rw [itoa_nat hq] at hc
  rcases List.mem_append.1 hc with hc | hc
  · exact .inr (padL_range _ (List.mem_of_mem_take hc))
  · rcases List.mem_cons.1 hc with hc | hc
    · exact .inl hc
    · exact .inr (padL_range _ (List.mem_of_mem_drop hc))
theorem decL_no32 {st : Int} {pl : Nat} {n : Int} (hst : 0 < st) (h0 : 0 ≤ n) : ∀ c ∈ decL st pl n, c ≠ 32 := by
  rintro c hc rfl
  rcases decL_range hst h0 _ hc with h | h
  · simp at h
  · simp at h
theorem sgnL_no32 {st : Int} {pl : Nat} {n : Int} (hst : 0 < st) : ∀ c ∈ sgnL st pl n, c ≠ 32 := by
  intro c hc
  unfold sgnL at hc
  split at hc
  · rcases List.mem_cons.1 hc with rfl | hc
    · simp
    · exact decL_no32 hst (by omega) c hc
  · rcases List.mem_cons.1 hc with rfl | hc
    · simp
    · exact decL_no32 hst (by omega) c hc
theorem decL_head {st : Int} {pl : Nat} {n : Int} (hst : 0 < st) (h0 : 0 ≤ n) : (decL st pl n).head? ≠ some 45 := by
  intro h
  have hm : (45 : UInt8) ∈ decL st pl n := List.mem_of_head? h
  rcases decL_range hst h0 _ hm with h | h
  · simp at h
  · simp at h

theorem numL_dec {st : Int} {pl : Nat} {n : Int} (hst : 0 < st) (h0 : 0 ≤ n) (h1 : n ≤ 1000000000) (hd : n % st = 0) : numL st (decL st pl n) = some n := by
  unfold numL
  rw [numGo_decL hst h0 h1]
  simp only [Option.map_some, if_neg (decL_head hst h0)]
  congr 1
  exact Int.ediv_mul_cancel (Int.dvd_of_emod_eq_zero hd)
theorem numL_sgn {st : Int} {pl : Nat} {n : Int} (hst : 0 < st) (h0 : -1000000000 ≤ n) (h1 : n ≤ 1000000000) (hd : n % st = 0) : numL st (sgnL st pl n) = some n := by
  unfold sgnL
  split
  · rename_i hn
    have e : numGo (1000000000 / st) 0 (45 :: decL st pl (-n)) = some (-n / st) := by
      rw [show numGo (1000000000 / st) 0 (45 :: decL st pl (-n)) = numGo (1000000000 / st) 0 (decL st pl (-n)) from rfl]
      exact numGo_decL hst (by omega) (by omega)
    unfold numL
    rw [e]
    simp only [Option.map_some, List.head?_cons, if_true]
    congr 1
    rw [Int.neg_mul, Int.ediv_mul_cancel (Int.dvd_neg.2 (Int.dvd_of_emod_eq_zero hd))]
    omega
  · have e : numGo (1000000000 / st) 0 (43 :: decL st pl n) = some (n / st) := by
      rw [show numGo (1000000000 / st) 0 (43 :: decL st pl n) = numGo (1000000000 / st) 0 (decL st pl n) from rfl]
      exact numGo_decL hst (by omega) (by omega)
    unfold numL
    rw [e]
    rw [Option.map_some, if_neg (by simp)]
    congr 1
    exact Int.ediv_mul_cancel (Int.dvd_of_emod_eq_zero hd)

theorem index_word {w r : List UInt8} (h : ∀ c ∈ w, c ≠ 32) : Lib.index (w ++ 32 :: r) [32] = w.length := by
  rw [Lib.index_one]
  induction w with
  | nil => rfl
  | cons c w ih =>
    have hc : c ≠ 32 := h c (by simp)
    have e := ih (fun d hd => h d (by simp [hd]))
    show (if (c == 32) = true then 0 else if Lib.indexByte (w ++ 32 :: r) 32 == -1 then -1 else Lib.indexByte (w ++ 32 :: r) 32 + 1) = _
    rw [if_neg (by simpa using hc), e, if_neg (by rw [beq_iff_eq]; omega)]
    simp
theorem splitK_word {w r : List UInt8} {k : Nat} (h : ∀ c ∈ w, c ≠ 32) : Lib.splitK [32] 0 (k + 1) (w ++ 32 :: r) = w :: Lib.splitK [32] 0 k r := by
  rw [Lib.splitK, index_word h, if_neg (by rw [beq_iff_eq]; omega)]
  simp
/-- A size that is written has four words. -/
theorem split_text {st : Int} {pl : Nat} {mk : List UInt8} {n l u : Int} (hst : 0 < st) (h0 : 0 ≤ n) : Lib.splitK [32] 0 3 (textL st pl mk n l u) = [decL st pl n, sgnL st pl (l - n), sgnL st pl (u - n), mk] := by
  unfold textL
  rw [splitK_word (decL_no32 hst h0), splitK_word (sgnL_no32 hst), splitK_word (sgnL_no32 hst)]
  rfl
end Go.Proofs.YtjejjeomknkglaaDoor
