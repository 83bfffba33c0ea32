/- What is written is read: texts; and what the reference makes of a text's bytes. Nothing of the walks. -/
import Derived.Test.YtjejjeomknkglaaDoorT8
import Derived.Test.YtjejjeomknkglaaDoorT5
namespace Go.Proofs.YtjejjeomknkglaaDoor
set_option linter.unusedVariables false
set_option linter.unusedSimpArgs false
open Go.RowKit

theorem bs_back (x : ByteArray) : bs x.data.toList = x := by
  apply ByteArray.ext
  simp [bs]
theorem bs_list (l : List UInt8) : (bs l).data.toList = l := by simp [bs]
theorem textL_len (st : Int) (pl : Nat) (mk : List UInt8) (n l u : Int) : (textL st pl mk n l u).length = (decL st pl n).length + (sgnL st pl (l - n)).length + (sgnL st pl (u - n)).length + mk.length + 3 := by
  unfold textL; simp; omega
theorem pieces_text {st : Int} {pl : Nat} {mk : List UInt8} {n l u : Int} (hst : 0 < st) (h0 : 0 ≤ n) :
    piecesB (bs (textL st pl mk n l u)) = [bs (decL st pl n), bs (sgnL st pl (l - n)), bs (sgnL st pl (u - n)), bs mk] := by
  have hk : min 4 ((bs (textL st pl mk n l u)).size + 1) - 1 = 3 := by
    rw [bs_size, textL_len]; omega
  have h := Lib.splitB_data ⟨#[32]⟩ 0 3 (bs (textL st pl mk n l u))
  rw [bs_list, show (⟨#[32]⟩ : ByteArray).data.toList = [32] from rfl, split_text hst h0] at h
  unfold piecesB
  rw [hk]
  have h2 := congrArg (List.map bs) h
  rw [List.map_map] at h2
  have h3 : (bs ∘ fun x : ByteArray => x.data.toList) = id := by funext x; exact bs_back x
  rw [h3, List.map_id] at h2
  exact h2
theorem numL_mod {st v : Int} {w : List UInt8} (h : numL st w = some v) : v % st = 0 := by
  unfold numL at h
  obtain ⟨s, -, rfl⟩ := Option.map_eq_some_iff.1 h
  split
  · exact Int.mul_emod_left _ _
  · exact Int.mul_emod_left _ _
theorem readU_text {un st : Int} {pl : Nat} {mk : List UInt8} {n l u : Int} (hst : st = 100 ∨ st = 254) (h : okD n l u = true) (hx : exactS st n l u = true) :
    readU un st pl (bs mk) (bs (decL st pl n)) (bs (sgnL st pl (l - n))) (bs (sgnL st pl (u - n))) (bs (textL st pl mk n l u)) = some ((n, l, u), un) := by
  obtain ⟨h1, h2, h3, h4, h5⟩ := okD_iff.1 h
  obtain ⟨x1, x2, x3⟩ : n % st = 0 ∧ l % st = 0 ∧ u % st = 0 := by simpa [exactS] using hx
  have s0 : 0 < st := by omega
  have e1 : numL st (decL st pl n) = some n := numL_dec s0 h1 h2 x1
  have e2 : numL st (sgnL st pl (l - n)) = some (l - n) := numL_sgn s0 (by omega) (by omega) (by rcases hst with rfl | rfl <;> omega)
  have e3 : numL st (sgnL st pl (u - n)) = some (u - n) := numL_sgn s0 (by omega) (by omega) (by rcases hst with rfl | rfl <;> omega)
  unfold readU
  simp only [bs_list, e1, e2, e3]
  rw [show n + (l - n) = l by omega, show n + (u - n) = u by omega, if_pos ⟨h, rfl⟩]
theorem readS_text1 {n l u : Int} (h : okD n l u = true) (hx : exactS 100 n l u = true) : readS (bs (textL 100 3 mmL n l u)) = some ((n, l, u), 1) := by
  unfold readS
  rw [pieces_text (by omega) (okD_iff.1 h).1]
  simp only
  rw [if_pos (show bs mmL = ⟨#[109, 109]⟩ from rfl)]
  exact readU_text (.inl rfl) h hx
theorem readS_text2 {n l u : Int} (h : okD n l u = true) (hx : exactS 254 n l u = true) : readS (bs (textL 254 4 inL n l u)) = some ((n, l, u), 2) := by
  unfold readS
  rw [pieces_text (by omega) (okD_iff.1 h).1]
  simp only
  rw [if_neg (show ¬ bs inL = ⟨#[109, 109]⟩ by decide), if_pos (show bs inL = ⟨#[105, 110]⟩ from rfl)]
  exact readU_text (.inr rfl) h hx
theorem readU_some {un st : Int} {pl : Nat} {mk a b c s : ByteArray} {d : D3} {un' : Int} (h : readU un st pl mk a b c s = some (d, un')) (hst : st = 100 ∨ st = 254) :
    un' = un ∧ okD d.1 d.2.1 d.2.2 = true ∧ exactS st d.1 d.2.1 d.2.2 = true ∧ bs (textL st pl mk.data.toList d.1 d.2.1 d.2.2) = s := by
  unfold readU at h
  split at h
  · rename_i n l u e1 e2 e3
    split at h
    · rename_i hc
      simp only [Option.some.injEq, Prod.mk.injEq] at h
      obtain ⟨rfl, rfl⟩ := h
      refine ⟨rfl, hc.1, ?_, hc.2⟩
      have m1 := numL_mod e1
      have m2 := numL_mod e2
      have m3 := numL_mod e3
      simp only [exactS, decide_eq_true_eq]
      rcases hst with rfl | rfl <;> omega
    · cases h
  · cases h
theorem readS_some {s : ByteArray} {n l u un : Int} (h : readS s = some ((n, l, u), un)) : (un = 1 ∨ un = 2) ∧ okD n l u = true ∧ ∃ t, writeS un n l u = (t, 0) ∧ bs t = s := by
  unfold readS at h
  split at h
  · rename_i a b c m _
    split at h
    · rename_i hm
      obtain ⟨rfl, h1, h2, h3⟩ := readU_some h (.inl rfl)
      refine ⟨.inl rfl, h1, textL 100 3 mmL n l u, ?_, ?_⟩
      · unfold writeS; rw [if_neg (by rw [show okD n l u = true from h1]; simp), if_pos rfl, if_pos h2]
      · rw [hm] at h3; exact h3
    · split at h
      · rename_i hm
        obtain ⟨rfl, h1, h2, h3⟩ := readU_some h (.inr rfl)
        refine ⟨.inr rfl, h1, textL 254 4 inL n l u, ?_, ?_⟩
        · unfold writeS; rw [if_neg (by rw [show okD n l u = true from h1]; simp), if_neg (by decide), if_pos rfl, if_pos h2]
        · rw [hm] at h3; exact h3
      · cases h
  · cases h
theorem text_size {st : Int} {pl : Nat} {mk : List UInt8} {n l u : Int} (hst : st = 100 ∨ st = 254) (hpl : pl = 3 ∨ pl = 4) (hm : mk.length ≤ 10) (h : okD n l u = true) : (bs (textL st pl mk n l u)).size ≤ 1000000 := by
  obtain ⟨h1, h2, h3, h4, h5⟩ := okD_iff.1 h
  have a := decL_len (n := n) hst hpl h1 h2
  have b := sgnL_len (n := l - n) hst hpl (by omega) (by omega)
  have c := sgnL_len (n := u - n) hst hpl (by omega) (by omega)
  rw [bs_size, textL_len]; omega

/-- The words of a text, between spaces; the first one begins with what was read of it so far. -/
def wordsL : List UInt8 → List UInt8 → List (List UInt8)
  | cur, [] => [cur]
  | cur, c :: cs => if c = 32 then cur :: wordsL [] cs else wordsL (cur ++ [c]) cs
theorem wordsL_word {w r : List UInt8} (h : ∀ c ∈ w, c ≠ 32) : ∀ cur, wordsL cur (w ++ 32 :: r) = (cur ++ w) :: wordsL [] r := by
  induction w with
  | nil => intro cur; simp [wordsL]
  | cons c w ih =>
    intro cur
    rw [List.cons_append, wordsL, if_neg (h c (by simp)), ih (fun d hd => h d (by simp [hd]))]
    simp
theorem wordsL_end {w : List UInt8} (h : ∀ c ∈ w, c ≠ 32) : ∀ cur, wordsL cur w = [cur ++ w] := by
  induction w with
  | nil => intro cur; simp [wordsL]
  | cons c w ih =>
    intro cur
    rw [wordsL, if_neg (h c (by simp)), ih (fun d hd => h d (by simp [hd]))]
    simp
theorem words_text {st : Int} {pl : Nat} {mk : List UInt8} {n l u : Int} (hst : 0 < st) (h0 : 0 ≤ n) (hm : ∀ c ∈ mk, c ≠ 32) :
    wordsL [] (textL st pl mk n l u) = [decL st pl n, sgnL st pl (l - n), sgnL st pl (u - n), mk] := by
  unfold textL
  rw [wordsL_word (decL_no32 hst h0), wordsL_word (sgnL_no32 hst), wordsL_word (sgnL_no32 hst), wordsL_end hm]
  simp

/-- The number of a text's digits, from what was read so far on. -/
def valGo : Int → List UInt8 → Int
  | s, [] => s
  | s, c :: cs => if 48 ≤ c.toNat ∧ c.toNat ≤ 57 ∧ s < 1000000000 then valGo (10 * s + ((c.toNat : Int) - 48)) cs else valGo s cs
def valL (w : List UInt8) : Int := if w.head? = some 45 then -valGo 0 w else valGo 0 w
theorem valGo_bd : ∀ (w : List UInt8) (s : Int), 0 ≤ s → s < 10000000000 → 0 ≤ valGo s w ∧ valGo s w < 10000000000
  | [], s, h0, h1 => ⟨h0, h1⟩
  | c :: w, s, h0, h1 => by
    rw [valGo]
    split
    · exact valGo_bd w _ (by omega) (by omega)
    · exact valGo_bd w _ h0 h1
theorem valL_bd (w : List UInt8) : -10000000000 < valL w ∧ valL w < 10000000000 := by
  obtain ⟨a, b⟩ := valGo_bd w 0 (by omega) (by omega)
  unfold valL; split <;> omega
theorem valGo_num {most : Int} (hm : most < 1000000000) : ∀ (w : List UInt8) (s v : Int), numGo most s w = some v → valGo s w = v
  | [], s, v, h => by simpa [numGo, valGo] using h
  | c :: w, s, v, h => by
    rw [numGo] at h
    split at h
    · rename_i hc
      rw [valGo, if_neg (by rcases hc with rfl | rfl | rfl <;> simp)]
      exact valGo_num hm w s v h
    · split at h
      · cases h
      · rename_i h1 h2
        simp only [not_or, UInt8.lt_iff_toNat_lt] at h2
        have e48 : (48 : UInt8).toNat = 48 := rfl
        have e57 : (57 : UInt8).toNat = 57 := rfl
        rw [e48, e57] at h2
        rw [valGo, if_pos ⟨by omega, by omega, by omega⟩, Int.mul_comm]
        exact valGo_num hm w _ v h
theorem valL_num {st : Int} (hst : st = 100 ∨ st = 254) {w : List UInt8} {v : Int} (h : numL st w = some v) : valL w * st = v := by
  unfold numL at h
  obtain ⟨s, hs, rfl⟩ := Option.map_eq_some_iff.1 h
  have := valGo_num (by rcases hst with rfl | rfl <;> decide) w 0 s hs
  unfold valL
  rw [this]
  split <;> rfl

/-- What the reference accepts, in a unit: the size, of three words' numbers. -/
def tryR (st : Int) (a b c : List UInt8) : D3 := (valL a * st, (valL a + valL b) * st, (valL a + valL c) * st)
def takesR (st : Int) (pl : Nat) (mk : List UInt8) (d : D3) (s : ByteArray) : Prop := okD d.1 d.2.1 d.2.2 = true ∧ bs (textL st pl mk d.1 d.2.1 d.2.2) = s
instance (st : Int) (pl : Nat) (mk : List UInt8) (d : D3) (s : ByteArray) : Decidable (takesR st pl mk d s) := by unfold takesR; infer_instance
def rreadS (s : ByteArray) : Option (D3 × Int) :=
  if 80 < s.size then none else
  match wordsL [] s.data.toList with
  | [a, b, c, _] => if takesR 100 3 mmL (tryR 100 a b c) s then some (tryR 100 a b c, 1) else if takesR 254 4 inL (tryR 254 a b c) s then some (tryR 254 a b c, 2) else none
  | _ => none
theorem exactS_try {st : Int} (hst : st = 100 ∨ st = 254) (a b c : List UInt8) : exactS st (tryR st a b c).1 (tryR st a b c).2.1 (tryR st a b c).2.2 = true := by
  simp [exactS, tryR, Int.mul_emod_left]
theorem text_size80 {st : Int} {pl : Nat} {mk : List UInt8} {n l u : Int} (hst : st = 100 ∨ st = 254) (hpl : pl = 3 ∨ pl = 4) (hm : mk.length ≤ 10) (h : okD n l u = true) : (bs (textL st pl mk n l u)).size ≤ 80 := by
  obtain ⟨h1, h2, h3, h4, h5⟩ := okD_iff.1 h
  have a := decL_len (n := n) hst hpl h1 h2
  have b := sgnL_len (n := l - n) hst hpl (by omega) (by omega)
  have c := sgnL_len (n := u - n) hst hpl (by omega) (by omega)
  rw [bs_size, textL_len]; omega
theorem try_text {st : Int} {pl : Nat} (hst : st = 100 ∨ st = 254) {n l u : Int} (h : okD n l u = true) (hx : exactS st n l u = true) :
    tryR st (decL st pl n) (sgnL st pl (l - n)) (sgnL st pl (u - n)) = (n, l, u) := by
  obtain ⟨h1, h2, h3, h4, h5⟩ := okD_iff.1 h
  obtain ⟨x1, x2, x3⟩ : n % st = 0 ∧ l % st = 0 ∧ u % st = 0 := by simpa [exactS] using hx
  have s0 : 0 < st := by omega
  have e1 := valL_num hst (numL_dec (pl := pl) s0 h1 h2 x1)
  have e2 := valL_num hst (numL_sgn (pl := pl) (n := l - n) s0 (by omega) (by omega) (by rcases hst with rfl | rfl <;> omega))
  have e3 := valL_num hst (numL_sgn (pl := pl) (n := u - n) s0 (by omega) (by omega) (by rcases hst with rfl | rfl <;> omega))
  unfold tryR
  refine Prod.ext e1 (Prod.ext ?_ ?_)
  · show (valL _ + valL _) * st = l
    rw [Int.add_mul, e1, e2]; omega
  · show (valL _ + valL _) * st = u
    rw [Int.add_mul, e1, e3]; omega
/-- What the reference reads is what is read. -/
theorem rreadS_eq (s : ByteArray) : rreadS s = readS s := by
  have no1 : readS s = none → ∀ a b c, ¬ takesR 100 3 mmL (tryR 100 a b c) s := by
    intro hr a b c ⟨h1, h2⟩
    rw [← h2, readS_text1 h1 (exactS_try (.inl rfl) a b c)] at hr
    cases hr
  have no2 : readS s = none → ∀ a b c, ¬ takesR 254 4 inL (tryR 254 a b c) s := by
    intro hr a b c ⟨h1, h2⟩
    rw [← h2, readS_text2 h1 (exactS_try (.inr rfl) a b c)] at hr
    cases hr
  cases hr : readS s with
  | none =>
    unfold rreadS
    split
    · rfl
    · split
      · rw [if_neg (no1 hr _ _ _), if_neg (no2 hr _ _ _)]
      · rfl
  | some x =>
    obtain ⟨⟨n, l, u⟩, un⟩ := x
    obtain ⟨hun, hok, t, ht, hs⟩ := readS_some hr
    unfold writeS at ht
    rw [if_neg (by rw [hok]; simp)] at ht
    rcases hun with rfl | rfl
    · rw [if_pos rfl] at ht
      split at ht
      · rename_i hx
        simp only [Prod.mk.injEq, and_true] at ht
        subst ht
        have hz := text_size80 (mk := mmL) (.inl rfl) (.inl rfl) (by decide) hok
        rw [hs] at hz
        have hw : wordsL [] s.data.toList = [decL 100 3 n, sgnL 100 3 (l - n), sgnL 100 3 (u - n), mmL] := by rw [← hs, bs_list]; exact words_text (by omega) (okD_iff.1 hok).1 (by decide)
        unfold rreadS
        rw [if_neg (by omega), hw]
        simp only
        rw [try_text (.inl rfl) hok hx, if_pos ⟨hok, hs⟩]
      · simp at ht
    · rw [if_neg (by decide), if_pos rfl] at ht
      split at ht
      · rename_i hx
        simp only [Prod.mk.injEq, and_true] at ht
        subst ht
        have hz := text_size80 (mk := inL) (.inr rfl) (.inr rfl) (by decide) hok
        rw [hs] at hz
        have hw : wordsL [] s.data.toList = [decL 254 4 n, sgnL 254 4 (l - n), sgnL 254 4 (u - n), inL] := by rw [← hs, bs_list]; exact words_text (by omega) (okD_iff.1 hok).1 (by decide)
        unfold rreadS
        rw [if_neg (by omega), hw]
        simp only
        rw [try_text (.inr rfl) hok hx, if_neg, if_pos ⟨hok, hs⟩]
        rintro ⟨h1, h2⟩
        rw [← h2, readS_text1 h1 (exactS_try (.inl rfl) _ _ _)] at hr
        simp at hr
      · simp at ht

/-- Digits, with some at least. -/
def digR (n k : Nat) : List UInt8 := if n = 0 ∧ k = 0 then [] else digR (n / 10) (k - 1) ++ [UInt8.ofNat (48 + n % 10)]
termination_by n + k
decreasing_by omega
theorem digR_zero : ∀ k, digR 0 k = List.replicate k 48
  | 0 => by rw [digR]; rfl
  | k + 1 => by
    rw [digR, if_neg (by omega), Nat.zero_div, Nat.add_sub_cancel, digR_zero k, List.replicate_succ']; rfl
theorem digR_pad (n : Nat) : ∀ k, (1 ≤ n ∨ 1 ≤ k) → digR n k = padL k (Lib.decDigits n) := by
  induction n using Nat.strongRecOn with
  | _ n ih =>
    intro k h
    rw [digR, if_neg (by omega)]
    by_cases h1 : n < 10
    · rw [Lib.decDigits_one h1, show n / 10 = 0 by omega, digR_zero, Nat.mod_eq_of_lt h1]
      unfold padL
      simp
    · rw [ih (n / 10) (by omega) _ (.inl (by omega))]
      conv => rhs; rw [Lib.decDigits, dif_neg h1]
      unfold padL
      rw [List.append_assoc, List.length_append, List.length_cons, List.length_nil]
      congr 2
      omega
theorem decL_one (st : Int) (pl : Nat) (n : Int) : decL st pl n = decL 1 pl (n / st) := by unfold decL; rw [Int.ediv_one]
theorem decL_dig {pl : Nat} {q : Int} (h : 0 ≤ q) : decL 1 pl q = dotL pl (digR q.toNat (pl + 1)) := by
  unfold decL; rw [Int.ediv_one, itoa_nat h, digR_pad _ _ (.inr (by omega))]
theorem sgnL_one {st : Int} (hst : st = 100 ∨ st = 254) (pl : Nat) {x : Int} (h : x % st = 0) : sgnL st pl x = sgnL 1 pl (x / st) := by
  have e : x / st < 0 ↔ x < 0 := by rcases hst with rfl | rfl <;> omega
  have e2 : -x / st = -(x / st) := by rcases hst with rfl | rfl <;> omega
  unfold sgnL
  simp only [e]
  rw [decL_one st pl (-x), decL_one st pl x, e2]
end Go.Proofs.YtjejjeomknkglaaDoor
