/- What is written is read: texts. -/
import Derived.Test.YtldjkdomklgmaaaDoorF9
import Derived.Test.YtldjkdomklgmaaaDoorT8
namespace Go.Proofs.YtldjkdomklgmaaaDoor
set_option linter.unusedVariables false
set_option linter.unusedSimpArgs false
open Go.RowKit

theorem bs_back (x : ByteArray) : bs x.data.toList = x := by
  apply ByteArray.ext
  simp [bs]
theorem bs_list (l : List UInt8) : (bs l).data.toList = l := by simp [bs]
theorem textL_len (st : Int) (pl : Nat) (mk : List UInt8) (n l u : Int) : (textL st pl mk n l u).length = (decL st pl n).length + (sgnL st pl (l - n)).length + (sgnL st pl (u - n)).length + mk.length + 3 := by
  unfold textL; simp; omega
theorem pieces_text {st : Int} {pl : Nat} {mk : List UInt8} {n l u : Int} (hst : 0 < st) (h0 : 0 ≤ n) :
    piecesB (bs (textL st pl mk n l u)) = [bs (decL st pl n), bs (sgnL st pl (l - n)), bs (sgnL st pl (u - n)), bs mk] := by
  have hk : min 4 ((bs (textL st pl mk n l u)).size + 1) - 1 = 3 := by
    rw [bs_size, textL_len]; omega
  have h := Lib.splitB_data ⟨#[32]⟩ 0 3 (bs (textL st pl mk n l u))
  rw [bs_list, show (⟨#[32]⟩ : ByteArray).data.toList = [32] from rfl, split_text hst h0] at h
  unfold piecesB
  rw [hk]
  have h2 := congrArg (List.map bs) h
  rw [List.map_map] at h2
  have h3 : (bs ∘ fun x : ByteArray => x.data.toList) = id := by funext x; exact bs_back x
  rw [h3, List.map_id] at h2
  exact h2
theorem numL_mod {st v : Int} {w : List UInt8} (h : numL st w = some v) : v % st = 0 := by
  unfold numL at h
  obtain ⟨s, -, rfl⟩ := Option.map_eq_some_iff.1 h
  split
  · exact Int.mul_emod_left _ _
  · exact Int.mul_emod_left _ _
theorem readU_text {un st : Int} {pl : Nat} {mk : List UInt8} {n l u : Int} (hst : st = 100 ∨ st = 254) (h : okD n l u = true) (hx : exactS st n l u = true) :
    readU un st pl (bs mk) (bs (decL st pl n)) (bs (sgnL st pl (l - n))) (bs (sgnL st pl (u - n))) (bs (textL st pl mk n l u)) = some ((n, l, u), un) := by
  obtain ⟨h1, h2, h3, h4, h5⟩ := okD_iff.1 h
  obtain ⟨x1, x2, x3⟩ : n % st = 0 ∧ l % st = 0 ∧ u % st = 0 := by simpa [exactS] using hx
  have s0 : 0 < st := by omega
  have e1 : numL st (decL st pl n) = some n := numL_dec s0 h1 h2 x1
  have e2 : numL st (sgnL st pl (l - n)) = some (l - n) := numL_sgn s0 (by omega) (by omega) (by rcases hst with rfl | rfl <;> omega)
  have e3 : numL st (sgnL st pl (u - n)) = some (u - n) := numL_sgn s0 (by omega) (by omega) (by rcases hst with rfl | rfl <;> omega)
  unfold readU
  simp only [bs_list, e1, e2, e3]
  rw [show n + (l - n) = l by omega, show n + (u - n) = u by omega, if_pos ⟨h, rfl⟩]
theorem readS_text1 {n l u : Int} (h : okD n l u = true) (hx : exactS 100 n l u = true) : readS (bs (textL 100 3 mmL n l u)) = some ((n, l, u), 1) := by
  unfold readS
  rw [pieces_text (by omega) (okD_iff.1 h).1]
  simp only
  rw [if_pos (show bs mmL = ⟨#[109, 109]⟩ from rfl)]
  exact readU_text (.inl rfl) h hx
theorem readS_text2 {n l u : Int} (h : okD n l u = true) (hx : exactS 254 n l u = true) : readS (bs (textL 254 4 inL n l u)) = some ((n, l, u), 2) := by
  unfold readS
  rw [pieces_text (by omega) (okD_iff.1 h).1]
  simp only
  rw [if_neg (show ¬ bs inL = ⟨#[109, 109]⟩ by decide), if_pos (show bs inL = ⟨#[105, 110]⟩ from rfl)]
  exact readU_text (.inr rfl) h hx
theorem readU_some {un st : Int} {pl : Nat} {mk a b c s : ByteArray} {d : D3} {un' : Int} (h : readU un st pl mk a b c s = some (d, un')) (hst : st = 100 ∨ st = 254) :
    un' = un ∧ okD d.1 d.2.1 d.2.2 = true ∧ exactS st d.1 d.2.1 d.2.2 = true ∧ bs (textL st pl mk.data.toList d.1 d.2.1 d.2.2) = s := by
  unfold readU at h
  split at h
  · rename_i n l u e1 e2 e3
    split at h
    · rename_i hc
      simp only [Option.some.injEq, Prod.mk.injEq] at h
      obtain ⟨rfl, rfl⟩ := h
      refine ⟨rfl, hc.1, ?_, hc.2⟩
      have m1 := numL_mod e1
      have m2 := numL_mod e2
      have m3 := numL_mod e3
      simp only [exactS, decide_eq_true_eq]
      rcases hst with rfl | rfl <;> omega
    · cases h
  · cases h
theorem readS_some {s : ByteArray} {n l u un : Int} (h : readS s = some ((n, l, u), un)) : (un = 1 ∨ un = 2) ∧ okD n l u = true ∧ ∃ t, writeS un n l u = (t, 0) ∧ bs t = s := by
  unfold readS at h
  split at h
  · rename_i a b c m _
    split at h
    · rename_i hm
      obtain ⟨rfl, h1, h2, h3⟩ := readU_some h (.inl rfl)
      refine ⟨.inl rfl, h1, textL 100 3 mmL n l u, ?_, ?_⟩
      · unfold writeS; rw [if_neg (by rw [show okD n l u = true from h1]; simp), if_pos rfl, if_pos h2]
      · rw [hm] at h3; exact h3
    · split at h
      · rename_i hm
        obtain ⟨rfl, h1, h2, h3⟩ := readU_some h (.inr rfl)
        refine ⟨.inr rfl, h1, textL 254 4 inL n l u, ?_, ?_⟩
        · unfold writeS; rw [if_neg (by rw [show okD n l u = true from h1]; simp), if_neg (by decide), if_pos rfl, if_pos h2]
        · rw [hm] at h3; exact h3
      · cases h
  · cases h
theorem text_size {st : Int} {pl : Nat} {mk : List UInt8} {n l u : Int} (hst : st = 100 ∨ st = 254) (hpl : pl = 3 ∨ pl = 4) (hm : mk.length ≤ 10) (h : okD n l u = true) : (bs (textL st pl mk n l u)).size ≤ 1000000 := by
  obtain ⟨h1, h2, h3, h4, h5⟩ := okD_iff.1 h
  have a := decL_len (n := n) hst hpl h1 h2
  have b := sgnL_len (n := l - n) hst hpl (by omega) (by omega)
  have c := sgnL_len (n := u - n) hst hpl (by omega) (by omega)
  rw [bs_size, textL_len]; omega
/-- What is known of a size in the unit, and of its text. -/
theorem written_facts {un st n l u : Int} (hun : (st = 100 ∧ un = 1) ∨ (st = 254 ∧ un = 2)) (h : okD n l u = true) :
    (exactS st n l u = true ∧ (exactU n l u = un ∨ exactU n l u = 3) ∧ ∃ t, writeS un n l u = (t, 0) ∧ readS (bs t) = some ((n, l, u), un) ∧ (bs t).size ≤ 1000000) ∨ (exactS st n l u = false ∧ (exactU n l u = 0 ∨ exactU n l u = 3 - un) ∧ ∃ t, writeS un n l u = (t, 12)) := by
  cases hx : exactS st n l u
  · refine .inr ⟨rfl, ?_, ?_⟩
    · rcases exactU_cases n l u with ⟨a, b, e⟩ | ⟨a, b, e⟩ | ⟨a, b, e⟩ | ⟨a, b, e⟩ <;> rw [e] <;> rcases hun with ⟨rfl, rfl⟩ | ⟨rfl, rfl⟩
      all_goals first | exact .inl rfl | exact .inr rfl | (rw [hx] at a; cases a) | (rw [hx] at b; cases b)
    · rcases write_facts hun h with ⟨a, -⟩ | ⟨-, t, e⟩
      · rw [hx] at a; cases a
      · exact ⟨t, e⟩
  · refine .inl ⟨rfl, ?_, ?_⟩
    · rcases exactU_cases n l u with ⟨a, b, e⟩ | ⟨a, b, e⟩ | ⟨a, b, e⟩ | ⟨a, b, e⟩ <;> rw [e] <;> rcases hun with ⟨rfl, rfl⟩ | ⟨rfl, rfl⟩
      all_goals first | exact .inl rfl | exact .inr rfl | (rw [hx] at a; cases a) | (rw [hx] at b; cases b)
    · rcases hun with ⟨rfl, rfl⟩ | ⟨rfl, rfl⟩
      · exact ⟨_, by unfold writeS; rw [if_neg (by rw [h]; simp), if_pos rfl, if_pos hx], readS_text1 h hx, text_size (.inl rfl) (.inl rfl) (by decide) h⟩
      · exact ⟨_, by unfold writeS; rw [if_neg (by rw [h]; simp), if_neg (by decide), if_pos rfl, if_pos hx], readS_text2 h hx, text_size (.inr rfl) (.inr rfl) (by decide) h⟩
end Go.Proofs.YtldjkdomklgmaaaDoor
