/- The walks of package size: a size is written. -/
import Derived.Test.YtjejjeomknkglaaDoorT1
import Derived.IntWalk
namespace Go.Proofs.YtjejjeomknkglaaDoor
set_option linter.unusedVariables false
set_option linter.unusedSimpArgs false
open Go.RowKit Go.Sort

theorem add_ok (a b : ByteArray) (h : a.size + b.size ≤ 1000) : ∀ W, (Op.stringOp .add a b).run Tryd.prog W = .ok (.string (a ++ b)) W := fun W => run_string_add_sum W a b (by omega)
theorem decL_len {st n : Int} {pl : Nat} (hst : st = 100 ∨ st = 254) (hpl : pl = 3 ∨ pl = 4) (h0 : 0 ≤ n) (h1 : n ≤ 1000000000) : (decL st pl n).length ≤ 12 := by
  have q0 : 0 ≤ n / st := by rcases hst with rfl | rfl <;> omega
  have q1 : n / st ≤ 1000000000 := by rcases hst with rfl | rfl <;> omega
  have hl : (Lib.itoa (n / st)).length ≤ 10 := by
    rw [itoa_nat q0, Lib.decDigits_length]; exact nDigits_le10 (by omega)
  unfold decL dotL padL
  simp
  omega
theorem sgnL_len {st n : Int} {pl : Nat} (hst : st = 100 ∨ st = 254) (hpl : pl = 3 ∨ pl = 4) (h0 : -1000000000 ≤ n) (h1 : n ≤ 1000000000) : (sgnL st pl n).length ≤ 13 := by
  unfold sgnL
  split
  · have := decL_len (n := -n) hst hpl (by omega) (by omega); simp; omega
  · have := decL_len (n := n) hst hpl (by omega) (by omega); simp; omega

set_option maxHeartbeats 1000000 in
theorem signed_any (un st n : Int) (pl : Nat) (m : ByteArray) (b1 b2 : Nat) (w : World) (he : Env w) (hst : st = 100 ∨ st = 254) (hpl : pl = 3 ∨ pl = 4) (h0 : -1000000000 ≤ n) (h1 : n ≤ 1000000000) :
    Calls Tryd.prog 47 #[.agg #[.int .u8 un, .int .i64 st, .int .i64 (pl : Int), .string m, .func (.func 57) #[] #[.pointer (some ⟨b1, 0, none⟩)], .func (.func 58) #[] #[.pointer (some ⟨b1, 0, none⟩)], .func (.func 59) #[] #[.pointer (some ⟨b2, 0, none⟩), .pointer (some ⟨b1, 0, none⟩)]], .int .i64 n] w fun e w' => e = .returned (.string (bs (sgnL st pl n))) ∧ Below w.heap.size w w' := by
  have HD := Lib.hid (fun (k : Int) W (hW : Below w.heap.size w W) => decimal_any un st k pl m b1 b2 W (he.after hW) hst hpl)
  have HL := Lib.hid (fun (k : Int) => decL_len (n := k) hst hpl)
  clear he hst hpl
  unfold sgnL
  by_cases hn : n < 0
  · rw [if_pos hn]
    go_enter Tryd.func47, Tryd.ntmps47
    go_wp2_with fail
    refine (HD.out (-n) _ (by (repeat' (first | (with_reducible exact Below.refl _ _) | (with_reducible assumption) | (with_reducible refine Below.alloc ?_ ?_ _) | (with_reducible refine Below.setCell ?_ ?_ _) | (with_reducible refine below_row ?_ ?_ _) | (with_reducible refine Below.drew ?_) | (with_reducible refine below_drewN ?_ _) | (with_reducible refine Below.trans ?_ (Below.mono (by assumption) ?_)) | (first | exact Nat.le_refl _ | omega | (simp; done) | (simp; omega))))) (by omega) (by omega)).mono ?_
    rintro e w1 ⟨rfl, hb1⟩
    have s1 := hb1.size; try simp only [World.size_alloc, World.size_setCell, World.size_drew, setRow_size] at s1
    have hl := HL.out (-n) (by omega) (by omega)
    rw [← bs_size] at hl
    clear HL HD
    generalize hB : bs (decL st pl (-n)) = B at *
    have HB := Lib.hid hB
    clear hB
    have hadd := add_ok (⟨#[45]⟩ : ByteArray) B (by show 1 + B.size ≤ 1000; omega)
    go_wp2
    go_ret
    exact ⟨ret_str (by rw [← HB.out, show (⟨#[45]⟩ : ByteArray) = bs [45] from rfl, bs_append]; rfl), by (repeat' (first | (with_reducible exact Below.refl _ _) | (with_reducible assumption) | (with_reducible refine Below.alloc ?_ ?_ _) | (with_reducible refine Below.setCell ?_ ?_ _) | (with_reducible refine below_row ?_ ?_ _) | (with_reducible refine Below.drew ?_) | (with_reducible refine below_drewN ?_ _) | (with_reducible refine Below.trans ?_ (Below.mono (by assumption) ?_)) | (first | exact Nat.le_refl _ | omega | (simp; done) | (simp; omega))))⟩
  · rw [if_neg hn]
    go_enter Tryd.func47, Tryd.ntmps47
    go_wp2_with fail
    refine (HD.out n _ (by (repeat' (first | (with_reducible exact Below.refl _ _) | (with_reducible assumption) | (with_reducible refine Below.alloc ?_ ?_ _) | (with_reducible refine Below.setCell ?_ ?_ _) | (with_reducible refine below_row ?_ ?_ _) | (with_reducible refine Below.drew ?_) | (with_reducible refine below_drewN ?_ _) | (with_reducible refine Below.trans ?_ (Below.mono (by assumption) ?_)) | (first | exact Nat.le_refl _ | omega | (simp; done) | (simp; omega))))) (by omega) (by omega)).mono ?_
    rintro e w1 ⟨rfl, hb1⟩
    have s1 := hb1.size; try simp only [World.size_alloc, World.size_setCell, World.size_drew, setRow_size] at s1
    have hl := HL.out n (by omega) (by omega)
    rw [← bs_size] at hl
    clear HL HD
    generalize hB : bs (decL st pl n) = B at *
    have HB := Lib.hid hB
    clear hB
    have hadd := add_ok (⟨#[43]⟩ : ByteArray) B (by show 1 + B.size ≤ 1000; omega)
    go_wp2
    go_ret
    exact ⟨ret_str (by rw [← HB.out, show (⟨#[43]⟩ : ByteArray) = bs [43] from rfl, bs_append]; rfl), by (repeat' (first | (with_reducible exact Below.refl _ _) | (with_reducible assumption) | (with_reducible refine Below.alloc ?_ ?_ _) | (with_reducible refine Below.setCell ?_ ?_ _) | (with_reducible refine below_row ?_ ?_ _) | (with_reducible refine Below.drew ?_) | (with_reducible refine below_drewN ?_ _) | (with_reducible refine Below.trans ?_ (Below.mono (by assumption) ?_)) | (first | exact Nat.le_refl _ | omega | (simp; done) | (simp; omega))))⟩

end Go.Proofs.YtjejjeomknkglaaDoor
