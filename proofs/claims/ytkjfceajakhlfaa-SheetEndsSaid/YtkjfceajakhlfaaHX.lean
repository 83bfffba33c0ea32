/- HN: Letters and drawings by choices: that they are letters and drawings. HA: Lists of choices (by) and small numbers among a law's arguments, opened. HB: choose, drawing, has: what the outright laws take their inputs by. HL: letters: letters of a register, by choices. -/
import Derived.Test.YtkjfceajakhlfaaLF
import Derived.Test.YtkjfceajakhlfaaLO
import Derived.Test.YtkjfceajakhlfaaLG
import Derived.Deep.RegionHeld3
import Derived.IntWalk
namespace Go.Proofs.Ytkjfceajakhlfaa
set_option linter.unusedVariables false
set_option linter.unusedSimpArgs false
section
open Go.RowKit

/-- The number of a list with an index, which goes round. -/
def chooseF (by_ : List Int) (i : Nat) : Int := if by_.length = 0 then 0 else by_.getD (i % by_.length) 0
def letterF (xs : List Iss) (by_ : List Int) (i : Nat) (d : Int) : Int := 1 + (chooseF by_ i).tmod (lastOfR d 0 xs)
/-- Letters, by choices. -/
def lettersF (xs : List Iss) (by_ : List Int) : List Int := (List.range (numbersL xs).length).map fun i => letterF xs by_ i ((numbersL xs).getD i 0)
/-- A drawing, by a number. -/
def drawF (xs : List Iss) (n : Nat) : Int := (numbersL xs).getD (n % (numbersL xs).length) 0
theorem choose_bd {by_ : List Int} (h : ∀ x ∈ by_, 0 ≤ x ∧ x ≤ 4294967295) (i : Nat) : 0 ≤ chooseF by_ i ∧ chooseF by_ i ≤ 4294967295 := by
  unfold chooseF
  split
  · omega
  · rename_i h0
    have hlt : i % by_.length < by_.length := Nat.mod_lt _ (by omega)
    rw [List.getD_eq_getElem?_getD, List.getElem?_eq_getElem hlt]
    exact h _ (List.getElem_mem hlt)
theorem numbers_pos {xs : List Iss} (h : layE xs = 0) : 0 < (numbersL xs).length := by
  obtain ⟨⟨h1, -⟩, h2, -⟩ := layE_ok h
  have := numbers_has h2 xs[0] (List.getElem_mem (by omega))
  exact List.length_pos_of_mem this
theorem draw_mem {xs : List Iss} (h : layE xs = 0) (n : Nat) : drawF xs n ∈ numbersL xs := by
  have hlt : n % (numbersL xs).length < (numbersL xs).length := Nat.mod_lt _ (numbers_pos h)
  unfold drawF
  rw [List.getD_eq_getElem?_getD, List.getElem?_eq_getElem hlt]
  exact List.getElem_mem hlt
theorem last_pos {xs : List Iss} (h : layE xs = 0) {d : Int} (hd : d ∈ numbersL xs) : 1 ≤ lastOfR d 0 xs := by
  obtain ⟨-, h2, -⟩ := layE_ok h
  obtain ⟨x, hx, hl, rfl⟩ := numbers_mem hd
  have h1 : hasN xs x.d 1 = true := hasN_iff.2 ⟨x, hx, rfl, hl⟩
  rw [letter_iff h2 (numbers_in h2 _ hd).1] at h1
  unfold inB at h1
  simp at h1
  omega
theorem letter_has {xs : List Iss} (h : layE xs = 0) {d c : Int} (hd : d ∈ numbersL xs) (hc : 0 ≤ c) : hasN xs d (1 + c.tmod (lastOfR d 0 xs)) = true := by
  obtain ⟨-, h2, -⟩ := layE_ok h
  have h1 := last_pos h hd
  rw [letter_iff h2 (numbers_in h2 _ hd).1, Int.tmod_eq_emod_of_nonneg hc]
  have h3 : 0 ≤ c % lastOfR d 0 xs := Int.emod_nonneg _ (by omega)
  have h4 : c % lastOfR d 0 xs < lastOfR d 0 xs := Int.emod_lt_of_pos _ (by omega)
  unfold inB
  simp
  omega
theorem letters_len (xs : List Iss) (by_ : List Int) : (lettersF xs by_).length = (numbersL xs).length := by simp [lettersF]
theorem letters_ok {xs : List Iss} (h : layE xs = 0) {by_ : List Int} (hb : ∀ x ∈ by_, 0 ≤ x ∧ x ≤ 4294967295) : lettersB xs (numbersL xs) (lettersF xs by_) = true := by
  refine lettersB_iff.2 ⟨letters_len xs by_, fun i hi hi2 => ?_⟩
  have e : (lettersF xs by_)[i] = letterF xs by_ i (numbersL xs)[i] := by simp [lettersF, hi]
  rw [e]
  exact letter_has h (List.getElem_mem hi) (choose_bd hb i).1
theorem letters_set {xs : List Iss} {zs ls : List Int} (h : lettersB xs zs ls = true) {p : Nat} (hp : p < zs.length) {v : Int} (hv : hasN xs zs[p] v = true) : lettersB xs zs (ls.set p v) = true := by
  obtain ⟨h1, h2⟩ := lettersB_iff.1 h
  refine lettersB_iff.2 ⟨by rw [List.length_set]; exact h1, fun i hi hi2 => ?_⟩
  rw [List.getElem_set]
  split
  · rename_i e; subst e; exact hv
  · exact h2 i hi (by simpa using hi2)
theorem ask_ok {xs : List Iss} {ls : List Int} {d : Int} (h : layE xs = 0) (hl : lettersB xs (numbersL xs) ls = true) (hd : d ∈ numbersL xs) : askE xs ls d = 0 := by
  unfold askE
  rw [if_neg (by simpa using h), if_neg (by simp [hl]), if_pos hd]
end
section
open Go.ChangeShapes Go.WideShapes Go.ChangeAt Go.RowKit

/-- A list of choices in memory. -/
def ByAt (w : World) (v : Value) (l : List Int) : Prop :=
  (∃ A c b off, v = .slice A l.length c ∧ (0 < l.length → A = some ⟨b, off, none⟩) ∧ ∀ i (h : i < l.length), w.cell? ⟨b, off + i, none⟩ = some (.int .u32 l[i])) ∧ ∀ x ∈ l, 0 ≤ x ∧ x ≤ 4294967295
theorem ByAt.after {w w' : World} {v : Value} {l : List Int} (h : ByAt w v l) (hb : Below w.heap.size w w') : ByAt w' v l := by
  obtain ⟨⟨A, c, b, off, hv, hA, hc⟩, hx⟩ := h
  exact ⟨⟨A, c, b, off, hv, hA, fun i hi => cell_keep hb (hc i hi)⟩, hx⟩
theorem ByAt.slice {w : World} {v : Value} {l : List Int} (h : ByAt w v l) : ∃ A c, v = .slice A l.length c := by
  obtain ⟨⟨A, c, b, off, hv, hA, hc⟩, hx⟩ := h
  exact ⟨A, c, hv⟩
theorem cells_u32 : Try.prog.cellsOf 179 = 1 := by kernel_rfl
theorem one_u32 {H : Type} {enc : TypeId × Value → H} {W : World} (fuel : Nat) (cs : List Value) (y : DataW H × List MemPlace) (h : DataW.trod enc Try.prog W 0 (fun _ => true) true fuel 179 cs = some y) : ∃ x : Int, cs = [.int .u32 x] ∧ 0 ≤ x ∧ x ≤ 4294967295 := by
  obtain ⟨n, e, hw⟩ := int_one Try.underlying179 h
  simp [Lit.wf] at hw
  refine ⟨n, e, ?_, ?_⟩
  · have := hw.1; rw [show IntKind.u32.min = (0 : Int) from rfl] at this; exact this
  · have := hw.2; rw [show IntKind.u32.max = (4294967295 : Int) from rfl] at this; exact this
theorem by_open {H : Type} {enc : TypeId × Value → H} {W : World} {fuel : Nat} {v : Value} {y : DataW H × List MemPlace} (hv : ∃ a l c, v = .slice a l c) (h : DataW.trod enc Try.prog W 0 (fun _ => true) true fuel 96 v.cells.toList = some y) : ∃ l, ByAt W v l ∧ NilOk v ∧ l.length ≤ maxLen := by
  rcases row_open 1 Try.underlying96 cells_u32 (by decide) (fun cs (x : Int) => cs = [.int .u32 x] ∧ 0 ≤ x ∧ x ≤ 4294967295) one_u32 hv h with rfl | ⟨b, off, ad, l, c, rfl, hm, ha, hi⟩
  · exact ⟨[], ⟨⟨none, 0, 0, 0, rfl, fun h => absurd h (by simp), fun i h => absurd h (by simp)⟩, fun x h => absurd h (by simp)⟩, fun n c e => by injection e with _ _ e; exact e.symm, by unfold maxLen; simp⟩
  · refine ⟨l, ⟨⟨some ad, c, b, off, rfl, fun h => by rw [ha h], fun i hl => ?_⟩, fun x hx => ?_⟩, (fun n c e => by injection e with e; cases e), hm⟩
    · obtain ⟨cs, ⟨rfl, -⟩, -, hj⟩ := hi i hl
      have := hj 0 (by omega)
      rw [Nat.mul_one, Nat.add_zero] at this
      exact this
    · obtain ⟨i, hil, rfl⟩ := List.getElem_of_mem hx
      obtain ⟨cs, ⟨-, h1⟩, -⟩ := hi i hil
      exact h1
set_option maxRecDepth 100000 in
/-- A list of choices, opened. -/
theorem open_by {H : Type} {enc : TypeId × Value → H} {W : World} {base : Nat} {v : Value} {d : DataW H} {p : List MemPlace} (hv : Value.okWide Try.prog W .any base 96 v) (h : DataW.Trod enc Try.prog W 0 (fun _ => true) true 96 v d p) : ∃ ls, ByAt W v ls ∧ NilOk v ∧ ls.length ≤ maxLen := by
  obtain ⟨fuel, hf⟩ := h
  exact by_open (okWide_slice Try.underlying96 hv) hf
end
section
open Go.RowKit

theorem idx_wrap {i n : Nat} (hi : i ≤ 1000) (hn : 0 < n) (h : n ≤ 9223372036854775807) : (i : Int).tmod (n : Int) = ((i % n : Nat) : Int) := by
  rw [Int.tmod_eq_emod_of_nonneg (by omega)]; rfl
set_option maxHeartbeats 2000000 in
theorem lchoose_any {w : World} {v : Value} {by_ : List Int} (i : Nat) (hi : i ≤ 1000) (h : ByAt w v by_) (hl : by_.length ≤ 9223372036854775807) :
    Calls Try.prog 102 #[v, .int .i64 (i : Int)] w fun e w' => e = .returned (.int .i64 (chooseF by_ i)) ∧ Below w.heap.size w w' := by
  have hbd := choose_bd h.2 i
  obtain ⟨⟨A, c, b, off, rfl, hA, hc⟩, -⟩ := h
  by_cases h0 : by_.length = 0
  · have HR : Hid (chooseF by_ i = 0) := Lib.hid (by unfold chooseF; rw [if_pos h0])
    have hz : ((by_.length : Int) == 0) = true := by rw [h0]; rfl
    clear hA hc hbd
    go_enter Try.func102, Try.ntmps102
    go_wp2
    go_ret
    exact ⟨ret_int HR.out.symm, by (repeat' (first | (with_reducible first | exact Below.refl _ _ | assumption | refine Below.alloc ?_ ?_ _ | refine Below.setCell ?_ ?_ _ | refine below_row ?_ ?_ _ | refine Below.drew ?_ | refine below_drewN ?_ _ | refine Below.trans ?_ (Below.mono (by assumption) ?_)) | exact Nat.le_refl _ | omega | (simp; done) | (simp; omega) | exact Below.size (by assumption)))⟩
  · have hz : ((by_.length : Int) == 0) = false := by rw [beq_eq_false_iff_ne]; omega
    have hz3 : ¬ (by_.length : Int) = 0 := by omega
    have hlt : i % by_.length < by_.length := Nat.mod_lt _ (by omega)
    have hm := idx_wrap hi (by omega) hl
    have HR : Hid (chooseF by_ i = by_[i % by_.length]) := Lib.hid (by unfold chooseF; rw [if_neg h0, List.getD_eq_getElem?_getD, List.getElem?_eq_getElem hlt]; rfl)
    obtain rfl := hA (by omega)
    have r0 := hc (i % by_.length) hlt
    rw [← HR.out] at r0
    generalize chooseF by_ i = x at *
    have k1 : IntKind.i64.wrap x = x := IntWalk.i64_in _ (by omega)
    have k2 : IntKind.i64.wrap ((i % by_.length : Nat) : Int) = ((i % by_.length : Nat) : Int) := IntWalk.i64_in _ (by omega)
    generalize i % by_.length = j at *
    clear hA hc HR h0
    go_enter Try.func102, Try.ntmps102
    go_wp2
    go_ret
    exact ⟨rfl, by (repeat' (first | (with_reducible first | exact Below.refl _ _ | assumption | refine Below.alloc ?_ ?_ _ | refine Below.setCell ?_ ?_ _ | refine below_row ?_ ?_ _ | refine Below.drew ?_ | refine below_drewN ?_ _ | refine Below.trans ?_ (Below.mono (by assumption) ?_)) | exact Nat.le_refl _ | omega | (simp; done) | (simp; omega) | exact Below.size (by assumption)))⟩
set_option maxHeartbeats 2000000 in
theorem drawing_any {w : World} {vI : Value} {xs : List Iss} (n : Nat) (hn : n ≤ 255) (h : RegAt w vI xs) (h0 : layE xs = 0) :
    Calls Try.prog 58 #[.agg #[vI], .int .u8 (n : Int)] w fun e w' => e = .returned (.int .i64 (drawF xs n)) ∧ Below w.heap.size w w' := by
  have HN := Lib.hid (fun W (hW : Below w.heap.size w W) => rNumbers_v (h.after hW))
  have hp := numbers_pos h0
  have hsm := (layE_ok h0).2.2.1
  have hns := numbers_same (layE_ok h0).2.1
  rw [hns] at HN
  have hlt : n % (numbersL xs).length < (numbersL xs).length := Nat.mod_lt _ hp
  have HR : Hid (drawF xs n = (numbersL xs)[n % (numbersL xs).length]) := Lib.hid (by unfold drawF; rw [List.getD_eq_getElem?_getD, List.getElem?_eq_getElem hlt]; rfl)
  generalize drawF xs n = x at *
  clear h h0 hns
  generalize numbersL xs = zs at *
  have hm := idx_wrap (i := n) (n := zs.length) (by omega) (by omega) (by omega)
  have k0 : IntKind.i64.wrap (n : Int) = (n : Int) := IntWalk.i64_in _ (by omega)
  have k2 : IntKind.i64.wrap ((n % zs.length : Nat) : Int) = ((n % zs.length : Nat) : Int) := IntWalk.i64_in _ (by omega)
  have hz2 : ((zs.length : Int) == 0) = false := by rw [beq_eq_false_iff_ne]; omega
  have hz3 : ¬ (zs.length : Int) = 0 := by omega
  go_enter Try.func58, Try.ntmps58
  go_wp2_with fail
  refine (HN.out _ (by (repeat' (first | (with_reducible first | exact Below.refl _ _ | assumption | refine Below.alloc ?_ ?_ _ | refine Below.setCell ?_ ?_ _ | refine below_row ?_ ?_ _ | refine Below.drew ?_ | refine below_drewN ?_ _ | refine Below.trans ?_ (Below.mono (by assumption) ?_)) | exact Nat.le_refl _ | omega | (simp; done) | (simp; omega) | exact Below.size (by assumption))))).mono ?_
  rintro e w1 ⟨v, rfl, ho, hb⟩
  have hi := ints_of_own ho
  obtain ⟨A, c, b, off, rfl, hA, hc⟩ := hi
  obtain rfl := hA (by omega)
  have r0 := hc (n % zs.length) hlt
  rw [← HR.out] at r0
  generalize n % zs.length = j at *
  clear hA hc HR ho
  go_wp2
  go_ret
  exact ⟨rfl, by (repeat' (first | (with_reducible first | exact Below.refl _ _ | assumption | refine Below.alloc ?_ ?_ _ | refine Below.setCell ?_ ?_ _ | refine below_row ?_ ?_ _ | refine Below.drew ?_ | refine below_drewN ?_ _ | refine Below.trans ?_ (Below.mono (by assumption) ?_)) | exact Nat.le_refl _ | omega | (simp; done) | (simp; omega) | exact Below.size (by assumption)))⟩
set_option maxHeartbeats 1000000 in
theorem has_any {w : World} {v : Value} {l : List Int} (n : Int) (h : IntsAt w v l) (hl : l.length ≤ 1000) :
    Calls Try.prog 61 #[v, .int .i64 n] w fun e w' => e = .returned (.bool (decide (n ∈ l))) ∧ Below w.heap.size w w' := by
  obtain ⟨A, c, b, off, rfl, hA, hc⟩ := h
  have HI := Lib.hid (rIndex_any A c b off l n w hA hl hc)
  have HR : Hid (decide (n ∈ l) = decide (0 ≤ idxL l n)) := Lib.hid (by rw [Bool.eq_iff_iff]; simp only [decide_eq_true_eq]; exact idxL_mem.symm)
  generalize decide (n ∈ l) = r at *
  clear hA hc
  generalize idxL l n = k at *
  go_enter Try.func61, Try.ntmps61
  go_wp2_with fail
  refine HI.out.mono ?_
  rintro e w1 ⟨rfl, rfl⟩
  go_wp2
  go_ret
  exact ⟨ret_bool (by rw [HR.out]), by (repeat' (first | (with_reducible first | exact Below.refl _ _ | assumption | refine Below.alloc ?_ ?_ _ | refine Below.setCell ?_ ?_ _ | refine below_row ?_ ?_ _ | refine Below.drew ?_ | refine below_drewN ?_ _ | refine Below.trans ?_ (Below.mono (by assumption) ?_)) | exact Nat.le_refl _ | omega | (simp; done) | (simp; omega) | exact Below.size (by assumption)))⟩
end
theorem emod_le {c L : Int} (h : 0 ≤ c) (hL : 0 ≤ L) : c % L ≤ c := by
  have h1 := Int.mul_nonneg hL (Int.ediv_nonneg h hL)
  have h2 := Int.mul_ediv_add_emod c L
  omega
end Go.Proofs.Ytkjfceajakhlfaa
