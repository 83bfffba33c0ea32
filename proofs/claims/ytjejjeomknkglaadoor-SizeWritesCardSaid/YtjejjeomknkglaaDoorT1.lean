/- The walks of package size: a number is written. -/
import Derived.Test.YtjejjeomknkglaaDoorB5
import Derived.Test.YtjejjeomknkglaaDoorT0
import Derived.Test.YtjejjeomknkglaaDoorShelf
namespace Go.Proofs.YtjejjeomknkglaaDoor
set_option linter.unusedVariables false
set_option linter.unusedSimpArgs false
open Go.RowKit Go.Sort

/-- What the library's variables hold, of which its contracts speak. -/
def Env (w : World) : Prop := Lib.TabIs Tryd.prog w "internal/strconv.uint64pow10" .u64 Lib.pow10Tab ∧ ∃ m, w.cell? ⟨0, 0, none⟩ = some (.int .i64 m)
theorem glob10 : Tryd.prog.globalNamed "internal/strconv.uint64pow10" = some 1 := by kernel_rfl
theorem var?_below {P : Program} {B : Nat} {w w' : World} {n : String} {g : Nat} {cs : Array Value} (hg : P.globalNamed n = some g) (h : w.var? P n = some cs) (hb : Below B w w') (hB : w.heap.size ≤ B) : w'.var? P n = some cs := by
  unfold World.var? at *
  rw [hg] at *
  simp only [Option.bind_some] at *
  have hlt : g < w.heap.size := by
    by_cases hlt : g < w.heap.size
    · exact hlt
    · rw [Array.getElem?_eq_none (Nat.le_of_not_lt hlt)] at h; cases h
  rw [hb.block g (by omega)]
  exact h
theorem Env.keep {B : Nat} {w w' : World} (h : Env w) (hb : Below B w w') (hB : w.heap.size ≤ B) : Env w' := by
  obtain ⟨h1, m, h2⟩ := h
  refine ⟨var?_below glob10 h1 hb hB, m, ?_⟩
  have := World.block_lt_of_cell? w _ h2
  exact (hb.cell (Nat.lt_of_lt_of_le this hB)).trans h2
theorem Env.after {w w' : World} (h : Env w) (hb : Below w.heap.size w w') : Env w' := h.keep hb (Nat.le_refl _)

/-- Itoa. -/
theorem itoa_any (n : Int) (h0 : -9223372036854775808 ≤ n) (h1 : n ≤ 9223372036854775807) (w : World) (he : Env w) :
    Calls Tryd.prog 60 #[.int .i64 n] w fun e w' => e = .returned (.string ⟨(Lib.itoa n).toArray⟩) ∧ Below w.heap.size w w' := by
  refine (Tryd.strconv_Itoa n h0 h1 w he.1).mono ?_
  rintro e w' ⟨rfl, k, os, rfl⟩
  refine ⟨rfl, rfl, rfl, rfl, by simp [grow], fun i hi => ?_⟩
  show (w.heap ++ os)[i]? = _
  rw [Array.getElem?_append_left hi]

theorem nDigits_le10 {u : Nat} (h : u ≤ 1000000000) : Lib.nDigits u ≤ 10 := by
  have step : ∀ (k u : Nat), u < 10 ^ (k + 1) → Lib.nDigits u ≤ k + 1 := by
    intro k
    induction k with
    | zero => intro u hu; rw [Lib.nDigits_small (by simpa using hu)]; omega
    | succ k ih =>
      intro u hu
      by_cases h10 : u < 10
      · rw [Lib.nDigits_small h10]; omega
      · rw [Lib.nDigits_big h10]
        have := ih (u / 10) (by rw [Nat.pow_succ] at hu; omega)
        omega
  exact step 9 u (by omega)
def bs (l : List UInt8) : ByteArray := ⟨l.toArray⟩
theorem bs_size (l : List UInt8) : (bs l).size = l.length := by simp [bs, ByteArray.size]
theorem bs_append (a b : List UInt8) : bs a ++ bs b = bs (a ++ b) := by
  apply ByteArray.ext
  simp [bs]

theorem dot_cut (f : List UInt8) (pl : Nat) (B : ByteArray) (hB : B = bs f) (h : pl ≤ B.size) : B.extract 0 (B.size - pl) ++ ⟨#[46]⟩ ++ B.extract (B.size - pl) B.size = bs (dotL pl f) := by
  subst hB
  rw [bs_size] at *
  apply ByteArray.ext
  unfold dotL
  simp [bs]
  rw [List.take_of_length_le (l := List.drop _ _) (by simp)]
theorem ret_str {a b : ByteArray} (h : a = b) : Ending.returned (.string a) = .returned (.string b) := by rw [h]
set_option maxHeartbeats 1000000 in
theorem decimal_any (un st n : Int) (pl : Nat) (m : ByteArray) (b1 b2 : Nat) (w : World) (he : Env w) (hst : st = 100 ∨ st = 254) (hpl : pl = 3 ∨ pl = 4) (h0 : 0 ≤ n) (h1 : n ≤ 1000000000) :
    Calls Tryd.prog 46 #[.agg #[.int .u8 un, .int .i64 st, .int .i64 (pl : Int), .string m, .func (.func 57) #[] #[.pointer (some ⟨b1, 0, none⟩)], .func (.func 58) #[] #[.pointer (some ⟨b1, 0, none⟩)], .func (.func 59) #[] #[.pointer (some ⟨b2, 0, none⟩), .pointer (some ⟨b1, 0, none⟩)]], .int .i64 n] w fun e w' => e = .returned (.string (bs (decL st pl n))) ∧ Below w.heap.size w w' := by
  have q0 : 0 ≤ n / st := by rcases hst with rfl | rfl <;> omega
  have q1 : n / st ≤ 1000000000 := by rcases hst with rfl | rfl <;> omega
  have s0 : 0 < st := by omega
  have HI := Lib.hid (fun W hW => itoa_any (n / st) (by omega) (by omega) W hW)
  have HE := Lib.hid (fun W (hW : Below w.heap.size w W) => he.after hW)
  have hd1 : 1 ≤ (Lib.itoa (n / st)).length := by rw [itoa_nat q0, Lib.decDigits_length]; exact Lib.nDigits_pos _
  have hd2 : (Lib.itoa (n / st)).length ≤ 10 := by
    rw [itoa_nat q0, Lib.decDigits_length]
    exact nDigits_le10 (by omega)
  have p1 : (pl : Int) ≤ 4 := by omega
  have p0 : (3 : Int) ≤ pl := by omega
  unfold decL
  clear he
  generalize Lib.itoa (n / st) = d at *
  go_enter Tryd.func46, Tryd.ntmps46
  go_wp2_with fail
  refine (HI.out _ (HE.out _ (by (repeat' (first | (with_reducible exact Below.refl _ _) | (with_reducible assumption) | (with_reducible refine Below.alloc ?_ ?_ _) | (with_reducible refine Below.setCell ?_ ?_ _) | (with_reducible refine below_row ?_ ?_ _) | (with_reducible refine Below.drew ?_) | (with_reducible refine below_drewN ?_ _) | (with_reducible refine Below.trans ?_ (Below.mono (by assumption) ?_)) | (first | exact Nat.le_refl _ | omega | (simp; done) | (simp; omega))))))).mono ?_
  rintro e w1 ⟨rfl, hb1⟩
  have s1 := hb1.size; try simp only [World.size_alloc, World.size_setCell, World.size_drew, setRow_size] at s1
  have LL := (Lies.made w 44 #[.int .u8 un, .int .i64 st, .int .i64 (pl : Int), .string m, .func (.func 57) #[] #[.pointer (some ⟨b1, 0, none⟩)], .func (.func 58) #[] #[.pointer (some ⟨b1, 0, none⟩)], .func (.func 59) #[] #[.pointer (some ⟨b2, 0, none⟩), .pointer (some ⟨b1, 0, none⟩)]]).after hb1
  have c2 := LL.cell 2
  have zL := LL.lt
  change Lies w1 _ _ _ at LL
  obtain ⟨D, hD⟩ : ∃ D : ByteArray, D = bs d := ⟨_, rfl⟩
  rw [show (⟨d.toArray⟩ : ByteArray) = D from hD.symm]
  have dsz : D.size = d.length := by rw [hD, bs_size]
  have ds1 : 1 ≤ D.size := by omega
  have ds2 : D.size ≤ 10 := by omega
  have HDD := Lib.hid hD
  have HDS := Lib.hid dsz
  clear hD dsz
  go_wp2_with fail
  go_loop [5, 18] (fun s i => ∃ (k : Nat) (B : ByteArray), k ≤ pl + 1 - D.size ∧ i = .int .i64 k ∧ s = .string B ∧ Hid (B = bs (List.replicate k 48 ++ d))) (fun _ i => 10 - (intOf i).toNat)
  case atStart => exact ⟨0, D, by omega, rfl, rfl, Lib.hid (by rw [HDD.out]; rfl)⟩
  case round =>
    obtain ⟨k, B, hk, rfl, rfl, HB⟩ := hrel
    have hBs : B.size = k + D.size := by rw [HB.out, bs_size, HDS.out]; simp
    have hBl : B.size ≤ 15 := by omega
    by_cases hlt : k < pl + 1 - D.size
    · have hlt' : (k : Int) < ↑pl + 1 - ↑D.size := by omega
      go_wp2_with fail
      go_round
      case rel => exact ⟨k + 1, _, by omega, by go_num, rfl, Lib.hid (by rw [HB.out, show (⟨#[48]⟩ : ByteArray) = bs [48] from rfl, bs_append]; rfl)⟩
      case measure => simp [intOf]; omega
    · have hge : ¬ (k : Int) < ↑pl + 1 - ↑D.size := by omega
      have hpad : List.replicate k 48 ++ d = padL (pl + 1) d := by
        unfold padL
        rw [show k = pl + 1 - d.length by have := HDS.out; omega]
      have hpl1 : pl + 1 ≤ B.size := by omega
      have hdot := dot_cut (padL (pl + 1) d) pl B (by rw [← hpad]; exact HB.out) (by omega)
      have HP := Lib.hid hdot
      have hz : ((B.size - pl : Nat) : Int) = (B.size : Int) - pl := by omega
      clear hdot hpad hlt HB hBs
      obtain ⟨z, hzz⟩ : ∃ z, z = B.size - pl := ⟨_, rfl⟩
      rw [← hzz] at HP hz
      have hz' : (B.size : Int) - pl = z := hz.symm
      have z1 : z ≤ B.size := by omega
      clear hz
      have zz : (z : Int) ≤ (B.size : Int) := by omega
      have z0 : (0 : Int) ≤ (z : Int) := by omega
      have zt : (z : Int).toNat = z := by omega
      clear hzz
      go_wp2_with fail
      go_quiet (fail)
      go_wp2
      go_ret
      exact ⟨ret_str HP.out, by (repeat' (first | (with_reducible exact Below.refl _ _) | (with_reducible assumption) | (with_reducible refine Below.alloc ?_ ?_ _) | (with_reducible refine Below.setCell ?_ ?_ _) | (with_reducible refine below_row ?_ ?_ _) | (with_reducible refine Below.drew ?_) | (with_reducible refine below_drewN ?_ _) | (with_reducible refine Below.trans ?_ (Below.mono (by assumption) ?_)) | (first | exact Nat.le_refl _ | omega | (simp; done) | (simp; omega))))⟩
end Go.Proofs.YtjejjeomknkglaaDoor
