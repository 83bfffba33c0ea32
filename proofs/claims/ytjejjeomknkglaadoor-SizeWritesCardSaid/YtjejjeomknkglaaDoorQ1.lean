/- The reference: how numbers and sizes are written. -/
import Derived.Test.YtjejjeomknkglaaDoorQ0
import Derived.Test.YtjejjeomknkglaaDoorR1
import Derived.Deep.RegionHeld3
namespace Go.Proofs.YtjejjeomknkglaaDoor
set_option linter.unusedVariables false
set_option linter.unusedSimpArgs false
open Go.RowKit Go.Sort

def szOf : Value → Nat
  | .string b => b.size
  | _ => 0
theorem dig_cut (r : Nat) (h : r < 10) : (⟨#[48, 49, 50, 51, 52, 53, 54, 55, 56, 57]⟩ : ByteArray).extract r (r + 1) = bs [UInt8.ofNat (48 + r)] := by
  have : r = 0 ∨ r = 1 ∨ r = 2 ∨ r = 3 ∨ r = 4 ∨ r = 5 ∨ r = 6 ∨ r = 7 ∨ r = 8 ∨ r = 9 := by omega
  rcases this with rfl | rfl | rfl | rfl | rfl | rfl | rfl | rfl | rfl | rfl <;> decide
theorem digR_len {n k : Nat} (h : n ≤ 1000000000) (hk : k ≤ 5) (h1 : 1 ≤ k) : (digR n k).length ≤ 15 := by
  rw [digR_pad _ _ (.inr h1)]
  unfold padL
  have := nDigits_le10 h
  simp [Lib.decDigits_length]
  omega
set_option maxHeartbeats 1000000 in
theorem rdigits_any (n k : Nat) (w : World) (hn : n ≤ 1000000000) (h1 : 1 ≤ k) (hk : k ≤ 5) :
    Calls Tryd.prog 61 #[.int .i64 (n : Int), .int .i64 (k : Int)] w fun e w' => e = .returned (.string (bs (digR n k))) ∧ Below w.heap.size w w' := by
  have HL := Lib.hid (digR_len hn hk h1)
  go_enter Tryd.func61, Tryd.ntmps61
  go_wp2_with fail
  go_loop [0, 5] (fun x s => ∃ (m : Nat) (B : ByteArray), x = .int .i64 m ∧ s = .string B ∧ m ≤ 1000000000 ∧ Hid (digR m (k - B.size) ++ B.data.toList = digR n k)) (fun x s => (intOf x).toNat + (k - szOf s))
  case atStart => exact ⟨n, ⟨#[]⟩, rfl, rfl, hn, Lib.hid (by show digR n (k - 0) ++ [] = _; rw [List.append_nil, Nat.sub_zero])⟩
  case round =>
    obtain ⟨m, B, rfl, rfl, hm, HB⟩ := hrel
    have hBl : B.size ≤ 15 := by
      have e := congrArg List.length HB.out
      rw [List.length_append] at e
      have := HL.out
      have := Lib.size_eq B
      omega
    have m0 : (0 : Int) ≤ (m : Int) := by omega
    have m1 : (m : Int) ≤ 1000000000 := by omega
    have step : ¬ (m = 0 ∧ k - B.size = 0) → Hid (digR (m / 10) (k - (bs [UInt8.ofNat (48 + m % 10)] ++ B).size) ++ (bs [UInt8.ofNat (48 + m % 10)] ++ B).data.toList = digR n k) := fun hne => Lib.hid (by
      rw [← HB.out]
      conv => rhs; rw [digR, if_neg hne]
      rw [ByteArray.size_append, bs_size, List.length_cons, List.length_nil, show k - (0 + 1 + B.size) = k - B.size - 1 by omega]
      simp [bs])
    have HS := Lib.hid step
    clear step
    have tr : (m : Int).tmod 10 = ((m % 10 : Nat) : Int) := by rw [Int.tmod_eq_emod_of_nonneg m0]; omega
    have tq : (m : Int).tdiv 10 = ((m / 10 : Nat) : Int) := by rw [Int.tdiv_eq_ediv_of_nonneg m0]; omega
    have r9 : m % 10 < 10 := by omega
    have q9 : m / 10 ≤ 1000000000 := by omega
    have qm : m / 10 + (k - (B.size + 1)) < m + (k - B.size) ∨ (m = 0 ∧ k ≤ B.size) := by omega
    have HC := Lib.hid (dig_cut (m % 10) r9)
    generalize m % 10 = r at *
    generalize m / 10 = q at *
    have rz : (r : Int) < 10 := by omega
    have r0 : (0 : Int) ≤ (r : Int) := by omega
    have rt : (r : Int).toNat = r := by omega
    have rt1 : ((r : Int) + 1).toNat = r + 1 := by omega
    have hadd := add_ok (bs [UInt8.ofNat (48 + r)]) B (by rw [bs_size]; simp; omega)
    by_cases hm0 : 0 < (m : Int)
    · go_wp2
      go_round
      case rel => exact ⟨q, _, rfl, rfl, q9, by rw [HC.out]; exact HS.out (by omega)⟩
      case measure => rw [HC.out]; simp only [intOf, szOf, ByteArray.size_append, bs_size, List.length_cons, List.length_nil]; omega
    · have hmz : m = 0 := by omega
      by_cases hlt : (B.size : Int) < (k : Int)
      · subst hmz
        have hq0 : q = 0 := by simpa using tq.symm
        have hr0 : r = 0 := by simpa using tr.symm
        subst hq0
        subst hr0
        have HC' : Hid ((⟨#[48, 49, 50, 51, 52, 53, 54, 55, 56, 57]⟩ : ByteArray).extract 0 1 = bs [UInt8.ofNat (48 + 0)]) := HC
        go_wp2
        go_round
        case rel => exact ⟨0, _, rfl, rfl, q9, by rw [HC'.out]; exact HS.out (by omega)⟩
        case measure => rw [HC'.out]; simp only [intOf, szOf, ByteArray.size_append, bs_size, List.length_cons, List.length_nil]; omega
      · have hk0 : k - B.size = 0 := by omega
        have HF : Hid (B = bs (digR n k)) := Lib.hid (by rw [← HB.out, hk0, hmz, digR]; exact (bs_back B).symm)
        clear hk0 HB HS
        go_wp2
        go_ret
        exact ⟨ret_str HF.out, by (repeat' (first | (with_reducible exact Below.refl _ _) | (with_reducible assumption) | (with_reducible refine Below.alloc ?_ ?_ _) | (with_reducible refine Below.setCell ?_ ?_ _) | (with_reducible refine below_row ?_ ?_ _) | (with_reducible refine Below.drew ?_) | (with_reducible refine below_drewN ?_ _) | (with_reducible refine Below.trans ?_ (Below.mono (by assumption) ?_)) | (first | exact Nat.le_refl _ | omega | (simp; done) | (simp; omega))))⟩

/-- A number with a point. -/
theorem dotL_len {pl : Nat} {d : List UInt8} : (dotL pl d).length = d.length + 1 := by
  unfold dotL; simp; omega
theorem decL1_len {q : Int} {pl : Nat} (hpl : pl = 3 ∨ pl = 4) (h0 : 0 ≤ q) (h1 : q ≤ 1000000000) : (decL 1 pl q).length ≤ 16 := by
  rw [decL_dig h0, dotL_len]
  have := digR_len (n := q.toNat) (k := pl + 1) (by omega) (by omega) (by omega)
  omega
theorem sgnL1_len {q : Int} {pl : Nat} (hpl : pl = 3 ∨ pl = 4) (h0 : -1000000000 ≤ q) (h1 : q ≤ 1000000000) : (sgnL 1 pl q).length ≤ 17 := by
  unfold sgnL
  split
  · have := decL1_len (q := -q) hpl (by omega) (by omega); simp; omega
  · have := decL1_len (q := q) hpl (by omega) (by omega); simp; omega
set_option maxHeartbeats 1000000 in
theorem rnumber_any (q : Int) (pl : Nat) (w : World) (hpl : pl = 3 ∨ pl = 4) (h0 : 0 ≤ q) (h1 : q ≤ 1000000000) :
    Calls Tryd.prog 48 #[.int .i64 q, .int .i64 (pl : Int)] w fun e w' => e = .returned (.string (bs (decL 1 pl q))) ∧ Below w.heap.size w w' := by
  have HN := Lib.hid (fun W => rdigits_any q.toNat (pl + 1) W (by omega) (by omega) (by omega))
  rw [show ((q.toNat : Nat) : Int) = q by omega, show ((pl + 1 : Nat) : Int) = (pl : Int) + 1 by omega] at HN
  have hl := digR_len (n := q.toNat) (k := pl + 1) (by omega) (by omega) (by omega)
  have hl2 : pl + 1 ≤ (digR q.toNat (pl + 1)).length := by rw [digR_pad _ _ (.inr (by omega))]; exact padL_length _ _
  rw [decL_dig h0]
  generalize digR q.toNat (pl + 1) = d at *
  obtain ⟨B, hB⟩ : ∃ B : ByteArray, B = bs d := ⟨_, rfl⟩
  rw [← hB] at HN
  have hBs : B.size = d.length := by rw [hB, bs_size]
  have HP := Lib.hid (dot_cut d pl B hB (by omega))
  obtain ⟨z, hz⟩ : ∃ z, z = B.size - pl := ⟨_, rfl⟩
  rw [← hz] at HP
  have p1 : (pl : Int) ≤ 4 := by omega
  have p0 : (3 : Int) ≤ pl := by omega
  have hz' : (B.size : Int) - pl = z := by omega
  have z1 : z ≤ B.size := by omega
  have zz : (z : Int) ≤ (B.size : Int) := by omega
  have z0 : (0 : Int) ≤ (z : Int) := by omega
  have zt : (z : Int).toNat = z := by omega
  have b15 : B.size ≤ 15 := by omega
  have b0 : (B.size : Int) ≤ 15 := by omega
  clear hB hBs hz hl hl2
  go_enter Tryd.func48, Tryd.ntmps48
  go_wp2_with fail
  refine (HN.out _).mono ?_
  rintro e w1 ⟨rfl, hb1⟩
  have s1 := hb1.size; try simp only [World.size_alloc, World.size_setCell, World.size_drew, setRow_size] at s1
  go_wp2_with fail
  go_quiet (fail)
  go_wp2
  go_ret
  exact ⟨ret_str HP.out, by (repeat' (first | (with_reducible exact Below.refl _ _) | (with_reducible assumption) | (with_reducible refine Below.alloc ?_ ?_ _) | (with_reducible refine Below.setCell ?_ ?_ _) | (with_reducible refine below_row ?_ ?_ _) | (with_reducible refine Below.drew ?_) | (with_reducible refine below_drewN ?_ _) | (with_reducible refine Below.trans ?_ (Below.mono (by assumption) ?_)) | (first | exact Nat.le_refl _ | omega | (simp; done) | (simp; omega))))⟩
set_option maxHeartbeats 1000000 in
theorem rsigned_any (q : Int) (pl : Nat) (w : World) (hpl : pl = 3 ∨ pl = 4) (h0 : -1000000000 ≤ q) (h1 : q ≤ 1000000000) :
    Calls Tryd.prog 49 #[.int .i64 q, .int .i64 (pl : Int)] w fun e w' => e = .returned (.string (bs (sgnL 1 pl q))) ∧ Below w.heap.size w w' := by
  have HD := Lib.hid (fun (k : Int) W => rnumber_any k pl W hpl)
  have HL := Lib.hid (fun (k : Int) => decL1_len (q := k) hpl)
  clear hpl
  unfold sgnL
  by_cases hn : q < 0
  · rw [if_pos hn]
    go_enter Tryd.func49, Tryd.ntmps49
    go_wp2_with fail
    refine (HD.out (-q) _ (by omega) (by omega)).mono ?_
    rintro e w1 ⟨rfl, hb1⟩
    have s1 := hb1.size; try simp only [World.size_alloc, World.size_setCell, World.size_drew, setRow_size] at s1
    have hl := HL.out (-q) (by omega) (by omega)
    rw [← bs_size] at hl
    clear HL HD
    generalize hB : bs (decL 1 pl (-q)) = B at *
    have HB := Lib.hid hB
    clear hB
    have hadd := add_ok (⟨#[45]⟩ : ByteArray) B (by show 1 + B.size ≤ 1000; omega)
    go_wp2
    go_ret
    exact ⟨ret_str (by rw [← HB.out, show (⟨#[45]⟩ : ByteArray) = bs [45] from rfl, bs_append]; rfl), by (repeat' (first | (with_reducible exact Below.refl _ _) | (with_reducible assumption) | (with_reducible refine Below.alloc ?_ ?_ _) | (with_reducible refine Below.setCell ?_ ?_ _) | (with_reducible refine below_row ?_ ?_ _) | (with_reducible refine Below.drew ?_) | (with_reducible refine below_drewN ?_ _) | (with_reducible refine Below.trans ?_ (Below.mono (by assumption) ?_)) | (first | exact Nat.le_refl _ | omega | (simp; done) | (simp; omega))))⟩
  · rw [if_neg hn]
    go_enter Tryd.func49, Tryd.ntmps49
    go_wp2_with fail
    refine (HD.out q _ (by omega) (by omega)).mono ?_
    rintro e w1 ⟨rfl, hb1⟩
    have s1 := hb1.size; try simp only [World.size_alloc, World.size_setCell, World.size_drew, setRow_size] at s1
    have hl := HL.out q (by omega) (by omega)
    rw [← bs_size] at hl
    clear HL HD
    generalize hB : bs (decL 1 pl q) = B at *
    have HB := Lib.hid hB
    clear hB
    have hadd := add_ok (⟨#[43]⟩ : ByteArray) B (by show 1 + B.size ≤ 1000; omega)
    go_wp2
    go_ret
    exact ⟨ret_str (by rw [← HB.out, show (⟨#[43]⟩ : ByteArray) = bs [43] from rfl, bs_append]; rfl), by (repeat' (first | (with_reducible exact Below.refl _ _) | (with_reducible assumption) | (with_reducible refine Below.alloc ?_ ?_ _) | (with_reducible refine Below.setCell ?_ ?_ _) | (with_reducible refine below_row ?_ ?_ _) | (with_reducible refine Below.drew ?_) | (with_reducible refine below_drewN ?_ _) | (with_reducible refine Below.trans ?_ (Below.mono (by assumption) ?_)) | (first | exact Nat.le_refl _ | omega | (simp; done) | (simp; omega))))⟩
end Go.Proofs.YtjejjeomknkglaaDoor
