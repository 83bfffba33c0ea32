/- The reference: how a size is written. -/
import Derived.Test.YtjejjeomknkglaaDoorQ3
namespace Go.Proofs.YtjejjeomknkglaaDoor
set_option linter.unusedVariables false
set_option linter.unusedSimpArgs false
open Go.RowKit Go.Sort

theorem tdiv_exact {a st : Int} (h : a % st = 0) : a.tdiv st = a / st := Int.tdiv_eq_ediv_of_dvd (Int.dvd_of_emod_eq_zero h)
set_option maxHeartbeats 4000000 in
set_option maxRecDepth 100000 in
theorem rwritten_any (un st n l u : Int) (pl : Nat) (mk : List UInt8) (w : World) (hun : (un = 1 ∧ st = 100 ∧ pl = 3 ∧ mk = mmL) ∨ (un = 2 ∧ st = 254 ∧ pl = 4 ∧ mk = inL)) (hd : okD n l u = true) (hx : exactS st n l u = true) :
    Calls Tryd.prog 22 #[.agg #[.int .i64 n, .int .i64 l, .int .i64 u], .int .u8 un] w fun e w' => e = .returned (.string (bs (textL st pl mk n l u))) ∧ Below w.heap.size w w' := by
  obtain ⟨h1, h2, h3, h4, h5⟩ := okD_iff.1 hd
  have hst : st = 100 ∨ st = 254 := by omega
  have hpl : pl = 3 ∨ pl = 4 := by omega
  obtain ⟨x1, x2, x3⟩ : n % st = 0 ∧ l % st = 0 ∧ u % st = 0 := by simpa [exactS] using hx
  have y2 : (l - n) % st = 0 := by rcases hst with rfl | rfl <;> omega
  have y3 : (u - n) % st = 0 := by rcases hst with rfl | rfl <;> omega
  have t1 := tdiv_exact x1
  have t2 := tdiv_exact y2
  have t3 := tdiv_exact y3
  have b1 : 0 ≤ n / st ∧ n / st ≤ 1000000000 := by rcases hst with rfl | rfl <;> omega
  have b2 : -1000000000 ≤ (l - n) / st ∧ (l - n) / st ≤ 1000000000 := by rcases hst with rfl | rfl <;> omega
  have b3 : -1000000000 ≤ (u - n) / st ∧ (u - n) / st ≤ 1000000000 := by rcases hst with rfl | rfl <;> omega
  have s1 := decL_one st pl n
  have s2 := sgnL_one hst pl y2
  have s3 := sgnL_one hst pl y3
  have e1 : (bs (decL st pl n)).size ≤ 12 := by rw [bs_size]; exact decL_len hst hpl h1 h2
  have e2 : (bs (sgnL st pl (l - n))).size ≤ 13 := by rw [bs_size]; exact sgnL_len hst hpl (by omega) (by omega)
  have e3 : (bs (sgnL st pl (u - n))).size ≤ 13 := by rw [bs_size]; exact sgnL_len hst hpl (by omega) (by omega)
  have HD := Lib.hid (fun W => rnumber_any (n / st) pl W hpl b1.1 b1.2)
  obtain ⟨S, hS⟩ : ∃ S : Int → ByteArray, ∀ k, S k = bs (sgnL 1 pl k) := ⟨_, fun _ => rfl⟩
  have HS : Hid (∀ k W, (k = (l - n) / st ∨ k = (u - n) / st) → Calls Tryd.prog 49 #[.int .i64 k, .int .i64 (pl : Int)] W fun e w' => e = .returned (.string (S k)) ∧ Below W.heap.size W w') := Lib.hid (fun k W hk => by
    rw [hS]; exact rsigned_any k pl W hpl (by omega) (by omega))
  rw [← s1] at HD
  rw [s2, ← hS] at e2
  rw [s3, ← hS] at e3
  have HT : Hid (bs (textL st pl mk n l u) = (bs (decL st pl n) ++ ⟨#[32]⟩ ++ S ((l - n) / st) ++ ⟨#[32]⟩ ++ S ((u - n) / st) ++ bs (32 :: mk))) := Lib.hid (by
    rw [hS, hS, ← s2, ← s3]
    rw [show (⟨#[32]⟩ : ByteArray) = bs [32] from rfl]
    simp only [bs_append, textL, List.append_assoc, List.cons_append, List.nil_append])
  have k1 : IntKind.i64.wrap (l - n) = l - n := IntWalk.i64_in _ (by omega)
  have k2 : IntKind.i64.wrap (u - n) = u - n := IntWalk.i64_in _ (by omega)
  have k3 : IntKind.i64.wrap (n / st) = n / st := IntWalk.i64_in _ (by omega)
  have k4 : IntKind.i64.wrap ((l - n) / st) = (l - n) / st := IntWalk.i64_in _ (by omega)
  have k5 : IntKind.i64.wrap ((u - n) / st) = (u - n) / st := IntWalk.i64_in _ (by omega)
  clear hS s1 s2 s3 x1 x2 x3 y2 y3 hd hx hpl
  generalize bs (textL st pl mk n l u) = T at *
  generalize bs (decL st pl n) = D at *
  generalize n / st = a at *
  generalize (l - n) / st = b at *
  generalize (u - n) / st = c at *
  have a1 := add_ok D ⟨#[32]⟩ (by show D.size + 1 ≤ 1000; omega)
  have a2 := add_ok (D ++ ⟨#[32]⟩) (S b) (by simp only [ByteArray.size_append, ByteArray.size_mk', List.size_toArray, List.length_cons, List.length_nil]; omega)
  have a3 := add_ok (D ++ ⟨#[32]⟩ ++ S b) ⟨#[32]⟩ (by simp only [ByteArray.size_append, ByteArray.size_mk', List.size_toArray, List.length_cons, List.length_nil]; omega)
  have a4 := add_ok (D ++ ⟨#[32]⟩ ++ S b ++ ⟨#[32]⟩) (S c) (by simp only [ByteArray.size_append, ByteArray.size_mk', List.size_toArray, List.length_cons, List.length_nil]; omega)
  have a5 := add_ok (D ++ ⟨#[32]⟩ ++ S b ++ ⟨#[32]⟩ ++ S c) (bs (32 :: mk)) (by
    have : (32 :: mk).length ≤ 10 := by rcases hun with ⟨-, -, -, rfl⟩ | ⟨-, -, -, rfl⟩ <;> decide
    simp only [ByteArray.size_append, ByteArray.size_mk', List.size_toArray, List.length_cons, List.length_nil, bs_size] at this ⊢; omega)
  have HST : Hid (∀ W, Calls Tryd.prog 19 #[.int .u8 un] W fun e w' => e = .returned (.int .i64 (stepR un)) ∧ Below W.heap.size W w') := Lib.hid (fun W => (rStep_any un W).mono (by rintro e w' ⟨rfl, k, rfl⟩; exact ⟨rfl, below_drewN (Below.refl _ _) _⟩))
  clear h1 h2 h3 h4 h5 hst
  rcases hun with ⟨rfl, rfl, rfl, rfl⟩ | ⟨rfl, rfl, rfl, rfl⟩
  case' inl => rw [show stepR 1 = 100 from rfl] at HST; rw [show bs (32 :: mmL) = (⟨#[32, 109, 109]⟩ : ByteArray) from rfl] at a5 HT; rw [show ((3 : Nat) : Int) = 3 from rfl] at HD HS
  case' inr => rw [show stepR 2 = 254 from rfl] at HST; rw [show bs (32 :: inL) = (⟨#[32, 105, 110]⟩ : ByteArray) from rfl] at a5 HT; rw [show ((4 : Nat) : Int) = 4 from rfl] at HD HS
  all_goals
    go_enter Tryd.func22, Tryd.ntmps22
    go_wp2_with fail
    refine (HST.out _).mono ?_
    rintro e w1 ⟨rfl, hb1⟩
    have s1 := hb1.size; try simp only [World.size_alloc, World.size_setCell, World.size_drew, setRow_size] at s1
    have LD := Lib.hid ((Lies.new (u := w) (t := 23) (cs := #[.int .i64 n, .int .i64 l, .int .i64 u]) rfl).after hb1)
    have zD := LD.out.lt
    obtain ⟨p0, p1, p2, -, -, -⟩ := LD.out.c3
    have hbw : Below w.heap.size w w1 := Below.trans (by (repeat' (first | (with_reducible exact Below.refl _ _) | (with_reducible assumption) | (with_reducible refine Below.alloc ?_ ?_ _) | (with_reducible refine Below.setCell ?_ ?_ _) | (with_reducible refine below_row ?_ ?_ _) | (with_reducible refine Below.drew ?_) | (with_reducible refine below_drewN ?_ _) | (with_reducible refine Below.trans ?_ (Below.mono (by assumption) ?_)) | (first | exact Nat.le_refl _ | omega | (simp; done) | (simp; omega))))) (hb1.mono (by simp))
    clear hb1
    go_wp2_with fail
    go_region_held3 (fun W => W.cell? ⟨w.heap.size, 0, none⟩ = some (.int .i64 n) ∧ W.cell? ⟨w.heap.size, 1, none⟩ = some (.int .i64 l) ∧ W.cell? ⟨w.heap.size, 2, none⟩ = some (.int .i64 u)) (go_keep)
      (first | (go_at_call 48; refine (HD.out _).mono ?_; rintro e w' ⟨rfl, hb2⟩; have hw1 : Below w1.heap.size w1 w' := (by first | exact Below.trans (below_drewN (Below.refl _ _) _) hb2 | exact Below.trans (by assumption) (hb2.mono (Below.size (B := w1.heap.size) (by assumption)))); have LL := LD.out.after hw1; have c0 := LL.cell 0; have c1 := LL.cell 1; have c2 := LL.cell 2; clear LL) | (go_at_call 49; refine (HS.out _ _ (by first | exact .inl rfl | exact .inr rfl)).mono ?_; rintro e w' ⟨rfl, hb2⟩; have hw1 : Below w1.heap.size w1 w' := (by first | exact Below.trans (below_drewN (Below.refl _ _) _) hb2 | exact Below.trans (by assumption) (hb2.mono (Below.size (B := w1.heap.size) (by assumption)))); have LL := LD.out.after hw1; have c0 := LL.cell 0; have c1 := LL.cell 1; have c2 := LL.cell 2; clear LL))
    all_goals
      go_wp2
      go_ret
      exact ⟨ret_str HT.out.symm, Below.trans hbw ((by assumption : Below w1.heap.size w1 _).mono (by omega))⟩

theorem rStep_b (un st : Int) (w : World) (h : stepR un = st) : Calls Tryd.prog 19 #[.int .u8 un] w fun e w' => e = .returned (.int .i64 st) ∧ Below w.heap.size w w' :=
  (rStep_any un w).mono (by rintro e w' ⟨rfl, k, rfl⟩; rw [h]; exact ⟨rfl, below_drewN (Below.refl _ _) _⟩)
set_option maxHeartbeats 1000000 in
theorem rWrite_bad (un n l u : Int) (w : World) (h : okD n l u = false) :
    Calls Tryd.prog 8 #[.agg #[.int .i64 n, .int .i64 l, .int .i64 u], .int .u8 un] w (Wrote ([], 10) w) := by
  have HD := Lib.hid (fun W => rDim_any n l u W)
  rw [h] at HD
  go_enter Tryd.func8, Tryd.ntmps8
  go_wp2_with fail
  refine (HD.out _).mono ?_
  rintro e w1 ⟨rfl, hb1⟩
  have s1 := hb1.size; try simp only [World.size_alloc, World.size_setCell, World.size_drew, setRow_size] at s1
  go_wp2_with fail
  go_ret2
  exact ⟨rfl, by (repeat' (first | (with_reducible exact Below.refl _ _) | (with_reducible assumption) | (with_reducible refine Below.alloc ?_ ?_ _) | (with_reducible refine Below.setCell ?_ ?_ _) | (with_reducible refine below_row ?_ ?_ _) | (with_reducible refine Below.drew ?_) | (with_reducible refine below_drewN ?_ _) | (with_reducible refine Below.trans ?_ (Below.mono (by assumption) ?_)) | (first | exact Nat.le_refl _ | omega | (simp; done) | (simp; omega))))⟩
set_option maxHeartbeats 1000000 in
theorem rWrite_unit (un n l u : Int) (w : World) (h : okD n l u = true) (h1 : ¬ un = 1) (h2 : ¬ un = 2) :
    Calls Tryd.prog 8 #[.agg #[.int .i64 n, .int .i64 l, .int .i64 u], .int .u8 un] w (Wrote ([], 11) w) := by
  have HD := Lib.hid (fun W => rDim_any n l u W)
  rw [h] at HD
  have HS := Lib.hid (fun W => rStep_b un 0 W (by unfold stepR; rw [if_neg h1, if_neg h2]))
  clear h1 h2
  go_enter Tryd.func8, Tryd.ntmps8
  go_wp2_with fail
  refine (HD.out _).mono ?_
  rintro e w1 ⟨rfl, hb1⟩
  have s1 := hb1.size; try simp only [World.size_alloc, World.size_setCell, World.size_drew, setRow_size] at s1
  go_wp2_with fail
  refine (HS.out _).mono ?_
  rintro e w2 ⟨rfl, hb2⟩
  have s2 := hb2.size; try simp only [World.size_alloc, World.size_setCell, World.size_drew, setRow_size] at s2
  go_wp2_with fail
  go_ret2
  exact ⟨rfl, by (repeat' (first | (with_reducible exact Below.refl _ _) | (with_reducible assumption) | (with_reducible refine Below.alloc ?_ ?_ _) | (with_reducible refine Below.setCell ?_ ?_ _) | (with_reducible refine below_row ?_ ?_ _) | (with_reducible refine Below.drew ?_) | (with_reducible refine below_drewN ?_ _) | (with_reducible refine Below.trans ?_ (Below.mono (by assumption) ?_)) | (first | exact Nat.le_refl _ | omega | (simp; done) | (simp; omega))))⟩
set_option maxHeartbeats 2000000 in
set_option maxRecDepth 100000 in
theorem rWrite_go (un st n l u : Int) (pl : Nat) (mk : List UInt8) (w : World) (hun : (un = 1 ∧ st = 100 ∧ pl = 3 ∧ mk = mmL) ∨ (un = 2 ∧ st = 254 ∧ pl = 4 ∧ mk = inL)) (h : okD n l u = true) :
    Calls Tryd.prog 8 #[.agg #[.int .i64 n, .int .i64 l, .int .i64 u], .int .u8 un] w (Wrote (if exactS st n l u = true then (textL st pl mk n l u, 0) else ([], 12)) w) := by
  have hst : st = 100 ∨ st = 254 := by omega
  have HD := Lib.hid (fun W => rDim_any n l u W)
  rw [h] at HD
  have HS := Lib.hid (fun W => rStep_b un st W (by rcases hun with ⟨rfl, rfl, -⟩ | ⟨rfl, rfl, -⟩ <;> rfl))
  have HE := Lib.hid (fun W => rexact_any st n l u W hst h)
  have HW : Hid (∀ W, exactS st n l u = true → Calls Tryd.prog 22 #[.agg #[.int .i64 n, .int .i64 l, .int .i64 u], .int .u8 un] W fun e w' => e = .returned (.string (bs (textL st pl mk n l u))) ∧ Below W.heap.size W w') := Lib.hid (fun W hx => rwritten_any un st n l u pl mk W hun h hx)
  have s0 : (st == 0) = false := by rw [beq_eq_false_iff_ne]; omega
  have s1 : ¬ st = 0 := by omega
  generalize textL st pl mk n l u = T at *
  generalize exactS st n l u = p at *
  clear hun hst h
  cases p
  · rw [if_neg (by simp)]
    go_enter Tryd.func8, Tryd.ntmps8
    go_wp2_with fail
    refine (HD.out _).mono ?_
    rintro e w1 ⟨rfl, hb1⟩
    have s1 := hb1.size; try simp only [World.size_alloc, World.size_setCell, World.size_drew, setRow_size] at s1
    go_wp2_with fail
    refine (HS.out _).mono ?_
    rintro e w2 ⟨rfl, hb2⟩
    have s2 := hb2.size; try simp only [World.size_alloc, World.size_setCell, World.size_drew, setRow_size] at s2
    have LD := Lib.hid (((Lies.new (u := w) (t := 23) (cs := #[.int .i64 n, .int .i64 l, .int .i64 u]) rfl).after hb1).after hb2)
    have zD := LD.out.lt
    obtain ⟨p0, p1, p2, -, -, -⟩ := LD.out.c3
    have hbw : Below w.heap.size w w2 := Below.trans (Below.trans (by (repeat' (first | (with_reducible exact Below.refl _ _) | (with_reducible assumption) | (with_reducible refine Below.alloc ?_ ?_ _) | (with_reducible refine Below.setCell ?_ ?_ _) | (with_reducible refine below_row ?_ ?_ _) | (with_reducible refine Below.drew ?_) | (with_reducible refine below_drewN ?_ _) | (with_reducible refine Below.trans ?_ (Below.mono (by assumption) ?_)) | (first | exact Nat.le_refl _ | omega | (simp; done) | (simp; omega))))) (hb1.mono (by simp))) (hb2.mono (by omega))
    clear hb1 hb2
    go_wp2_with fail
    go_region_held3 (fun W => W.cell? ⟨w.heap.size, 0, none⟩ = some (.int .i64 n) ∧ W.cell? ⟨w.heap.size, 1, none⟩ = some (.int .i64 l) ∧ W.cell? ⟨w.heap.size, 2, none⟩ = some (.int .i64 u)) (go_keep)
      (first | (go_at_call 19; refine (HS.out _).mono ?_; rintro e w3 ⟨rfl, hb3⟩; have hw1 : Below w2.heap.size w2 w3 := Below.trans (below_drewN (Below.refl _ _) _) hb3; have LL := LD.out.after hw1; have c0 := LL.cell 0; have c1 := LL.cell 1; have c2 := LL.cell 2; clear LL) | (go_at_call 18; refine (HE.out _).mono ?_; rintro e w4 ⟨rfl, hb4⟩; have hw2 : Below w2.heap.size w2 w4 := Below.trans (by assumption) (hb4.mono (Below.size (B := w2.heap.size) (by assumption))); have LL := LD.out.after hw2; have c0 := LL.cell 0; have c1 := LL.cell 1; have c2 := LL.cell 2; clear LL))
    all_goals
      rename_i hHeld
      clear p0 p1 p2
      obtain ⟨p0, p1, p2⟩ := hHeld
      have hb5 : Below w.heap.size w w4 := Below.trans hbw (hw2.mono (by omega))
      have s4 : w2.heap.size ≤ w4.heap.size := hw2.size
      go_wp2_with fail
      go_ret2
      exact ⟨rfl, by (repeat' (first | (with_reducible exact Below.refl _ _) | (with_reducible assumption) | (with_reducible refine Below.alloc ?_ ?_ _) | (with_reducible refine Below.setCell ?_ ?_ _) | (with_reducible refine below_row ?_ ?_ _) | (with_reducible refine Below.drew ?_) | (with_reducible refine below_drewN ?_ _) | (with_reducible refine Below.trans ?_ (Below.mono (by assumption) ?_)) | (first | exact Nat.le_refl _ | omega | (simp; done) | (simp; omega))))⟩
  · rw [if_pos rfl]
    have HWW := Lib.hid (fun W => HW.out W rfl)
    clear HW
    go_enter Tryd.func8, Tryd.ntmps8
    go_wp2_with fail
    refine (HD.out _).mono ?_
    rintro e w1 ⟨rfl, hb1⟩
    have s1 := hb1.size; try simp only [World.size_alloc, World.size_setCell, World.size_drew, setRow_size] at s1
    go_wp2_with fail
    refine (HS.out _).mono ?_
    rintro e w2 ⟨rfl, hb2⟩
    have s2 := hb2.size; try simp only [World.size_alloc, World.size_setCell, World.size_drew, setRow_size] at s2
    have LD := Lib.hid (((Lies.new (u := w) (t := 23) (cs := #[.int .i64 n, .int .i64 l, .int .i64 u]) rfl).after hb1).after hb2)
    have zD := LD.out.lt
    obtain ⟨p0, p1, p2, -, -, -⟩ := LD.out.c3
    have hbw : Below w.heap.size w w2 := Below.trans (Below.trans (by (repeat' (first | (with_reducible exact Below.refl _ _) | (with_reducible assumption) | (with_reducible refine Below.alloc ?_ ?_ _) | (with_reducible refine Below.setCell ?_ ?_ _) | (with_reducible refine below_row ?_ ?_ _) | (with_reducible refine Below.drew ?_) | (with_reducible refine below_drewN ?_ _) | (with_reducible refine Below.trans ?_ (Below.mono (by assumption) ?_)) | (first | exact Nat.le_refl _ | omega | (simp; done) | (simp; omega))))) (hb1.mono (by simp))) (hb2.mono (by omega))
    clear hb1 hb2
    go_wp2_with fail
    go_region_held3 (fun W => W.cell? ⟨w.heap.size, 0, none⟩ = some (.int .i64 n) ∧ W.cell? ⟨w.heap.size, 1, none⟩ = some (.int .i64 l) ∧ W.cell? ⟨w.heap.size, 2, none⟩ = some (.int .i64 u)) (go_keep)
      (first | (go_at_call 19; refine (HS.out _).mono ?_; rintro e w3 ⟨rfl, hb3⟩; have hw1 : Below w2.heap.size w2 w3 := Below.trans (below_drewN (Below.refl _ _) _) hb3; have LL := LD.out.after hw1; have c0 := LL.cell 0; have c1 := LL.cell 1; have c2 := LL.cell 2; clear LL) | (go_at_call 18; refine (HE.out _).mono ?_; rintro e w4 ⟨rfl, hb4⟩; have hw2 : Below w2.heap.size w2 w4 := Below.trans (by assumption) (hb4.mono (Below.size (B := w2.heap.size) (by assumption))); have LL := LD.out.after hw2; have c0 := LL.cell 0; have c1 := LL.cell 1; have c2 := LL.cell 2; clear LL))
    all_goals
      rename_i hHeld
      clear p0 p1 p2
      obtain ⟨p0, p1, p2⟩ := hHeld
      have hb5 : Below w.heap.size w w4 := Below.trans hbw (hw2.mono (by omega))
      have s4 : w2.heap.size ≤ w4.heap.size := hw2.size
      go_wp2_with fail
      refine (HWW.out _).mono ?_
      rintro e w6 ⟨rfl, hb6⟩
      have s6 := hb6.size; try simp only [World.size_alloc, World.size_setCell, World.size_drew, setRow_size] at s6
      go_wp2_with fail
      go_ret2
      exact ⟨rfl, Below.trans hb5 (hb6.mono (by omega))⟩
theorem rWrite_any (un n l u : Int) (w : World) : Calls Tryd.prog 8 #[.agg #[.int .i64 n, .int .i64 l, .int .i64 u], .int .u8 un] w (Wrote (writeS un n l u) w) := by
  unfold writeS
  cases h : okD n l u
  · rw [if_pos rfl]; exact rWrite_bad un n l u w h
  · rw [if_neg (by simp)]
    by_cases h1 : un = 1
    · rw [if_pos h1]; exact rWrite_go un 100 n l u 3 mmL w (.inl ⟨h1, rfl, rfl, rfl⟩) h
    · rw [if_neg h1]
      by_cases h2 : un = 2
      · rw [if_pos h2]; exact rWrite_go un 254 n l u 4 inL w (.inr ⟨h2, rfl, rfl, rfl⟩) h
      · rw [if_neg h2]; exact rWrite_unit un n l u w h h1 h2
end Go.Proofs.YtjejjeomknkglaaDoor
