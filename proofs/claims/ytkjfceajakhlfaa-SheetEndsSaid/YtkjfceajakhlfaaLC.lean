/- K12: The reference: Great, LastOf, Numbers. K15: The reference: Dim, Issue. K16: The reference: listed. K17: The reference: depths. JM1: Chains: the program's rounds and the reference's. -/
import Derived.Test.YtkjfceajakhlfaaLA
import Derived.Test.YtkjfceajakhlfaaA1
import Derived.Test.YtkjfceajakhlfaaLB
import Derived.StillTailTactics
namespace Go.Proofs.Ytkjfceajakhlfaa
set_option linter.unusedVariables false
set_option linter.unusedSimpArgs false
section
open Go.RowKit

def bigB (x : Iss) : Bool := decide (16 < x.items.length) || decide (8 < x.dims.length)
def greatB (xs : List Iss) : Bool := decide (80 < xs.length) || xs.any bigB
set_option maxHeartbeats 2000000 in
theorem rGreat_any (A : Option Addr) (c b off : Nat) (xs : List Iss) (vi vd : Nat → Value) (w : World) (hm : xs.length ≤ 9223372036854775807) (hm2 : ∀ x ∈ xs, x.items.length ≤ 9223372036854775807 ∧ x.dims.length ≤ 9223372036854775807) (hA : 0 < xs.length → A = some ⟨b, off, none⟩) (hc : IssRow w b off xs vi vd) :
    Calls Try.prog 17 #[.agg #[.slice A xs.length c]] w fun e w' => e = .returned (.bool (greatB xs)) ∧ Below w.heap.size w w' := by
  have HA := Lib.hid hA
  have HC := Lib.hid hc
  have HM := Lib.hid hm2
  clear hA hc hm2
  unfold greatB
  by_cases h80 : 80 < xs.length
  · have h80' : (80 : Int) < (xs.length : Int) := by omega
    have HR : Hid ((decide (80 < xs.length) || xs.any bigB) = true) := Lib.hid (by rw [decide_eq_true h80]; rfl)
    go_enter Try.func17, Try.ntmps17
    go_wp2
    go_ret
    exact ⟨ret_bool HR.out.symm, by (repeat' (first | (with_reducible first | exact Below.refl _ _ | assumption | refine Below.alloc ?_ ?_ _ | refine Below.setCell ?_ ?_ _ | refine below_row ?_ ?_ _ | refine Below.drew ?_ | refine below_drewN ?_ _ | refine Below.trans ?_ (Below.mono (by assumption) ?_)) | exact Nat.le_refl _ | omega | (simp; done) | (simp; omega) | exact Below.size (by assumption)))⟩
  · have h80' : ¬ (80 : Int) < (xs.length : Int) := by omega
    rw [decide_eq_false h80, Bool.false_or]
    have HD0 := Lib.hid (Lies.made w 24 #[.slice A xs.length c])
    go_enter Try.func17, Try.ntmps17
    go_wp2_with fail
    go_loopw [3] (fun i wr => ∃ k : Nat, k ≤ xs.length ∧ i = .int .i64 k ∧ Hid (∀ j (_ : j < k) (h : j < xs.length), bigB xs[j] = false) ∧ Hid (Lies wr w.heap.size 24 #[.slice A xs.length c]) ∧ Below w.heap.size w wr) (fun i _ => xs.length - (intOf i).toNat)
    case atStart => exact ⟨0, by omega, rfl, Lib.hid (fun j hj => by omega), HD0, by (repeat' (first | (with_reducible first | exact Below.refl _ _ | assumption | refine Below.alloc ?_ ?_ _ | refine Below.setCell ?_ ?_ _ | refine below_row ?_ ?_ _ | refine Below.drew ?_ | refine below_drewN ?_ _ | refine Below.trans ?_ (Below.mono (by assumption) ?_)) | exact Nat.le_refl _ | omega | (simp; done) | (simp; omega) | exact Below.size (by assumption)))⟩
    case round =>
      obtain ⟨k, hk, rfl, HJ, HD, hb⟩ := hrel
      have d0 := HD.out.cell 0
      have zd := HD.out.lt
      by_cases hlt : k < xs.length
      · obtain rfl := HA.out (by omega)
        obtain ⟨q0, q1, q2, q3, q4, -, ⟨Ai, ci, bi, oi, hvi, -, -⟩, ⟨Ad, cd, bd, od, hvd, -, -⟩, -⟩ := (HC.out.after hb) k hlt
        rw [hvi] at q3
        rw [hvd] at q4
        have hx := HM.out xs[k] (List.getElem_mem hlt)
        have HBF : Hid (¬ 16 < xs[k].items.length → ¬ 8 < xs[k].dims.length → bigB xs[k] = false) := Lib.hid (fun h1 h2 => by unfold bigB; rw [decide_eq_false h1, decide_eq_false h2]; rfl)
        have HYE : Hid (16 < xs[k].items.length ∨ 8 < xs[k].dims.length → xs.any bigB = true) := Lib.hid (fun h => List.any_eq_true.2 ⟨xs[k], List.getElem_mem hlt, by unfold bigB; rcases h with h | h <;> simp [h]⟩)
        clear hvi hvd
        have kl1 : (k : Int) < (xs.length : Int) := by omega
        have HJK : Hid (∀ h : bigB xs[k] = false, ∀ j (_ : j < k + 1) (h : j < xs.length), bigB xs[j] = false) := Lib.hid (fun h j hj hjl => by
          by_cases e : j = k
          · subst e; exact h
          · exact HJ.out j (by omega) hjl)
        generalize xs[k].items.length = ni at *
        generalize xs[k].dims.length = nd at *
        by_cases c1 : 16 < ni
        · have c1' : (16 : Int) < (ni : Int) := by omega
          have HR := Lib.hid (HYE.out (.inl c1))
          go_wp2
          go_ret
          exact ⟨ret_bool HR.out.symm, hb⟩
        · have c1' : ¬ (16 : Int) < (ni : Int) := by omega
          have c1d : decide ((16 : Int) < (ni : Int)) = false := by simpa using c1'
          by_cases c2 : 8 < nd
          · have c2' : (8 : Int) < (nd : Int) := by omega
            have HR := Lib.hid (HYE.out (.inr c2))
            go_wp2
            go_ret
            exact ⟨ret_bool HR.out.symm, hb⟩
          · have c2' : ¬ (8 : Int) < (nd : Int) := by omega
            have c2d : decide ((8 : Int) < (nd : Int)) = false := by simpa using c2'
            have HR := Lib.hid (HJK.out (HBF.out c1 c2))
            go_wp2
            go_roundw
            case rel => exact ⟨k + 1, by omega, by go_num, HR, HD, hb⟩
            case measure => simp [intOf]; omega
      · have HR : Hid (xs.any bigB = false) := Lib.hid (List.any_eq_false.2 (fun x hx => by obtain ⟨j, hj, rfl⟩ := List.getElem_of_mem hx; rw [HJ.out j (by omega) hj]; simp))
        go_wp2
        go_ret
        exact ⟨ret_bool HR.out.symm, hb⟩
/-- The greatest letter of a drawing. -/
def lastOfR (d : Int) : Int → List Iss → Int
  | m, [] => m
  | m, x :: r => lastOfR d (if x.d = d then max m x.l else m) r
theorem lastOfR_step {d m : Int} {xs : List Iss} {k : Nat} (h : k < xs.length) : lastOfR d m (xs.drop k) = lastOfR d (if xs[k].d = d then max m xs[k].l else m) (xs.drop (k + 1)) := by
  rw [List.drop_eq_getElem_cons h, lastOfR]
set_option maxHeartbeats 2000000 in
theorem rLastOf_any (A : Option Addr) (c b off : Nat) (xs : List Iss) (vi vd : Nat → Value) (d : Int) (w : World) (hm : xs.length ≤ 1000) (hA : 0 < xs.length → A = some ⟨b, off, none⟩) (hc : IssRow w b off xs vi vd) :
    Calls Try.prog 62 #[.agg #[.slice A xs.length c], .int .i64 d] w fun e w' => e = .returned (.int .i64 (lastOfR d 0 xs)) ∧ Below w.heap.size w w' := by
  have HA := Lib.hid hA
  have HC := Lib.hid hc
  clear hA hc
  have HD0 := Lib.hid (Lies.made w 24 #[.slice A xs.length c])
  go_enter Try.func62, Try.ntmps62
  go_wp2_with fail
  go_loopw [5, 6] (fun u i wr => ∃ (k : Nat) (m : Int), k ≤ xs.length ∧ i = .int .i64 k ∧ u = .int .i64 m ∧ Hid (lastOfR d m (xs.drop k) = lastOfR d 0 xs) ∧ Hid (Lies wr w.heap.size 24 #[.slice A xs.length c]) ∧ Below w.heap.size w wr) (fun _ i _ => xs.length - (intOf i).toNat)
  case atStart => exact ⟨0, 0, by omega, rfl, rfl, Lib.hid rfl, HD0, by (repeat' (first | (with_reducible first | exact Below.refl _ _ | assumption | refine Below.alloc ?_ ?_ _ | refine Below.setCell ?_ ?_ _ | refine below_row ?_ ?_ _ | refine Below.drew ?_ | refine below_drewN ?_ _ | refine Below.trans ?_ (Below.mono (by assumption) ?_)) | exact Nat.le_refl _ | omega | (simp; done) | (simp; omega) | exact Below.size (by assumption)))⟩
  case round =>
    obtain ⟨k, m, hk, rfl, rfl, HJ, HD, hb⟩ := hrel
    have d0 := HD.out.cell 0
    have zd := HD.out.lt
    by_cases hlt : k < xs.length
    · obtain rfl := HA.out (by omega)
      obtain ⟨q0, q1, q2, q3, q4, -⟩ := (HC.out.after hb) k hlt
      have kl1 : (k : Int) < (xs.length : Int) := by omega
      have HS := Lib.hid ((lastOfR_step (d := d) (m := m) hlt).symm.trans HJ.out)
      generalize xs[k].d = xd at *
      generalize xs[k].l = xl at *
      by_cases e : xd = d
      · subst e
        go_wp2
        go_roundw
        case rel => exact ⟨k + 1, _, by omega, by go_num, rfl, Lib.hid (by have := HS.out; rw [if_pos rfl] at this; rw [show (if m < xl then xl else m) = max m xl from by rw [Int.max_def]; split <;> split <;> omega]; exact this), HD, hb⟩
        case measure => simp [intOf]; omega
      · have e' : (xd == d) = false := by rw [beq_eq_false_iff_ne]; exact e
        have HR := Lib.hid (by have := HS.out; rwa [if_neg e] at this)
        clear e
        go_wp2
        go_roundw
        case rel => exact ⟨k + 1, _, by omega, by go_num, rfl, HR, HD, hb⟩
        case measure => simp [intOf]; omega
    · have hke : k = xs.length := by omega
      have HR := Lib.hid HJ.out
      rw [hke, List.drop_length, lastOfR] at HR
      go_wp2
      go_ret
      exact ⟨ret_int HR.out, hb⟩

/-- The drawings of issues, each where it is another one than before. -/
def numbersR (xs : List Iss) : List Int := (List.range xs.length).flatMap fun k => if h : k < xs.length then (if k = 0 then [xs[k].d] else if (xs[k - 1]'(by omega)).d = xs[k].d then [] else [xs[k].d]) else []
def numK (xs : List Iss) (k : Nat) : List Int := (List.range k).flatMap fun k => if h : k < xs.length then (if k = 0 then [xs[k].d] else if (xs[k - 1]'(by omega)).d = xs[k].d then [] else [xs[k].d]) else []
theorem numK_zero {xs : List Iss} (h : 0 < xs.length) : numK xs 1 = [xs[0].d] := by simp [numK, h, List.range_succ]
theorem numK_step {xs : List Iss} {k : Nat} (h : k < xs.length) (h0 : 0 < k) : numK xs (k + 1) = numK xs k ++ if (xs[k - 1]'(by omega)).d = xs[k].d then [] else [xs[k].d] := by
  unfold numK
  rw [List.range_succ, List.flatMap_append]
  have h1 : ¬ k = 0 := by omega
  simp [h, h1]
theorem numK_le (xs : List Iss) (k : Nat) : (numK xs k).length ≤ k := by
  induction k with
  | zero => simp [numK]
  | succ k ih =>
    unfold numK at *
    rw [List.range_succ, List.flatMap_append, List.length_append]
    have : (List.flatMap (fun k => if h : k < xs.length then (if k = 0 then [xs[k].d] else if (xs[k - 1]'(by omega)).d = xs[k].d then [] else [xs[k].d]) else []) [k]).length ≤ 1 := by
      simp only [List.flatMap_cons, List.flatMap_nil, List.append_nil]
      split
      · split
        · simp
        · split <;> simp
      · simp
    omega
set_option maxHeartbeats 4000000 in
theorem rNumbers_any (A : Option Addr) (c b off : Nat) (xs : List Iss) (vi vd : Nat → Value) (w : World) (hl : xs.length ≤ 1000) (hA : 0 < xs.length → A = some ⟨b, off, none⟩) (hc : IssRow w b off xs vi vd) :
    Calls Try.prog 59 #[.agg #[.slice A xs.length c]] w fun e w' => ∃ v, e = .returned v ∧ w'.ownsRow w.heap.size 3 1 v (numbersR xs).length (cellsN (numbersR xs)) ∧ Below w.heap.size w w' := by
  have HC := Lib.hid hc
  have HA := Lib.hid hA
  clear hc hA
  obtain ⟨i0, hi, iz0, iz1, iz2⟩ := info_parts infoN
  have HD0 := Lib.hid (Lies.made w 24 #[.slice A xs.length c])
  go_enter Try.func59, Try.ntmps59
  go_wp2_with fail
  go_loopw [3, 4] (fun v i wr => ∃ (k : Nat), k ≤ xs.length ∧ i = .int .i64 k ∧ Hid (wr.ownsRow w.heap.size 3 1 v (numK xs k).length (cellsN (numK xs k))) ∧ Hid (Lies wr w.heap.size 24 #[.slice A xs.length c]) ∧ Below w.heap.size w wr) (fun _ i _ => xs.length - (intOf i).toNat)
  case atStart => exact ⟨0, by omega, rfl, Lib.hid (World.ownsRow_nil _ _ _ _), HD0, by (repeat' (first | (with_reducible first | exact Below.refl _ _ | assumption | refine Below.alloc ?_ ?_ _ | refine Below.setCell ?_ ?_ _ | refine below_row ?_ ?_ _ | refine Below.drew ?_ | refine below_drewN ?_ _ | refine Below.trans ?_ (Below.mono (by assumption) ?_)) | exact Nat.le_refl _ | omega | (simp; done) | (simp; omega) | exact Below.size (by assumption)))⟩
  case round =>
    obtain ⟨k, hk, rfl, HO, HD, hb⟩ := hrel
    have hz := hb.size
    have d0 := HD.out.cell 0
    have zd := HD.out.lt
    have hll := numK_le xs k
    by_cases hlt : k < xs.length
    · obtain rfl := HA.out (by omega)
      have kl1 : (k : Int) < (xs.length : Int) := by omega
      have q0 := ((HC.out.after hb) k hlt).1
      by_cases hk0 : k = 0
      · subst hk0
        have HS := Lib.hid (numK_zero hlt)
        have hr0 : wr.cell? ⟨b, off, none⟩ = some (.int .i64 (xs[0].d)) := by simpa using q0
        generalize xs[0].d = d at *
        go_wp2_with (at_builtin; refine wpList_append_own _ rfl _ _ 29 rfl w.heap.size 3 i0 (.int .i64 0) 1 8 Try.underlying29 hi iz0 iz1 iz2 rfl (by decide) _ _ _ rfl (HO.out.alloc _) ⟨wr.heap.size, 0, none⟩ 1 1 [.int .i64 d] rfl rfl (World.news_of_block (cs := #[.int .i64 d]) (t := 3) (fr := (0, 0)) (Lies.new (by simp))) (by simp [Value.oneCell']) (by unfold maxLen; omega) (by omega) (by simp; omega) ?_; intro v' w1 hown' hgrow _; have HOW := Lib.hid (HO.out.alloc (.cells #[.int .i64 d] 3)); have HB2 := Lib.hid (below_own (w0 := w) (B := w.heap.size) (by (repeat' (first | (with_reducible first | exact Below.refl _ _ | assumption | refine Below.alloc ?_ ?_ _ | refine Below.setCell ?_ ?_ _ | refine below_row ?_ ?_ _ | refine Below.drew ?_ | refine below_drewN ?_ _ | refine Below.trans ?_ (Below.mono (by assumption) ?_)) | exact Nat.le_refl _ | omega | (simp; done) | (simp; omega) | exact Below.size (by assumption)))) HOW.out hgrow (Nat.le_refl _) (by simp; omega)); have HD2 := Lib.hid (lies_own (HD.out.alloc (.cells #[.int .i64 d] 3)) HOW.out hgrow (by decide)); have HO2 := Lib.hid hown'; clear hown' hgrow HOW)
        go_roundw
        case rel => exact ⟨1, by omega, by go_num, Lib.hid (by rw [HS.out]; exact HO2.out), HD2, HB2.out⟩
        case measure => simp [intOf]; omega
      · have hk1 : 1 ≤ (k : Int) := by omega
        have hk4 : k - 1 < xs.length := by omega
        have p0 := ((HC.out.after hb) (k - 1) hk4).1
        have HS := Lib.hid (numK_step hlt (by omega))
        have hk2 : ((k : Int) == 0) = false := by rw [beq_eq_false_iff_ne]; omega
        have kl2 : (k : Int) - 1 < (xs.length : Int) := by omega
        generalize (xs[k - 1]'hk4).d = e0 at *
        generalize xs[k].d = d at *
        clear hk0
        by_cases he : e0 = d
        · subst he
          have HR := Lib.hid (by have := HS.out; rwa [if_pos rfl, List.append_nil] at this)
          go_wp2
          go_roundw
          case rel => exact ⟨k + 1, by omega, by go_num, Lib.hid (by rw [HR.out]; exact HO.out), HD, hb⟩
          case measure => simp [intOf]; omega
        · have he' : (e0 != d) = true := by simp [he]
          have HR := Lib.hid (by have := HS.out; rwa [if_neg he] at this)
          clear he
          go_wp2_with (at_builtin; refine wpList_append_own _ rfl _ _ 29 rfl w.heap.size 3 i0 (.int .i64 0) 1 8 Try.underlying29 hi iz0 iz1 iz2 rfl (by decide) _ _ _ rfl (HO.out.alloc _) ⟨wr.heap.size, 0, none⟩ 1 1 [.int .i64 d] rfl rfl (World.news_of_block (cs := #[.int .i64 d]) (t := 3) (fr := (0, 0)) (Lies.new (by simp))) (by simp [Value.oneCell']) (by unfold maxLen; omega) (by omega) (by simp; omega) ?_; intro v' w1 hown' hgrow _; have HOW := Lib.hid (HO.out.alloc (.cells #[.int .i64 d] 3)); have HB2 := Lib.hid (below_own (w0 := w) (B := w.heap.size) (by (repeat' (first | (with_reducible first | exact Below.refl _ _ | assumption | refine Below.alloc ?_ ?_ _ | refine Below.setCell ?_ ?_ _ | refine below_row ?_ ?_ _ | refine Below.drew ?_ | refine below_drewN ?_ _ | refine Below.trans ?_ (Below.mono (by assumption) ?_)) | exact Nat.le_refl _ | omega | (simp; done) | (simp; omega) | exact Below.size (by assumption)))) HOW.out hgrow (Nat.le_refl _) (by simp; omega)); have HD2 := Lib.hid (lies_own (HD.out.alloc (.cells #[.int .i64 d] 3)) HOW.out hgrow (by decide)); have HO2 := Lib.hid hown'; clear hown' hgrow HOW)
          go_roundw
          case rel => exact ⟨k + 1, by omega, by go_num, Lib.hid (by rw [HR.out, List.length_append]; unfold cellsN; rw [List.map_append]; exact HO2.out), HD2, HB2.out⟩
          case measure => simp [intOf]; omega
    · have hke : k = xs.length := by omega
      have HR : Hid (wr.ownsRow w.heap.size 3 1 _ (numbersR xs).length (cellsN (numbersR xs))) := Lib.hid (by have := HO.out; rw [hke] at this; exact this)
      clear HO
      subst hke
      go_wp2
      go_ret
      exact ⟨_, rfl, HR.out, hb⟩
end
section
open Go.RowKit

set_option maxHeartbeats 400000 in
theorem r1within_any (a lo hi : Int) (w : World) : Calls Try.prog 138 #[.int .i64 a, .int .i64 lo, .int .i64 hi] w fun e w' => e = .returned (.bool (inB lo hi a)) ∧ w = w' := by
  unfold inB
  by_cases h1 : lo ≤ a <;> by_cases h2 : a ≤ hi
  all_goals
    go_enter Try.func138, Try.ntmps138
    go_wp2
    go_ret
    exact ⟨ret_bool (by simp [h1, h2]), rfl⟩
set_option maxHeartbeats 1000000 in
theorem rDim_any (n l u : Int) (w : World) : Calls Try.prog 130 #[.agg #[.int .i64 n, .int .i64 l, .int .i64 u]] w fun e w' => e = .returned (.bool (okD n l u)) ∧ Below w.heap.size w w' := by
  have hok : okD n l u = (inB 0 1000000000 n && inB 0 1000000000 u && inB 0 u l) := by
    unfold okD inB
    rw [Bool.eq_iff_iff]
    simp only [decide_eq_true_eq, Bool.and_eq_true]
    omega
  rw [hok]
  have H1 := Lib.hid (fun W => r1within_any n 0 1000000000 W)
  have H2 := Lib.hid (fun W => r1within_any u 0 1000000000 W)
  have H3 := Lib.hid (fun W => r1within_any l 0 u W)
  clear hok
  generalize inB 0 1000000000 n = p at *
  generalize inB 0 1000000000 u = q at *
  generalize inB 0 u l = r at *
  cases p
  · go_enter Try.func130, Try.ntmps130
    go_wp2_with fail
    refine (H1.out _).mono ?_
    rintro e w1 ⟨rfl, rfl⟩
    go_wp2
    go_ret
    exact ⟨rfl, by (repeat' (first | (with_reducible first | exact Below.refl _ _ | assumption | refine Below.alloc ?_ ?_ _ | refine Below.setCell ?_ ?_ _ | refine below_row ?_ ?_ _ | refine Below.drew ?_ | refine below_drewN ?_ _ | refine Below.trans ?_ (Below.mono (by assumption) ?_)) | exact Nat.le_refl _ | omega | (simp; done) | (simp; omega) | exact Below.size (by assumption)))⟩
  · cases q
    · go_enter Try.func130, Try.ntmps130
      go_wp2_with fail
      refine (H1.out _).mono ?_
      rintro e w1 ⟨rfl, rfl⟩
      go_wp2_with fail
      refine (H2.out _).mono ?_
      rintro e w1 ⟨rfl, rfl⟩
      go_wp2
      go_ret
      exact ⟨rfl, by (repeat' (first | (with_reducible first | exact Below.refl _ _ | assumption | refine Below.alloc ?_ ?_ _ | refine Below.setCell ?_ ?_ _ | refine below_row ?_ ?_ _ | refine Below.drew ?_ | refine below_drewN ?_ _ | refine Below.trans ?_ (Below.mono (by assumption) ?_)) | exact Nat.le_refl _ | omega | (simp; done) | (simp; omega) | exact Below.size (by assumption)))⟩
    · go_enter Try.func130, Try.ntmps130
      go_wp2_with fail
      refine (H1.out _).mono ?_
      rintro e w1 ⟨rfl, rfl⟩
      go_wp2_with fail
      refine (H2.out _).mono ?_
      rintro e w1 ⟨rfl, rfl⟩
      go_wp2_with fail
      refine (H3.out _).mono ?_
      rintro e w1 ⟨rfl, rfl⟩
      go_wp2
      go_ret
      exact ⟨rfl, by (repeat' (first | (with_reducible first | exact Below.refl _ _ | assumption | refine Below.alloc ?_ ?_ _ | refine Below.setCell ?_ ?_ _ | refine below_row ?_ ?_ _ | refine Below.drew ?_ | refine below_drewN ?_ _ | refine Below.trans ?_ (Below.mono (by assumption) ?_)) | exact Nat.le_refl _ | omega | (simp; done) | (simp; omega) | exact Below.size (by assumption)))⟩

/-- An issue's head and its lists' lengths. -/
def headR (x : Iss) : Bool := namedB x && (if x.k = 1 then inB 1 8 x.items.length && decide (x.dims.length = 0) else decide (x.dims.length ≤ 4) && decide (x.items.length = 0))
/-- An item, behind another one. -/
def itemR (d : Int) (l : List (Int × Int)) (j : Nat) : Bool := if h : j < l.length then inB 1 9999 l[j].1 && inB 1 20 l[j].2 && !decide (l[j].1 = d) && (decide (j = 0) || decide ((l[j - 1]'(by omega)).1 < l[j].1)) else true
def itemsR (d : Int) (l : List (Int × Int)) : Bool := (List.range l.length).all (itemR d l)
def dimsR (l : List D3) : Bool := l.all fun d => okD d.1 d.2.1 d.2.2
def issueR (x : Iss) : Bool := headR x && itemsR x.d x.items && dimsR x.dims
theorem itemsR_no {d : Int} {l : List (Int × Int)} {j : Nat} (h : j < l.length) (hb : itemR d l j = false) : itemsR d l = false := by
  unfold itemsR; rw [List.all_eq_false]; exact ⟨j, List.mem_range.2 h, by rw [hb]; simp⟩
theorem itemsR_yes {d : Int} {l : List (Int × Int)} (h : ∀ j, j < l.length → itemR d l j = true) : itemsR d l = true := by
  unfold itemsR; rw [List.all_eq_true]; exact fun j hj => h j (List.mem_range.1 hj)

set_option maxRecDepth 100000 in
set_option maxHeartbeats 8000000 in
theorem rIssue_head (x : Iss) (vi vd : Value) (w : World) (hk : 0 ≤ x.k ∧ x.k ≤ 255) (hl1 : x.items.length ≤ 1000) (hl2 : x.dims.length ≤ 1000) (h1 : ItemsAt w vi x.items) (h2 : DimsAt w vd x.dims) (hh : headR x = false) :
    Calls Try.prog 116 #[.agg #[.int .i64 x.d, .int .i64 x.l, .int .u8 x.k, vi, vd]] w fun e w' => e = .returned (.bool false) ∧ Below w.heap.size w w' := by
  obtain ⟨d, l, k, il, dl⟩ := x
  simp only at hk hl1 hl2 h1 h2 hh ⊢
  obtain ⟨A1, c1, b1, o1, rfl, -, -⟩ := h1
  obtain ⟨A2, c2, b2, o2, rfl, -, -⟩ := h2
  unfold headR namedB at hh
  simp only at hh
  have H1 := Lib.hid (fun W => rwithin_any d 1 9999 W)
  have H2 := Lib.hid (fun W => rwithin_any l 1 8 W)
  have H3 := Lib.hid (fun W => rwithin_any k 1 3 W)
  have H4 := Lib.hid (fun W => rwithin_any (il.length : Int) 1 8 W)
  have hkk : inB 1 3 k = true → 1 ≤ k ∧ k ≤ 3 := by unfold inB; simp
  have hk2 : IntKind.i64.wrap k = k := by simp [IntKind.wrap, IntKind.bits, IntKind.signed]; omega
  have HH := Lib.hid hh
  have HKK := Lib.hid hkk
  clear hh hkk
  generalize inB 1 9999 d = p1 at *
  generalize inB 1 8 l = p2 at *
  generalize inB 1 3 k = p3 at *
  generalize inB 1 8 (il.length : Int) = p4 at *
  cases p1
  · go_enter Try.func116, Try.ntmps116
    go_wp2_with fail
    refine (H1.out _).mono ?_
    rintro e w1 ⟨rfl, rfl⟩
    go_wp2
    go_ret
    exact ⟨rfl, by (repeat' (first | (with_reducible first | exact Below.refl _ _ | assumption | refine Below.alloc ?_ ?_ _ | refine Below.setCell ?_ ?_ _ | refine below_row ?_ ?_ _ | refine Below.drew ?_ | refine below_drewN ?_ _ | refine Below.trans ?_ (Below.mono (by assumption) ?_)) | exact Nat.le_refl _ | omega | (simp; done) | (simp; omega) | exact Below.size (by assumption)))⟩
  cases p2
  · go_enter Try.func116, Try.ntmps116
    go_wp2_with fail
    refine (H1.out _).mono ?_
    rintro e w1 ⟨rfl, rfl⟩
    go_wp2_with fail
    refine (H2.out _).mono ?_
    rintro e w1 ⟨rfl, rfl⟩
    go_wp2
    go_ret
    exact ⟨rfl, by (repeat' (first | (with_reducible first | exact Below.refl _ _ | assumption | refine Below.alloc ?_ ?_ _ | refine Below.setCell ?_ ?_ _ | refine below_row ?_ ?_ _ | refine Below.drew ?_ | refine below_drewN ?_ _ | refine Below.trans ?_ (Below.mono (by assumption) ?_)) | exact Nat.le_refl _ | omega | (simp; done) | (simp; omega) | exact Below.size (by assumption)))⟩
  cases p3
  · go_enter Try.func116, Try.ntmps116
    go_wp2_with fail
    refine (H1.out _).mono ?_
    rintro e w1 ⟨rfl, rfl⟩
    go_wp2_with fail
    refine (H2.out _).mono ?_
    rintro e w1 ⟨rfl, rfl⟩
    go_wp2_with fail
    refine (H3.out _).mono ?_
    rintro e w1 ⟨rfl, rfl⟩
    go_wp2
    go_ret
    exact ⟨rfl, by (repeat' (first | (with_reducible first | exact Below.refl _ _ | assumption | refine Below.alloc ?_ ?_ _ | refine Below.setCell ?_ ?_ _ | refine below_row ?_ ?_ _ | refine Below.drew ?_ | refine below_drewN ?_ _ | refine Below.trans ?_ (Below.mono (by assumption) ?_)) | exact Nat.le_refl _ | omega | (simp; done) | (simp; omega) | exact Below.size (by assumption)))⟩
  obtain ⟨k1, k3⟩ := HKK.out rfl
  by_cases hk1 : k = 1
  · subst hk1
    have HH2 : Hid ((p4 && decide (dl.length = 0)) = false) := Lib.hid (by have := HH.out; rw [if_pos rfl] at this; simpa using this)
    clear HH
    cases p4
    · go_enter Try.func116, Try.ntmps116
      go_wp2_with fail
      refine (H1.out _).mono ?_
      rintro e w1 ⟨rfl, rfl⟩
      go_wp2_with fail
      refine (H2.out _).mono ?_
      rintro e w1 ⟨rfl, rfl⟩
      go_wp2_with fail
      refine (H3.out _).mono ?_
      rintro e w1 ⟨rfl, rfl⟩
      go_wp2_with fail
      refine (H4.out _).mono ?_
      rintro e w1 ⟨rfl, rfl⟩
      go_wp2
      go_ret
      exact ⟨rfl, by (repeat' (first | (with_reducible first | exact Below.refl _ _ | assumption | refine Below.alloc ?_ ?_ _ | refine Below.setCell ?_ ?_ _ | refine below_row ?_ ?_ _ | refine Below.drew ?_ | refine below_drewN ?_ _ | refine Below.trans ?_ (Below.mono (by assumption) ?_)) | exact Nat.le_refl _ | omega | (simp; done) | (simp; omega) | exact Below.size (by assumption)))⟩
    · have hdn : 0 < dl.length := by have := HH2.out; simp at this; exact List.length_pos_iff.2 this
      have hdl : 0 < (dl.length : Int) := by omega
      go_enter Try.func116, Try.ntmps116
      go_wp2_with fail
      refine (H1.out _).mono ?_
      rintro e w1 ⟨rfl, rfl⟩
      go_wp2_with fail
      refine (H2.out _).mono ?_
      rintro e w1 ⟨rfl, rfl⟩
      go_wp2_with fail
      refine (H3.out _).mono ?_
      rintro e w1 ⟨rfl, rfl⟩
      go_wp2_with fail
      refine (H4.out _).mono ?_
      rintro e w1 ⟨rfl, rfl⟩
      go_wp2
      go_ret
      exact ⟨rfl, by (repeat' (first | (with_reducible first | exact Below.refl _ _ | assumption | refine Below.alloc ?_ ?_ _ | refine Below.setCell ?_ ?_ _ | refine below_row ?_ ?_ _ | refine Below.drew ?_ | refine below_drewN ?_ _ | refine Below.trans ?_ (Below.mono (by assumption) ?_)) | exact Nat.le_refl _ | omega | (simp; done) | (simp; omega) | exact Below.size (by assumption)))⟩
  · have HH2 : Hid ((decide (dl.length ≤ 4) && decide (il.length = 0)) = false) := Lib.hid (by have := HH.out; rw [if_neg hk1] at this; simpa using this)
    have hkb : (k == 1) = false := by rw [beq_eq_false_iff_ne]; exact hk1
    have hkg : 1 < k := by omega
    clear HH
    by_cases h4 : dl.length ≤ 4
    · have hd4 : ¬ (4 : Int) < (dl.length : Int) := by omega
      have hd4d : decide ((4 : Int) < (dl.length : Int)) = false := by simpa using hd4
      have hin : 0 < il.length := by have := HH2.out; simp [h4] at this; exact List.length_pos_iff.2 this
      have hil : 0 < (il.length : Int) := by omega
      have hd4n : ¬ 4 < dl.length := by omega
      go_enter Try.func116, Try.ntmps116
      go_wp2_with fail
      refine (H1.out _).mono ?_
      rintro e w1 ⟨rfl, rfl⟩
      go_wp2_with fail
      refine (H2.out _).mono ?_
      rintro e w1 ⟨rfl, rfl⟩
      go_wp2_with fail
      refine (H3.out _).mono ?_
      rintro e w1 ⟨rfl, rfl⟩
      go_wp2
      go_ret
      exact ⟨rfl, by (repeat' (first | (with_reducible first | exact Below.refl _ _ | assumption | refine Below.alloc ?_ ?_ _ | refine Below.setCell ?_ ?_ _ | refine below_row ?_ ?_ _ | refine Below.drew ?_ | refine below_drewN ?_ _ | refine Below.trans ?_ (Below.mono (by assumption) ?_)) | exact Nat.le_refl _ | omega | (simp; done) | (simp; omega) | exact Below.size (by assumption)))⟩
    · have hd4 : (4 : Int) < (dl.length : Int) := by omega
      go_enter Try.func116, Try.ntmps116
      go_wp2_with fail
      refine (H1.out _).mono ?_
      rintro e w1 ⟨rfl, rfl⟩
      go_wp2_with fail
      refine (H2.out _).mono ?_
      rintro e w1 ⟨rfl, rfl⟩
      go_wp2_with fail
      refine (H3.out _).mono ?_
      rintro e w1 ⟨rfl, rfl⟩
      go_wp2
      go_ret
      exact ⟨rfl, by (repeat' (first | (with_reducible first | exact Below.refl _ _ | assumption | refine Below.alloc ?_ ?_ _ | refine Below.setCell ?_ ?_ _ | refine below_row ?_ ?_ _ | refine Below.drew ?_ | refine below_drewN ?_ _ | refine Below.trans ?_ (Below.mono (by assumption) ?_)) | exact Nat.le_refl _ | omega | (simp; done) | (simp; omega) | exact Below.size (by assumption)))⟩
theorem headR_iff {x : Iss} : headR x = true ↔ namedB x = true ∧ ((x.k = 1 ∧ inB 1 8 x.items.length = true ∧ x.dims.length = 0) ∨ (x.k ≠ 1 ∧ x.dims.length ≤ 4 ∧ x.items.length = 0)) := by
  unfold headR
  by_cases h : x.k = 1
  · simp [h]
  · simp [h]
set_option maxRecDepth 100000 in
set_option maxHeartbeats 8000000 in
theorem rIssue_body (d l k : Int) (il : List (Int × Int)) (dl : List D3) (A1 A2 : Option Addr) (c1 c2 b1 o1 b2 o2 : Nat) (w : World) (hl1 : il.length ≤ 1000) (hl2 : dl.length ≤ 1000)
    (hA1 : 0 < il.length → A1 = some ⟨b1, o1, none⟩) (hc1 : ∀ i (h : i < il.length), w.cell? ⟨b1, o1 + i * 2, none⟩ = some (.int .i64 il[i].1) ∧ w.cell? ⟨b1, o1 + i * 2 + 1, none⟩ = some (.int .i64 il[i].2))
    (hA2 : 0 < dl.length → A2 = some ⟨b2, o2, none⟩) (hc2 : cellsD w b2 o2 dl) (p1 : inB 1 9999 d = true) (p2 : inB 1 8 l = true) (p3 : inB 1 3 k = true)
    (hk : (k = 1 ∧ inB 1 8 il.length = true ∧ dl.length = 0) ∨ (k ≠ 1 ∧ dl.length ≤ 4 ∧ il.length = 0)) :
    Calls Try.prog 116 #[.agg #[.int .i64 d, .int .i64 l, .int .u8 k, .slice A1 il.length c1, .slice A2 dl.length c2]] w fun e w' => e = .returned (.bool (itemsR d il && dimsR dl)) ∧ Below w.heap.size w w' := by
  have H1 := Lib.hid (fun W => rwithin_any d 1 9999 W)
  have H2 := Lib.hid (fun W => rwithin_any l 1 8 W)
  have H3 := Lib.hid (fun W => rwithin_any k 1 3 W)
  have H4 := Lib.hid (fun W => rwithin_any (il.length : Int) 1 8 W)
  have hkk : 1 ≤ k ∧ k ≤ 3 := by unfold inB at p3; simpa using p3
  have hk2 : IntKind.i64.wrap k = k := IntWalk.i64_in _ (by omega)
  rw [p1] at H1
  rw [p2] at H2
  rw [p3] at H3
  have HA1 := Lib.hid hA1
  have HA2 := Lib.hid hA2
  have HC1 := Lib.hid hc1
  have HC2 := Lib.hid hc2
  clear p1 p2 p3 hA1 hA2 hc1 hc2
  have HD0 := Lib.hid (Lies.made w 45 #[.int .i64 d, .int .i64 l, .int .u8 k, .slice A1 il.length c1, .slice A2 dl.length c2])
  rcases hk with ⟨hk1, hin, hdz⟩ | ⟨hk1, hd4, hiz⟩
  · subst hk1
    obtain rfl : dl = [] := List.length_eq_zero_iff.1 hdz
    rw [hin] at H4
    have HIN := Lib.hid hin
    rw [show dimsR [] = true from rfl, Bool.and_true]
    clear hin hdz
    go_enter Try.func116, Try.ntmps116
    go_wp2_with fail
    refine (H1.out _).mono ?_
    rintro e w1 ⟨rfl, rfl⟩
    go_wp2_with fail
    refine (H2.out _).mono ?_
    rintro e w1 ⟨rfl, rfl⟩
    go_wp2_with fail
    refine (H3.out _).mono ?_
    rintro e w1 ⟨rfl, rfl⟩
    go_wp2_with fail
    refine (H4.out _).mono ?_
    rintro e w1 ⟨rfl, rfl⟩
    go_wp2_with fail
    go_loopw [3] (fun i wr => ∃ (j : Nat), j ≤ il.length ∧ i = .int .i64 j ∧ Hid (∀ p, p < il.length → p < j → itemR d il p = true) ∧ Hid (Lies wr w.heap.size 45 #[.int .i64 d, .int .i64 l, .int .u8 1, .slice A1 il.length c1, .slice A2 0 c2]) ∧ Below w.heap.size w wr) (fun i _ => il.length - (intOf i).toNat)
    case atStart => exact ⟨0, by omega, rfl, Lib.hid (fun p hp h => by omega), HD0, by (repeat' (first | (with_reducible first | exact Below.refl _ _ | assumption | refine Below.alloc ?_ ?_ _ | refine Below.setCell ?_ ?_ _ | refine below_row ?_ ?_ _ | refine Below.drew ?_ | refine below_drewN ?_ _ | refine Below.trans ?_ (Below.mono (by assumption) ?_)) | exact Nat.le_refl _ | omega | (simp; done) | (simp; omega) | exact Below.size (by assumption)))⟩
    case round =>
      obtain ⟨j, hj, rfl, HJ, HD, hb⟩ := hrel
      have hz := hb.size
      have x0 := HD.out.cell 0
      have x3 := HD.out.cell 3
      have zd := HD.out.lt
      by_cases hlt : j < il.length
      · obtain rfl := HA1.out (by omega)
        have r0 := cell_keep hb (HC1.out j hlt).1
        have r1 := cell_keep hb (HC1.out j hlt).2
        have kl1 : (j : Int) < (il.length : Int) := by omega
        have HIR : Hid (itemR d il j = (inB 1 9999 il[j].1 && inB 1 20 il[j].2 && !decide (il[j].1 = d) && (decide (j = 0) || decide ((il[j - 1]'(by omega)).1 < il[j].1)))) := Lib.hid (by unfold itemR; rw [dif_pos hlt])
        have HNO : Hid (itemR d il j = false → itemsR d il = false) := Lib.hid (fun h => itemsR_no hlt h)
        have HYE : Hid (itemR d il j = true → ∀ p, p < il.length → p < j + 1 → itemR d il p = true) := Lib.hid (fun h p hp hpj => by
          by_cases e : p = j
          · subst e; exact h
          · exact HJ.out p hp (by omega))
        have hj1 : j - 1 < il.length := by omega
        have hblk : b1 < wr.heap.size := World.block_lt_of_cell? wr _ r0
        have p0 := cell_keep hb (HC1.out (j - 1) hj1).1
        have HPE : Hid (∃ pe : Int, (il[j - 1]'hj1).1 = pe) := Lib.hid ⟨_, rfl⟩
        obtain ⟨pe, hpe⟩ := HPE.out
        rw [hpe] at HIR p0
        clear hpe HPE
        obtain ⟨e, he⟩ : ∃ e, il[j] = e := ⟨_, rfl⟩
        rw [he] at r0 r1 HIR
        clear he
        obtain ⟨e1, e2⟩ := e
        simp only at r0 r1 HIR
        by_cases g1 : inB 1 9999 e1 = true
        · by_cases g2 : inB 1 20 e2 = true
          · by_cases g3 : e1 = d
            · have b3 : (e1 == d) = true := by simpa using g3
              have HR := Lib.hid (HNO.out (by rw [HIR.out, decide_eq_true g3]; simp))
              clear g3 p0
              go_wp2_with fail
              go_quiet ((go_at_call 115; exact Calls.quiet_of_same ((rwithin_any _ _ _ _).mono (fun e w' h => ⟨h.1, h.2.symm⟩))))
              go_wp2_with fail
              go_ret
              exact ⟨ret_bool HR.out.symm, (below_drewN hb _).alloc (by simp; exact hb.size) _⟩
            · have b3 : (e1 == d) = false := by simpa using g3
              by_cases g4 : j = 0
              · have HR := Lib.hid (HYE.out (by rw [HIR.out, g1, g2, decide_eq_false g3, decide_eq_true g4]; rfl))
                have b4 : ¬ (0 : Int) < (j : Int) := by omega
                have b4d : decide ((0 : Int) < (j : Int)) = false := by simpa using b4
                have b4n : ¬ 0 < j := by omega
                have b4nd : decide (0 < j) = false := by simpa using b4n
                clear g3 p0 g4
                go_wp2_with fail
                go_quiet ((go_at_call 115; exact Calls.quiet_of_same ((rwithin_any _ _ _ _).mono (fun e w' h => ⟨h.1, h.2.symm⟩))))
                go_wp2_with fail
                go_roundw
                case rel => exact ⟨j + 1, by omega, by go_num, HR, Lib.hid ((HD.out.drewN _).alloc _), (below_drewN hb _).alloc (by simp; exact hb.size) _⟩
                case measure => simp [intOf]; omega
              · have b4 : (0 : Int) < (j : Int) := by omega
                have b4n : 0 < j := by omega
                have b41 : 1 ≤ (j : Int) := by omega
                have b4l : (j : Int) - 1 < (il.length : Int) := by omega
                have b4w : IntKind.i64.wrap ((j : Int) - 1) = (j : Int) - 1 := IntWalk.i64_in _ (by omega)
                have b40 : 0 ≤ (j : Int) - 1 := by omega
                have b4t : ((j : Int) - 1).toNat = j - 1 := by omega
                by_cases g5 : pe < e1
                · have HR := Lib.hid (HYE.out (by rw [HIR.out, g1, g2, decide_eq_false g3, decide_eq_true g5]; simp))
                  have b5 : ¬ e1 ≤ pe := by omega
                  have b5d : decide (e1 ≤ pe) = false := by simpa using b5
                  clear g3 g4
                  go_wp2_with fail
                  go_quiet ((go_at_call 115; exact Calls.quiet_of_same ((rwithin_any _ _ _ _).mono (fun e w' h => ⟨h.1, h.2.symm⟩))))
                  go_wp2_with fail
                  go_roundw
                  case rel => exact ⟨j + 1, by omega, by go_num, HR, Lib.hid ((HD.out.drewN _).alloc _), (below_drewN hb _).alloc (by simp; exact hb.size) _⟩
                  case measure => simp [intOf]; omega
                · have HR := Lib.hid (HNO.out (by rw [HIR.out, decide_eq_false g4, decide_eq_false g5]; simp))
                  have b5 : e1 ≤ pe := by omega
                  have b5d : decide (e1 ≤ pe) = true := by simpa using b5
                  clear g3 g4 g5
                  go_wp2_with fail
                  go_quiet ((go_at_call 115; exact Calls.quiet_of_same ((rwithin_any _ _ _ _).mono (fun e w' h => ⟨h.1, h.2.symm⟩))))
                  go_wp2_with fail
                  go_ret
                  exact ⟨ret_bool HR.out.symm, (below_drewN hb _).alloc (by simp; exact hb.size) _⟩
          · have g2' : inB 1 20 e2 = false := by simpa using g2
            have HR := Lib.hid (HNO.out (by rw [HIR.out, g2']; simp))
            clear g2 p0
            go_wp2_with fail
            go_quiet ((go_at_call 115; exact Calls.quiet_of_same ((rwithin_any _ _ _ _).mono (fun e w' h => ⟨h.1, h.2.symm⟩))))
            go_wp2_with fail
            go_ret
            exact ⟨ret_bool HR.out.symm, (below_drewN hb _).alloc (by simp; exact hb.size) _⟩
        · have g1' : inB 1 9999 e1 = false := by simpa using g1
          have HR := Lib.hid (HNO.out (by rw [HIR.out, g1']; simp))
          clear g1 p0
          go_wp2_with fail
          go_quiet ((go_at_call 115; exact Calls.quiet_of_same ((rwithin_any _ _ _ _).mono (fun e w' h => ⟨h.1, h.2.symm⟩))))
          go_wp2_with fail
          go_ret
          exact ⟨ret_bool HR.out.symm, (below_drewN hb _).alloc (by simp; exact hb.size) _⟩
      · have HR : Hid (itemsR d il = true) := Lib.hid (itemsR_yes (fun p hp => HJ.out p hp (by omega)))
        go_wp2_with fail
        clear x0 x3 zd
        go_loopw [5] (fun i wr => i = .int .i64 0 ∧ Hid (Lies wr w.heap.size 45 #[.int .i64 d, .int .i64 l, .int .u8 1, .slice A1 il.length c1, .slice A2 0 c2]) ∧ Below w.heap.size w wr) (fun i _ => 0)
        case atStart => exact ⟨rfl, HD, hb⟩
        case round =>
          obtain ⟨rfl, HD2, hb2⟩ := hrel
          have y4 := HD2.out.cell 4
          have zd := HD2.out.lt
          go_wp2
          go_ret
          exact ⟨ret_bool HR.out.symm, hb2⟩
  · obtain rfl : il = [] := List.length_eq_zero_iff.1 hiz
    rw [show itemsR d [] = true from rfl, Bool.true_and]
    have hkb : (k == 1) = false := by rw [beq_eq_false_iff_ne]; exact hk1
    have hkg : 1 < k := by omega
    have hd4' : ¬ (4 : Int) < (dl.length : Int) := by omega
    have hd4d : decide ((4 : Int) < (dl.length : Int)) = false := by simpa using hd4'
    have hd4n : ¬ 4 < dl.length := by omega
    have hd4nd : decide (4 < dl.length) = false := by simpa using hd4n
    clear hiz hk1
    go_enter Try.func116, Try.ntmps116
    go_wp2_with fail
    refine (H1.out _).mono ?_
    rintro e w1 ⟨rfl, rfl⟩
    go_wp2_with fail
    refine (H2.out _).mono ?_
    rintro e w1 ⟨rfl, rfl⟩
    go_wp2_with fail
    refine (H3.out _).mono ?_
    rintro e w1 ⟨rfl, rfl⟩
    go_wp2_with fail
    go_loopw [3] (fun i wr => i = .int .i64 0 ∧ Hid (Lies wr w.heap.size 45 #[.int .i64 d, .int .i64 l, .int .u8 k, .slice A1 0 c1, .slice A2 dl.length c2]) ∧ Below w.heap.size w wr) (fun i _ => 0)
    case atStart => exact ⟨rfl, HD0, by (repeat' (first | (with_reducible first | exact Below.refl _ _ | assumption | refine Below.alloc ?_ ?_ _ | refine Below.setCell ?_ ?_ _ | refine below_row ?_ ?_ _ | refine Below.drew ?_ | refine below_drewN ?_ _ | refine Below.trans ?_ (Below.mono (by assumption) ?_)) | exact Nat.le_refl _ | omega | (simp; done) | (simp; omega) | exact Below.size (by assumption)))⟩
    case round =>
      obtain ⟨rfl, HD1, hb1⟩ := hrel
      have y3 := HD1.out.cell 3
      have zd1 := HD1.out.lt
      go_wp2_with fail
      clear y3 zd1
      go_loopw [5] (fun i wr => ∃ (j : Nat), j ≤ dl.length ∧ i = .int .i64 j ∧ Hid (∀ p (h : p < dl.length), p < j → okD dl[p].1 dl[p].2.1 dl[p].2.2 = true) ∧ Hid (Lies wr w.heap.size 45 #[.int .i64 d, .int .i64 l, .int .u8 k, .slice A1 0 c1, .slice A2 dl.length c2]) ∧ Below w.heap.size w wr) (fun i _ => dl.length - (intOf i).toNat)
      case atStart => exact ⟨0, by omega, rfl, Lib.hid (fun p hp h => by omega), HD1, hb1⟩
      case round =>
        obtain ⟨j, hj, rfl, HJ, HD, hb⟩ := hrel
        have x4 := HD.out.cell 4
        have zd := HD.out.lt
        by_cases hlt : j < dl.length
        · obtain rfl := HA2.out (by omega)
          have r0 := cell_keep hb (HC2.out j hlt).1
          have r1 := cell_keep hb (HC2.out j hlt).2.1
          have r2 := cell_keep hb (HC2.out j hlt).2.2
          have kl1 : (j : Int) < (dl.length : Int) := by omega
          have HNO : Hid (okD dl[j].1 dl[j].2.1 dl[j].2.2 = false → dimsR dl = false) := Lib.hid (fun h => by unfold dimsR; rw [List.all_eq_false]; exact ⟨dl[j], List.getElem_mem hlt, by rw [h]; simp⟩)
          have HYE : Hid (okD dl[j].1 dl[j].2.1 dl[j].2.2 = true → ∀ p (h : p < dl.length), p < j + 1 → okD dl[p].1 dl[p].2.1 dl[p].2.2 = true) := Lib.hid (fun h p hp hpj => by
            by_cases e : p = j
            · subst e; exact h
            · exact HJ.out p hp (by omega))
          obtain ⟨e, he⟩ : ∃ e, dl[j] = e := ⟨_, rfl⟩
          rw [he] at r0 r1 r2 HNO HYE
          clear he
          obtain ⟨n0, l0, u0⟩ := e
          simp only at r0 r1 r2 HNO HYE
          have HDM := Lib.hid (fun W => rDim_any n0 l0 u0 W)
          generalize okD n0 l0 u0 = ok at *
          cases ok
          · have HR := Lib.hid (HNO.out rfl)
            go_wp2_with fail
            refine (HDM.out _).mono ?_
            rintro e w1 ⟨rfl, hb2⟩
            have hb3 : Below w.heap.size w w1 := by (repeat' (first | (with_reducible first | exact Below.refl _ _ | assumption | refine Below.alloc ?_ ?_ _ | refine Below.setCell ?_ ?_ _ | refine below_row ?_ ?_ _ | refine Below.drew ?_ | refine below_drewN ?_ _ | refine Below.trans ?_ (Below.mono (by assumption) ?_)) | exact Nat.le_refl _ | omega | (simp; done) | (simp; omega) | exact Below.size (by assumption)))
            go_wp2
            go_ret
            exact ⟨ret_bool HR.out.symm, hb3⟩
          · have HR := Lib.hid (HYE.out rfl)
            go_wp2_with fail
            refine (HDM.out _).mono ?_
            rintro e w1 ⟨rfl, hb2⟩
            have hb3 : Below w.heap.size w w1 := by (repeat' (first | (with_reducible first | exact Below.refl _ _ | assumption | refine Below.alloc ?_ ?_ _ | refine Below.setCell ?_ ?_ _ | refine below_row ?_ ?_ _ | refine Below.drew ?_ | refine below_drewN ?_ _ | refine Below.trans ?_ (Below.mono (by assumption) ?_)) | exact Nat.le_refl _ | omega | (simp; done) | (simp; omega) | exact Below.size (by assumption)))
            have HD3 := Lib.hid (HD.out.after hb2)
            clear hb2
            go_wp2
            go_roundw
            case rel => exact ⟨j + 1, by omega, by go_num, HR, HD3, hb3⟩
            case measure => simp [intOf]; omega
        · have HR : Hid (dimsR dl = true) := Lib.hid (by unfold dimsR; rw [List.all_eq_true]; intro x hx; obtain ⟨p, hp, rfl⟩ := List.getElem_of_mem hx; exact HJ.out p hp (by omega))
          go_wp2
          go_ret
          exact ⟨ret_bool HR.out.symm, hb⟩
theorem rIssue_any (x : Iss) (vi vd : Value) (w : World) (hk : 0 ≤ x.k ∧ x.k ≤ 255) (hl1 : x.items.length ≤ 1000) (hl2 : x.dims.length ≤ 1000) (h1 : ItemsAt w vi x.items) (h2 : DimsAt w vd x.dims) :
    Calls Try.prog 116 #[.agg #[.int .i64 x.d, .int .i64 x.l, .int .u8 x.k, vi, vd]] w fun e w' => e = .returned (.bool (issueR x)) ∧ Below w.heap.size w w' := by
  unfold issueR
  cases hh : headR x
  · rw [Bool.false_and, Bool.false_and]
    exact rIssue_head x vi vd w hk hl1 hl2 h1 h2 hh
  · rw [Bool.true_and]
    obtain ⟨hn, hc⟩ := headR_iff.1 hh
    unfold namedB at hn
    simp only [Bool.and_eq_true] at hn
    obtain ⟨d, l, k, il, dl⟩ := x
    obtain ⟨A1, c1, b1, o1, rfl, hA1, hc1⟩ := h1
    obtain ⟨A2, c2, b2, o2, rfl, hA2, hc2⟩ := h2
    exact rIssue_body d l k il dl A1 A2 c1 c2 b1 o1 b2 o2 w hl1 hl2 hA1 hc1 hA2 hc2 hn.1.1 hn.1.2 hn.2 hc
end
section
open Go.RowKit

def rightR : Iss → List Iss → Bool
  | _, [] => true
  | b, x :: r => issueR x && orderB b x && rightR x r
def listedR (xs : List Iss) : Bool := inB 1 60 xs.length && rightR zeroI xs && completeB xs (numbersR xs) && decide ((numbersR xs).length ≤ 20)
def prevI (xs : List Iss) (k : Nat) : Iss := if h : 0 < k ∧ k - 1 < xs.length then xs[k - 1] else zeroI
theorem rightR_step {xs : List Iss} {k : Nat} (h : k < xs.length) : rightR (prevI xs k) (xs.drop k) = (issueR xs[k] && orderB (prevI xs k) xs[k] && rightR (prevI xs (k + 1)) (xs.drop (k + 1))) := by
  rw [List.drop_eq_getElem_cons h, rightR]
  congr 2
  unfold prevI
  rw [dif_pos ⟨by omega, by simpa using h⟩]
  simp

set_option maxRecDepth 100000 in
set_option maxHeartbeats 16000000 in
theorem rListed_any (A : Option Addr) (c b off : Nat) (xs : List Iss) (vi vd : Nat → Value) (w : World) (hl : xs.length ≤ 1000) (hsm : ∀ x ∈ xs, x.items.length ≤ 1000 ∧ x.dims.length ≤ 1000) (hA : 0 < xs.length → A = some ⟨b, off, none⟩) (hc : IssRow w b off xs vi vd) :
    Calls Try.prog 67 #[.agg #[.slice A xs.length c]] w fun e w' => e = .returned (.bool (listedR xs)) ∧ Below w.heap.size w w' := by
  have HWI := Lib.hid (fun W => rwithin_any (xs.length : Int) 1 60 W)
  have HISS : Hid (∀ k (h : k < xs.length) W, Below w.heap.size w W → Calls Try.prog 116 #[.agg #[.int .i64 (xs[k].d), .int .i64 (xs[k].l), .int .u8 xs[k].k, vi k, vd k]] W fun e w' => e = .returned (.bool (issueR xs[k])) ∧ Below W.heap.size W w') :=
    Lib.hid (fun k h W hW => rIssue_any xs[k] (vi k) (vd k) W (hc k h).2.2.2.2.2.1 (hsm _ (List.getElem_mem h)).1 (hsm _ (List.getElem_mem h)).2 ((hc k h).2.2.2.2.2.2.1.after hW) ((hc k h).2.2.2.2.2.2.2.1.after hW))
  have HNU := Lib.hid (fun W (hW : Below w.heap.size w W) => rNumbers_any A c b off xs vi vd W hl hA (hc.after hW))
  have HA := Lib.hid hA
  have HC := Lib.hid hc
  have HSM := Lib.hid hsm
  have HLI : Hid (listedR xs = (inB 1 60 xs.length && rightR zeroI xs && completeB xs (numbersR xs) && decide ((numbersR xs).length ≤ 20))) := Lib.hid rfl
  clear hA hc hsm
  have HD0 := Lib.hid (Lies.made w 24 #[.slice A xs.length c])
  generalize inB 1 60 (xs.length : Int) = pin at *
  cases pin
  · have HR : Hid (listedR xs = false) := Lib.hid (by rw [HLI.out]; rfl)
    go_enter Try.func67, Try.ntmps67
    go_wp2_with fail
    refine (HWI.out _).mono ?_
    rintro e w1 ⟨rfl, rfl⟩
    go_wp2
    go_ret
    exact ⟨ret_bool HR.out.symm, by (repeat' (first | (with_reducible first | exact Below.refl _ _ | assumption | refine Below.alloc ?_ ?_ _ | refine Below.setCell ?_ ?_ _ | refine below_row ?_ ?_ _ | refine Below.drew ?_ | refine below_drewN ?_ _ | refine Below.trans ?_ (Below.mono (by assumption) ?_)) | exact Nat.le_refl _ | omega | (simp; done) | (simp; omega) | exact Below.size (by assumption)))⟩
  have HLI2 : Hid (listedR xs = (rightR zeroI xs && completeB xs (numbersR xs) && decide ((numbersR xs).length ≤ 20))) := Lib.hid (by rw [HLI.out]; rfl)
  clear HLI
  go_enter Try.func67, Try.ntmps67
  go_wp2_with fail
  refine (HWI.out _).mono ?_
  rintro e w1 ⟨rfl, rfl⟩
  go_wp2_with fail
  go_loopw [3] (fun i wr => ∃ (k : Nat), k ≤ xs.length ∧ i = .int .i64 k ∧ Hid (rightR (prevI xs k) (xs.drop k) = rightR zeroI xs) ∧ Hid (∀ h : 0 < k ∧ k - 1 < xs.length, issueR (xs[k - 1]'h.2) = true) ∧ Hid (Lies wr w.heap.size 24 #[.slice A xs.length c]) ∧ Below w.heap.size w wr) (fun i _ => xs.length - (intOf i).toNat)
  case atStart => exact ⟨0, by omega, rfl, Lib.hid rfl, Lib.hid (fun h => absurd h.1 (by omega)), HD0, by (repeat' (first | (with_reducible first | exact Below.refl _ _ | assumption | refine Below.alloc ?_ ?_ _ | refine Below.setCell ?_ ?_ _ | refine below_row ?_ ?_ _ | refine Below.drew ?_ | refine below_drewN ?_ _ | refine Below.trans ?_ (Below.mono (by assumption) ?_)) | exact Nat.le_refl _ | omega | (simp; done) | (simp; omega) | exact Below.size (by assumption)))⟩
  case round =>
    obtain ⟨k, hk, rfl, HJ, HJB, HD, hb⟩ := hrel
    have hz := hb.size
    have d0 := HD.out.cell 0
    have zd := HD.out.lt
    by_cases hlt : k < xs.length
    · obtain rfl := HA.out (by omega)
      obtain ⟨q0, q1, q2, q3, q4, -⟩ := (HC.out.after hb) k hlt
      obtain ⟨e3, e4⟩ := HC.out.slices hlt
      have kl1 : (k : Int) < (xs.length : Int) := by omega
      have HST := Lib.hid ((rightR_step hlt).symm.trans HJ.out)
      have HIK := Lib.hid (HISS.out k hlt)
      generalize vi k = v1 at *
      generalize vd k = v2 at *
      obtain ⟨A1, n1, c1, rfl⟩ := e3
      obtain ⟨A2, n2, c2, rfl⟩ := e4
      have HOB : Hid (∀ bx, orderB bx xs[k] = if xs[k].d = bx.d then decide (xs[k].l = bx.l + 1) && decide (xs[k].k = bx.k) else decide (bx.d < xs[k].d) && decide (xs[k].l = 1)) := Lib.hid (fun bx => rfl)
      have HDD : Hid (∃ dx lx kx, xs[k].d = dx ∧ xs[k].l = lx ∧ xs[k].k = kx) := Lib.hid ⟨_, _, _, rfl, rfl, rfl⟩
      obtain ⟨dx, lx, kx, hdx, hlx, hkx⟩ := HDD.out
      rw [hdx] at q0 HIK HOB
      rw [hlx] at q1 HIK HOB
      rw [hkx] at q2 HIK HOB
      clear HDD hdx hlx hkx
      have LX := Lib.hid (Lies.made wr 45 #[.int .i64 dx, .int .i64 lx, .int .u8 kx, .slice A1 n1 c1, .slice A2 n2 c2])
      have HIO : Hid (∃ iok, issueR xs[k] = iok) := Lib.hid ⟨_, rfl⟩
      obtain ⟨iok, hiok⟩ := HIO.out
      rw [hiok] at HST HIK
      have HNX : Hid (iok = true → ∀ h : 0 < k + 1 ∧ k + 1 - 1 < xs.length, issueR (xs[k + 1 - 1]'h.2) = true) := Lib.hid (fun e h => by subst e; exact hiok)
      clear HIO hiok
      have HPV : Hid (∃ pv, prevI xs k = pv) := Lib.hid ⟨_, rfl⟩
      obtain ⟨pv, hpv⟩ := HPV.out
      have HPE := Lib.hid hpv
      rw [hpv] at HST
      clear hpv HPV
      go_wp2_with fail
      refine (HIK.out _ (by (repeat' (first | (with_reducible first | exact Below.refl _ _ | assumption | refine Below.alloc ?_ ?_ _ | refine Below.setCell ?_ ?_ _ | refine below_row ?_ ?_ _ | refine Below.drew ?_ | refine below_drewN ?_ _ | refine Below.trans ?_ (Below.mono (by assumption) ?_)) | exact Nat.le_refl _ | omega | (simp; done) | (simp; omega) | exact Below.size (by assumption))))).mono ?_
      rintro e w2 ⟨rfl, hb2⟩
      have s2 := hb2.size; try simp only [World.size_alloc, World.size_setCell, World.size_drew, setRow_size] at s2
      have HD2 := Lib.hid ((HD.out.alloc (.cells #[.int .i64 dx, .int .i64 lx, .int .u8 kx, .slice A1 n1 c1, .slice A2 n2 c2] 45)).after hb2)
      have LX2 := Lib.hid (LX.out.after hb2)
      have hbw2 : Below w.heap.size w w2 := by (repeat' (first | (with_reducible first | exact Below.refl _ _ | assumption | refine Below.alloc ?_ ?_ _ | refine Below.setCell ?_ ?_ _ | refine below_row ?_ ?_ _ | refine Below.drew ?_ | refine below_drewN ?_ _ | refine Below.trans ?_ (Below.mono (by assumption) ?_)) | exact Nat.le_refl _ | omega | (simp; done) | (simp; omega) | exact Below.size (by assumption)))
      clear hb2 d0 zd
      cases iok
      · have HR : Hid (listedR xs = false) := Lib.hid (by rw [HLI2.out, ← HST.out]; rfl)
        go_wp2
        go_ret
        exact ⟨ret_bool HR.out.symm, hbw2⟩
      have HNX := Lib.hid (HNX.out rfl)
      have HST2 : Hid ((orderB pv xs[k] && rightR (prevI xs (k + 1)) (xs.drop (k + 1))) = rightR zeroI xs) := Lib.hid (by have := HST.out; rwa [Bool.true_and] at this)
      have HNO : Hid (orderB pv xs[k] = false → listedR xs = false) := Lib.hid (fun h => by rw [HLI2.out, ← HST2.out, h]; rfl)
      have HYE : Hid (orderB pv xs[k] = true → rightR (prevI xs (k + 1)) (xs.drop (k + 1)) = rightR zeroI xs) := Lib.hid (fun h => by have := HST2.out; rwa [h, Bool.true_and] at this)
      have HO := Lib.hid (HOB.out pv)
      clear HST HST2 HOB
      generalize orderB pv xs[k] = ob at *
      have d0 := HD2.out.cell 0
      have zd := HD2.out.lt
      have x0 := LX2.out.cell 0
      have x1 := LX2.out.cell 1
      have x2 := LX2.out.cell 2
      have zx := LX2.out.lt
      by_cases hk0 : k = 0
      · have hkz : ¬ (0 : Int) < (k : Int) := by omega
        have hkzd : decide ((0 : Int) < (k : Int)) = false := by simpa using hkz
        have hkn : ¬ 0 < k := by omega
        have hknd : decide (0 < k) = false := by simpa using hkn
        obtain ⟨bd, bl, bk, hbd, hbl, hbk⟩ : ∃ bd bl bk : Int, bd = 0 ∧ bl = 0 ∧ bk = 0 := ⟨_, _, _, rfl, rfl, rfl⟩
        have HO2 : Hid (ob = if dx = bd then decide (lx = bl + 1) && decide (kx = bk) else decide (bd < dx) && decide (lx = 1)) := Lib.hid (by rw [HO.out, ← HPE.out, hbd, hbl, hbk, show prevI xs k = zeroI from by unfold prevI; rw [dif_neg (by omega)]]; rfl)
        clear HO
        have HO := HO2
        clear HO2
        subst hbd hbl hbk
        clear hk0
        by_cases g1 : dx < 0
        · have HR := Lib.hid (HNO.out (by rw [HO.out, if_neg (by omega), decide_eq_false (by omega)]; rfl))
          go_wp2
          go_ret
          exact ⟨ret_bool HR.out.symm, by (repeat' (first | (with_reducible first | exact Below.refl _ _ | assumption | refine Below.alloc ?_ ?_ _ | refine Below.setCell ?_ ?_ _ | refine below_row ?_ ?_ _ | refine Below.drew ?_ | refine below_drewN ?_ _ | refine Below.trans ?_ (Below.mono (by assumption) ?_)) | exact Nat.le_refl _ | omega | (simp; done) | (simp; omega) | exact Below.size (by assumption)))⟩
        · by_cases g2 : 0 < dx
          · by_cases g3 : lx = 1
            · have HR := Lib.hid (HYE.out (by rw [HO.out, if_neg (by omega), decide_eq_true g2, decide_eq_true g3]; rfl))
              subst g3
              go_wp2_with fail
              go_roundw
              case rel => exact ⟨k + 1, by omega, by go_num, HR, Lib.hid (HNX.out trivial), Lib.hid (HD2.out.alloc _), hbw2.alloc hbw2.size _⟩
              case measure => simp [intOf]; omega
            · have HR := Lib.hid (HNO.out (by rw [HO.out, if_neg (by omega), decide_eq_false g3, Bool.and_false]))
              have b3 : (lx != 1) = true := by simpa using g3
              clear g3
              go_wp2
              go_ret
              exact ⟨ret_bool HR.out.symm, by (repeat' (first | (with_reducible first | exact Below.refl _ _ | assumption | refine Below.alloc ?_ ?_ _ | refine Below.setCell ?_ ?_ _ | refine below_row ?_ ?_ _ | refine Below.drew ?_ | refine below_drewN ?_ _ | refine Below.trans ?_ (Below.mono (by assumption) ?_)) | exact Nat.le_refl _ | omega | (simp; done) | (simp; omega) | exact Below.size (by assumption)))⟩
          · have g0 : dx = 0 := by omega
            by_cases g3 : lx = 0 + 1
            · have b3 : (lx != 1) = false := by simp [g3]
              by_cases g4 : kx = 0
              · have HR := Lib.hid (HYE.out (by rw [HO.out, if_pos g0, decide_eq_true g3, decide_eq_true g4]; rfl))
                have b4 : (kx != 0) = false := by simp [g4]
                clear g3 g4 g0
                go_wp2_with fail
                go_roundw
                case rel => exact ⟨k + 1, by omega, by go_num, HR, Lib.hid (HNX.out trivial), Lib.hid (HD2.out.alloc _), hbw2.alloc hbw2.size _⟩
                case measure => simp [intOf]; omega
              · have HR := Lib.hid (HNO.out (by rw [HO.out, if_pos g0, decide_eq_false g4, Bool.and_false]))
                have b4 : (kx != 0) = true := by simp [g4]
                clear g3 g4 g0
                go_wp2
                go_ret
                exact ⟨ret_bool HR.out.symm, by (repeat' (first | (with_reducible first | exact Below.refl _ _ | assumption | refine Below.alloc ?_ ?_ _ | refine Below.setCell ?_ ?_ _ | refine below_row ?_ ?_ _ | refine Below.drew ?_ | refine below_drewN ?_ _ | refine Below.trans ?_ (Below.mono (by assumption) ?_)) | exact Nat.le_refl _ | omega | (simp; done) | (simp; omega) | exact Below.size (by assumption)))⟩
            · have HR := Lib.hid (HNO.out (by rw [HO.out, if_pos g0, decide_eq_false g3, Bool.false_and]))
              have b3 : (lx != 1) = true := by simpa using g3
              clear g3 g0
              go_wp2
              go_ret
              exact ⟨ret_bool HR.out.symm, by (repeat' (first | (with_reducible first | exact Below.refl _ _ | assumption | refine Below.alloc ?_ ?_ _ | refine Below.setCell ?_ ?_ _ | refine below_row ?_ ?_ _ | refine Below.drew ?_ | refine below_drewN ?_ _ | refine Below.trans ?_ (Below.mono (by assumption) ?_)) | exact Nat.le_refl _ | omega | (simp; done) | (simp; omega) | exact Below.size (by assumption)))⟩
      · have hkz : (0 : Int) < (k : Int) := by omega
        have hkn : 0 < k := by omega
        have hk4 : k - 1 < xs.length := by omega
        have hk1 : 1 ≤ (k : Int) := by omega
        have kl2 : (k : Int) - 1 < (xs.length : Int) := by omega
        obtain ⟨p0, p1, p2, p3, p4, -⟩ := (HC.out.after hbw2) (k - 1) hk4
        have hblk : b < w2.heap.size := World.block_lt_of_cell? w2 _ p0
        obtain ⟨e3, e4⟩ := HC.out.slices hk4
        have hbb : 0 ≤ (xs[k - 1]'hk4).l ∧ (xs[k - 1]'hk4).l ≤ 8 := by
          have h1 := HJB.out ⟨hkn, hk4⟩
          unfold issueR headR at h1
          simp only [Bool.and_eq_true] at h1
          have h2 := (namedB_iff.1 h1.1.1.1).2.1
          exact ⟨by omega, h2.2⟩
        generalize vi (k - 1) = v3 at *
        generalize vd (k - 1) = v4 at *
        obtain ⟨A3, n3, c3, rfl⟩ := e3
        obtain ⟨A4, n4, c4, rfl⟩ := e4
        have HPX : Hid (∃ bd bl bk, (xs[k - 1]'hk4).d = bd ∧ (xs[k - 1]'hk4).l = bl ∧ (xs[k - 1]'hk4).k = bk) := Lib.hid ⟨_, _, _, rfl, rfl, rfl⟩
        obtain ⟨bd, bl, bk, hbd, hbl, hbk⟩ := HPX.out
        have HO2 : Hid (ob = if dx = bd then decide (lx = bl + 1) && decide (kx = bk) else decide (bd < dx) && decide (lx = 1)) := Lib.hid (by rw [HO.out, ← HPE.out, show prevI xs k = xs[k - 1]'hk4 from by unfold prevI; rw [dif_pos ⟨by omega, hk4⟩], hbd, hbl, hbk])
        clear HO
        have HO := HO2
        clear HO2
        rw [hbd] at p0
        rw [hbl] at p1 hbb
        rw [hbk] at p2
        clear hk0 HPX hbd hbl hbk
        by_cases g1 : dx < bd
        · have HR := Lib.hid (HNO.out (by rw [HO.out, if_neg (by omega), decide_eq_false (by omega)]; rfl))
          go_wp2
          go_ret
          exact ⟨ret_bool HR.out.symm, by (repeat' (first | (with_reducible first | exact Below.refl _ _ | assumption | refine Below.alloc ?_ ?_ _ | refine Below.setCell ?_ ?_ _ | refine below_row ?_ ?_ _ | refine Below.drew ?_ | refine below_drewN ?_ _ | refine Below.trans ?_ (Below.mono (by assumption) ?_)) | exact Nat.le_refl _ | omega | (simp; done) | (simp; omega) | exact Below.size (by assumption)))⟩
        · by_cases g2 : bd < dx
          · by_cases g3 : lx = 1
            · have HR := Lib.hid (HYE.out (by rw [HO.out, if_neg (by omega), decide_eq_true g2, decide_eq_true g3]; rfl))
              subst g3
              go_wp2_with fail
              go_roundw
              case rel => exact ⟨k + 1, by omega, by go_num, HR, Lib.hid (HNX.out trivial), Lib.hid (HD2.out.alloc _), hbw2.alloc hbw2.size _⟩
              case measure => simp [intOf]; omega
            · have HR := Lib.hid (HNO.out (by rw [HO.out, if_neg (by omega), decide_eq_false g3, Bool.and_false]))
              have b3 : (lx != 1) = true := by simpa using g3
              clear g3
              go_wp2
              go_ret
              exact ⟨ret_bool HR.out.symm, by (repeat' (first | (with_reducible first | exact Below.refl _ _ | assumption | refine Below.alloc ?_ ?_ _ | refine Below.setCell ?_ ?_ _ | refine below_row ?_ ?_ _ | refine Below.drew ?_ | refine below_drewN ?_ _ | refine Below.trans ?_ (Below.mono (by assumption) ?_)) | exact Nat.le_refl _ | omega | (simp; done) | (simp; omega) | exact Below.size (by assumption)))⟩
          · have g0 : dx = bd := by omega
            by_cases g3 : lx = bl + 1
            · have b3 : (lx != bl + 1) = false := by simp [g3]
              by_cases g4 : kx = bk
              · have HR := Lib.hid (HYE.out (by rw [HO.out, if_pos g0, decide_eq_true g3, decide_eq_true g4]; rfl))
                have b4 : (kx != bk) = false := by simp [g4]
                clear g3 g4 g0
                go_wp2_with fail
                go_roundw
                case rel => exact ⟨k + 1, by omega, by go_num, HR, Lib.hid (HNX.out trivial), Lib.hid (HD2.out.alloc _), hbw2.alloc hbw2.size _⟩
                case measure => simp [intOf]; omega
              · have HR := Lib.hid (HNO.out (by rw [HO.out, if_pos g0, decide_eq_false g4, Bool.and_false]))
                have b4 : (kx != bk) = true := by simp [g4]
                clear g3 g4 g0
                go_wp2
                go_ret
                exact ⟨ret_bool HR.out.symm, by (repeat' (first | (with_reducible first | exact Below.refl _ _ | assumption | refine Below.alloc ?_ ?_ _ | refine Below.setCell ?_ ?_ _ | refine below_row ?_ ?_ _ | refine Below.drew ?_ | refine below_drewN ?_ _ | refine Below.trans ?_ (Below.mono (by assumption) ?_)) | exact Nat.le_refl _ | omega | (simp; done) | (simp; omega) | exact Below.size (by assumption)))⟩
            · have HR := Lib.hid (HNO.out (by rw [HO.out, if_pos g0, decide_eq_false g3, Bool.false_and]))
              have b3 : (lx != bl + 1) = true := by simp [g3]
              clear g3 g0
              go_wp2
              go_ret
              exact ⟨ret_bool HR.out.symm, by (repeat' (first | (with_reducible first | exact Below.refl _ _ | assumption | refine Below.alloc ?_ ?_ _ | refine Below.setCell ?_ ?_ _ | refine below_row ?_ ?_ _ | refine Below.drew ?_ | refine below_drewN ?_ _ | refine Below.trans ?_ (Below.mono (by assumption) ?_)) | exact Nat.le_refl _ | omega | (simp; done) | (simp; omega) | exact Below.size (by assumption)))⟩
    · have hke : k = xs.length := by omega
      have HRR : Hid (rightR zeroI xs = true) := Lib.hid (by rw [← HJ.out, hke, List.drop_length, rightR])
      have HLI3 : Hid (listedR xs = (completeB xs (numbersR xs) && decide ((numbersR xs).length ≤ 20))) := Lib.hid (by rw [HLI2.out, HRR.out, Bool.true_and])
      clear HJ HLI2 HISS
      go_wp2_with fail
      refine (HNU.out _ hb).mono ?_
      rintro e w2 ⟨v, rfl, hown, hb2⟩
      have HD2 := Lib.hid (HD.out.after hb2)
      have hbw2 : Below w.heap.size w w2 := by (repeat' (first | (with_reducible first | exact Below.refl _ _ | assumption | refine Below.alloc ?_ ?_ _ | refine Below.setCell ?_ ?_ _ | refine below_row ?_ ?_ _ | refine Below.drew ?_ | refine below_drewN ?_ _ | refine Below.trans ?_ (Below.mono (by assumption) ?_)) | exact Nat.le_refl _ | omega | (simp; done) | (simp; omega) | exact Below.size (by assumption)))
      obtain ⟨A6, c6, b6, o6, rfl, hA6, hc6⟩ := ints_of_own hown
      have HA6 := Lib.hid hA6
      have HC6 := Lib.hid hc6
      have hnl : (numbersR xs).length ≤ 1000 := Nat.le_trans (numK_le xs xs.length) hl
      have HZS : Hid (∃ zs, numbersR xs = zs) := Lib.hid ⟨_, rfl⟩
      obtain ⟨zs, hzs⟩ := HZS.out
      rw [hzs] at HA6 HC6 HLI3 hnl ⊢
      clear hA6 hc6 hown hb2 HNU HZS hzs hke
      go_wp2_with fail
      go_loopw [7] (fun i wr => ∃ (p : Nat), p ≤ xs.length ∧ i = .int .i64 p ∧ Hid (∀ q (hq : q < xs.length), q < p → ∀ j (hj : j < xs[q].items.length), decide (xs[q].items[j].1 ∈ zs) = true) ∧ Hid (Lies wr w.heap.size 24 #[.slice A xs.length c]) ∧ Below w.heap.size w wr ∧ Below w2.heap.size w2 wr) (fun i _ => xs.length - (intOf i).toNat)
      case atStart => exact ⟨0, by omega, rfl, Lib.hid (fun p hp h => by omega), HD2, hbw2, Below.refl _ _⟩
      case round =>
        obtain ⟨p, hp, rfl, HK, HD3, hb3, hb4⟩ := hrel
        have d0 := HD3.out.cell 0
        have zd := HD3.out.lt
        by_cases hlt : p < xs.length
        · obtain rfl := HA.out (by omega)
          obtain ⟨wo, rfl⟩ : ∃ wo : World, wo = wr := ⟨_, rfl⟩
          have kl1 : (p : Int) < (xs.length : Int) := by omega
          have hli := (HSM.out xs[p] (List.getElem_mem hlt)).1
          obtain ⟨Ai, ci, bi, oi, hvi, hAi, hci⟩ := (HC.out p hlt).2.2.2.2.2.2.1
          have HVI := Lib.hid hvi
          have HCI := Lib.hid hci
          have HAI := Lib.hid hAi
          clear hci hAi hvi
          obtain ⟨il, hil⟩ : ∃ il, xs[p].items = il := ⟨_, rfl⟩
          have HIL := Lib.hid hil
          rw [hil] at HVI HCI HAI hli
          clear hil
          go_wp2_with fail
          clear d0 zd
          go_loopw [8] (fun i wr => ∃ (j : Nat), j ≤ il.length ∧ i = .int .i64 j ∧ Hid (∀ q (hq : q < il.length), q < j → decide (il[q].1 ∈ zs) = true) ∧ Hid (Lies wr w.heap.size 24 #[.slice (some ⟨b, off, none⟩) xs.length c]) ∧ Below w.heap.size w wr ∧ Below w2.heap.size w2 wr) (fun i _ => il.length - (intOf i).toNat)
          case atStart => exact ⟨0, by omega, rfl, Lib.hid (fun q hq h => by omega), HD3, hb3, hb4⟩
          case round =>
            obtain ⟨j, hj, rfl, HJ2, HD5, hb5, hb6⟩ := hrel
            have d0 := HD5.out.cell 0
            have zd := HD5.out.lt
            have q3 : wr.cell? ⟨b, off + p * 5 + 3, none⟩ = some (.slice Ai il.length ci) := by rw [← HVI.out]; exact ((HC.out.after hb5) p hlt).2.2.2.1
            by_cases hlt2 : j < il.length
            · obtain rfl := HAI.out (by omega)
              have t0 := cell_keep hb5 (HCI.out j hlt2).1
              have kl2 : (j : Int) < (il.length : Int) := by omega
              have HXJ : Hid (∃ e1 : Int, il[j].1 = e1) := Lib.hid ⟨_, rfl⟩
              obtain ⟨e1, he⟩ := HXJ.out
              have HE := Lib.hid he
              rw [he] at t0
              clear he HXJ
              have HIX := Lib.hid (rIndex_any A6 c6 b6 o6 zs e1 wr HA6.out (by omega) (fun i h => cell_keep hb6 (HC6.out i h)))
              by_cases hm : e1 ∈ zs
              · have hge : ¬ idxL zs e1 < 0 := by have := idxL_mem.2 hm; omega
                have hged : decide (idxL zs e1 < 0) = false := by simpa using hge
                have HM := Lib.hid hm
                generalize idxL zs e1 = ix at *
                clear hm
                go_wp2_with fail
                refine HIX.out.mono ?_
                rintro e w9 ⟨rfl, rfl⟩
                go_wp2_with fail
                go_roundw
                case rel =>
                  refine ⟨j + 1, by omega, by go_num, Lib.hid (fun q hq h => ?_), HD5, hb5, hb6⟩
                  by_cases e : q = j
                  · subst e; rw [HE.out]; exact decide_eq_true HM.out
                  · exact HJ2.out q hq (by omega)
                case measure => simp [intOf]; omega
              · have hge : idxL zs e1 < 0 := by
                  have := idxL_mem (l := zs) (n := e1)
                  by_cases h : 0 ≤ idxL zs e1
                  · exact absurd (this.1 h) hm
                  · omega
                have HR : Hid (listedR xs = false) := Lib.hid (by rw [HLI3.out, completeB_no hlt (j := j) (by rw [HIL.out]; exact hlt2) (by simp only [HIL.out, HE.out]; exact decide_eq_false hm)]; rfl)
                generalize idxL zs e1 = ix at *
                clear hm
                go_wp2_with fail
                refine HIX.out.mono ?_
                rintro e w9 ⟨rfl, rfl⟩
                go_wp2
                go_ret
                exact ⟨ret_bool HR.out.symm, hb5⟩
            · go_wp2_with fail
              go_roundw
              case rel =>
                refine ⟨p + 1, by omega, by go_num, Lib.hid (fun q hq h => ?_), HD5, hb5, hb6⟩
                by_cases e : q = p
                · subst e
                  intro j' hj'
                  have hjl : j' < il.length := by rw [← HIL.out]; exact hj'
                  have := HJ2.out j' hjl (by omega)
                  simp only [HIL.out]
                  exact this
                · exact HK.out q hq (by omega)
              case measure => simp [intOf]; omega
        · have HCB : Hid (completeB xs zs = true) := Lib.hid (completeB_yes (xs := xs) (zs := zs) (fun q hq => HK.out q hq (by omega)))
          have HLI4 : Hid (listedR xs = decide (zs.length ≤ 20)) := Lib.hid (by rw [HLI3.out, HCB.out, Bool.true_and])
          clear HLI3
          by_cases h20 : zs.length ≤ 20
          · have h20' : (zs.length : Int) ≤ 20 := by omega
            have HR : Hid (listedR xs = true) := Lib.hid (by rw [HLI4.out, decide_eq_true h20])
            go_wp2
            go_ret
            exact ⟨ret_bool HR.out.symm, hb3⟩
          · have h20' : ¬ (zs.length : Int) ≤ 20 := by omega
            have HR : Hid (listedR xs = false) := Lib.hid (by rw [HLI4.out, decide_eq_false h20])
            go_wp2
            go_ret
            exact ⟨ret_bool HR.out.symm, hb3⟩
end
section
open Go.RowKit

def bump (g : Int → Int) (d v : Int) : Int → Int := fun y => if y = d then max (g y) v else g y
def itemsG (f : Int → Int) (d : Int) (g : Int → Int) (l : List (Int × Int)) : Int → Int := l.foldl (fun g it => bump g d (1 + f it.1)) g
def issG (f g : Int → Int) (x : Iss) : Int → Int := itemsG f x.d (bump g x.d 1) x.items
def nextG (f : Int → Int) (xs : List Iss) : Int → Int := xs.foldl (issG f) (fun _ => 0)
def depF (xs : List Iss) : Nat → Int → Int
  | 0 => fun _ => 0
  | k + 1 => nextG (depF xs k) xs
theorem bump_bd {g : Int → Int} {d v : Int} {B : Int} (hg : ∀ y, 0 ≤ g y ∧ g y ≤ B) (hv : v ≤ B) (y : Int) : 0 ≤ bump g d v y ∧ bump g d v y ≤ B := by
  have := hg y
  unfold bump
  split
  · rw [Int.max_def]; split <;> omega
  · exact this
theorem itemsG_bd {f : Int → Int} {d : Int} {B : Int} (hf : ∀ y, 0 ≤ f y ∧ f y + 1 ≤ B) : ∀ (l : List (Int × Int)) (g : Int → Int), (∀ y, 0 ≤ g y ∧ g y ≤ B) → ∀ y, 0 ≤ itemsG f d g l y ∧ itemsG f d g l y ≤ B
  | [], g, hg, y => hg y
  | it :: r, g, hg, y => itemsG_bd hf r _ (bump_bd hg (by have := hf it.1; omega)) y
theorem issG_bd {f : Int → Int} {B : Int} (hB : 1 ≤ B) (hf : ∀ y, 0 ≤ f y ∧ f y + 1 ≤ B) {g : Int → Int} (hg : ∀ y, 0 ≤ g y ∧ g y ≤ B) (x : Iss) (y : Int) : 0 ≤ issG f g x y ∧ issG f g x y ≤ B :=
  itemsG_bd hf _ _ (bump_bd hg hB) y
theorem foldG_bd {f : Int → Int} {B : Int} (hB : 1 ≤ B) (hf : ∀ y, 0 ≤ f y ∧ f y + 1 ≤ B) : ∀ (xs : List Iss) (g : Int → Int), (∀ y, 0 ≤ g y ∧ g y ≤ B) → ∀ y, 0 ≤ xs.foldl (issG f) g y ∧ xs.foldl (issG f) g y ≤ B
  | [], g, hg, y => hg y
  | x :: r, g, hg, y => foldG_bd hB hf r _ (issG_bd hB hf hg x) y
theorem depF_bd (xs : List Iss) : ∀ k y, 0 ≤ depF xs k y ∧ depF xs k y ≤ k
  | 0, y => by simp [depF]
  | k + 1, y => by
    have ih := depF_bd xs k
    have := foldG_bd (f := depF xs k) (B := (k : Int) + 1) (by omega) (fun y => by have := ih y; omega) xs (fun _ => 0) (fun y => ⟨Int.le_refl _, by show (0 : Int) ≤ (k : Int) + 1; omega⟩) y
    exact ⟨this.1, by have := this.2; simp only [Int.natCast_add, Int.natCast_one]; exact this⟩
theorem idx_spec {zs : List Int} {d : Int} (h : d ∈ zs) : ∃ p : Nat, p < zs.length ∧ (∃ hp : p < zs.length, zs[p] = d) ∧ idxL zs d = p := by
  induction zs with
  | nil => cases h
  | cons z r ih =>
    rw [idxL]
    by_cases e : z = d
    · exact ⟨0, by simp, ⟨by simp, by simpa using e⟩, by simp [e]⟩
    · have hm : d ∈ r := by
        rcases List.mem_cons.1 h with h | h
        · exact absurd h.symm e
        · exact h
      obtain ⟨p, hp, ⟨hp2, hz⟩, hi⟩ := ih hm
      refine ⟨p + 1, by simpa using hp, ⟨by simpa using hp, by simpa using hz⟩, ?_⟩
      rw [if_neg e, hi, if_neg (by omega)]
      omega
theorem bump_row {w : World} {gn p : Nat} {zs : List Int} {g : Int → Int} {d u v : Int} (hp : ∃ hp : p < zs.length, zs[p] = d) (hn : zs.Pairwise (· < ·)) (hv : v = max (g d) u) (h : Lies w gn 3 (rowN (zs.map g))) : Lies (w.setCell ⟨gn, p, none⟩ (.int .i64 v)) gn 3 (rowN (zs.map (bump g d u))) := by
  have h1 := h.store p (.int .i64 v)
  rw [rowN_set] at h1
  obtain ⟨hpl, he⟩ := hp
  have h2 : (zs.map g).set p v = zs.map (bump g d u) := by
    apply List.ext_getElem
    · simp
    · intro i hi1 hi2
      have hil : i < zs.length := by simpa using hi2
      rw [List.getElem_set]
      simp only [List.getElem_map]
      unfold bump
      by_cases e : p = i
      · subst e
        rw [if_pos rfl, he, if_pos rfl, hv]
      · rw [if_neg e, if_neg]
        intro hz
        rcases Nat.lt_or_gt_of_ne e with h3 | h3
        · have := List.pairwise_iff_getElem.1 hn p i hpl hil h3; omega
        · have := List.pairwise_iff_getElem.1 hn i p hil hpl h3; omega
  rw [h2] at h1
  exact h1
theorem rowMap_at {w : World} {gn p : Nat} {zs : List Int} {g : Int → Int} {d : Int} (hp : ∃ hp : p < zs.length, zs[p] = d) (h : Lies w gn 3 (rowN (zs.map g))) : w.cell? ⟨gn, p, none⟩ = some (.int .i64 (g d)) := by
  obtain ⟨hpl, he⟩ := hp
  rw [h.cell, rowN_at (by simpa using hpl), List.getElem_map, he]
theorem made0 {w : World} {n : Nat} {l : List Int} (e : List.replicate n (0 : Int) = l) : Lies (w.alloc (.cells (rowN (List.replicate n 0)) 3)) w.heap.size 3 (rowN l) := by
  subst e; exact Lies.made w 3 _
theorem foldG_step {f : Int → Int} {xs : List Iss} {p : Nat} (h : p < xs.length) (g : Int → Int) : (xs.take (p + 1)).foldl (issG f) g = issG f ((xs.take p).foldl (issG f) g) xs[p] := by
  rw [List.take_succ_eq_append_getElem h, List.foldl_append]; rfl
theorem itemsG_step {f : Int → Int} {d : Int} {l : List (Int × Int)} {j : Nat} (h : j < l.length) (g : Int → Int) : itemsG f d g (l.take (j + 1)) = bump (itemsG f d g (l.take j)) d (1 + f l[j].1) := by
  unfold itemsG
  rw [List.take_succ_eq_append_getElem h, List.foldl_append]; rfl

set_option maxRecDepth 100000 in
set_option maxHeartbeats 16000000 in
theorem rDepths_any (A : Option Addr) (c b off : Nat) (xs : List Iss) (vi vd : Nat → Value) (w : World) (hl : xs.length ≤ 500) (hsm : ∀ x ∈ xs, x.items.length ≤ 1000) (hA : 0 < xs.length → A = some ⟨b, off, none⟩) (hc : IssRow w b off xs vi vd)
    (hst : (numbersR xs).Pairwise (· < ·)) (hxd : ∀ x ∈ xs, x.d ∈ numbersR xs) (hxi : ∀ x ∈ xs, ∀ it ∈ x.items, it.1 ∈ numbersR xs) :
    Calls Try.prog 68 #[.agg #[.slice A xs.length c]] w fun e w' => ∃ g, e = .returned (.slice (some ⟨g, 0, none⟩) (numbersR xs).length (numbersR xs).length) ∧ Lies w' g 3 (rowN ((numbersR xs).map (depF xs ((numbersR xs).length + 1)))) ∧ Below w.heap.size w w' := by
  have HNU := Lib.hid (fun W (hW : Below w.heap.size w W) => rNumbers_any A c b off xs vi vd W (by omega) hA (hc.after hW))
  have hnl : (numbersR xs).length ≤ 500 := Nat.le_trans (numK_le xs xs.length) hl
  have HA := Lib.hid hA
  have HC := Lib.hid hc
  have HSM := Lib.hid hsm
  have HST := Lib.hid hst
  have HXD := Lib.hid hxd
  have HXI := Lib.hid hxi
  obtain ⟨zs, hzs⟩ : ∃ zs, numbersR xs = zs := ⟨_, rfl⟩
  rw [hzs] at HNU HST HXD HXI hnl ⊢
  clear hA hc hsm hst hxd hxi hzs
  have hmk := makeN zs.length (by omega)
  have HD0 := Lib.hid (Lies.made w 24 #[.slice A xs.length c])
  go_enter Try.func68, Try.ntmps68
  go_wp2_with fail
  refine (HNU.out _ (by (repeat' (first | (with_reducible first | exact Below.refl _ _ | assumption | refine Below.alloc ?_ ?_ _ | refine Below.setCell ?_ ?_ _ | refine below_row ?_ ?_ _ | refine Below.drew ?_ | refine below_drewN ?_ _ | refine Below.trans ?_ (Below.mono (by assumption) ?_)) | exact Nat.le_refl _ | omega | (simp; done) | (simp; omega) | exact Below.size (by assumption))))).mono ?_
  rintro e w2 ⟨v, rfl, hown, hb2⟩
  have s2 := hb2.size; try simp only [World.size_alloc, World.size_setCell, World.size_drew, setRow_size] at s2
  have HD2 := Lib.hid (HD0.out.after hb2)
  have hbw2 : Below w.heap.size w w2 := by (repeat' (first | (with_reducible first | exact Below.refl _ _ | assumption | refine Below.alloc ?_ ?_ _ | refine Below.setCell ?_ ?_ _ | refine below_row ?_ ?_ _ | refine Below.drew ?_ | refine below_drewN ?_ _ | refine Below.trans ?_ (Below.mono (by assumption) ?_)) | exact Nat.le_refl _ | omega | (simp; done) | (simp; omega) | exact Below.size (by assumption)))
  obtain ⟨A6, c6, b6, o6, rfl, hA6, hc6⟩ := ints_of_own hown
  have HA6 := Lib.hid hA6
  have HC6 := Lib.hid hc6
  clear hA6 hc6 hown hb2 HNU HD0
  have HX0 : Hid (Lies (w2.alloc (.cells (rowN (List.replicate zs.length 0)) 3)) w2.heap.size 3 (rowN (zs.map (depF xs 0)))) := Lib.hid (by
    refine made0 ?_
    rw [eq_comm, List.map_eq_replicate_iff]; intro x _; rfl)
  go_wp2_with fail
  go_loopw [4, 5] (fun o i wr => ∃ (k g : Nat), k ≤ zs.length + 1 ∧ i = .int .i64 k ∧ o = .slice (some ⟨g, 0, none⟩) zs.length zs.length ∧ w2.heap.size ≤ g ∧ Hid (Lies wr g 3 (rowN (zs.map (depF xs k)))) ∧ Hid (Lies wr w.heap.size 24 #[.slice A xs.length c]) ∧ Below w.heap.size w wr ∧ Below w2.heap.size w2 wr) (fun _ i _ => zs.length + 1 - (intOf i).toNat)
  case atStart => exact ⟨0, w2.heap.size, by omega, rfl, rfl, Nat.le_refl _, HX0, Lib.hid (HD2.out.alloc _), by (repeat' (first | (with_reducible first | exact Below.refl _ _ | assumption | refine Below.alloc ?_ ?_ _ | refine Below.setCell ?_ ?_ _ | refine below_row ?_ ?_ _ | refine Below.drew ?_ | refine below_drewN ?_ _ | refine Below.trans ?_ (Below.mono (by assumption) ?_)) | exact Nat.le_refl _ | omega | (simp; done) | (simp; omega) | exact Below.size (by assumption))), by (repeat' (first | (with_reducible first | exact Below.refl _ _ | assumption | refine Below.alloc ?_ ?_ _ | refine Below.setCell ?_ ?_ _ | refine below_row ?_ ?_ _ | refine Below.drew ?_ | refine below_drewN ?_ _ | refine Below.trans ?_ (Below.mono (by assumption) ?_)) | exact Nat.le_refl _ | omega | (simp; done) | (simp; omega) | exact Below.size (by assumption)))⟩
  case round =>
    obtain ⟨k, g, hk, rfl, rfl, hg, HG, HD, hb, hb2⟩ := hrel
    have hz := hb.size
    have hz2 := hb2.size
    by_cases hlt : k < zs.length + 1
    · have kl1 : (k : Int) ≤ (zs.length : Int) := by omega
      have HFB := Lib.hid (fun y => depF_bd xs k y)
      obtain ⟨wo, rfl⟩ : ∃ wo : World, wo = wr := ⟨_, rfl⟩
      have zgo := HG.out.lt
      have HN0 : Hid (Lies (wo.alloc (.cells (rowN (List.replicate zs.length 0)) 3)) wo.heap.size 3 (rowN (zs.map ((xs.take 0).foldl (issG (depF xs k)) (fun _ => 0))))) := Lib.hid (by
        refine made0 ?_
        rw [eq_comm, List.map_eq_replicate_iff]; intro x _; rfl)
      have HDF : Hid (depF xs (k + 1) = (xs.take xs.length).foldl (issG (depF xs k)) (fun _ => 0)) := Lib.hid (by rw [List.take_length]; rfl)
      generalize depF xs k = f at *
      go_wp2_with fail
      go_loopw [7] (fun i wr => ∃ (p : Nat), p ≤ xs.length ∧ i = .int .i64 p ∧ Hid (Lies wr wo.heap.size 3 (rowN (zs.map ((xs.take p).foldl (issG f) (fun _ => 0))))) ∧ Hid (Lies wr g 3 (rowN (zs.map f))) ∧ Hid (Lies wr w.heap.size 24 #[.slice A xs.length c]) ∧ Below w.heap.size w wr ∧ Below w2.heap.size w2 wr) (fun i _ => xs.length - (intOf i).toNat)
      case atStart => exact ⟨0, by omega, rfl, HN0, Lib.hid (HG.out.alloc _), Lib.hid (HD.out.alloc _), by (repeat' (first | (with_reducible first | exact Below.refl _ _ | assumption | refine Below.alloc ?_ ?_ _ | refine Below.setCell ?_ ?_ _ | refine below_row ?_ ?_ _ | refine Below.drew ?_ | refine below_drewN ?_ _ | refine Below.trans ?_ (Below.mono (by assumption) ?_)) | exact Nat.le_refl _ | omega | (simp; done) | (simp; omega) | exact Below.size (by assumption))), by (repeat' (first | (with_reducible first | exact Below.refl _ _ | assumption | refine Below.alloc ?_ ?_ _ | refine Below.setCell ?_ ?_ _ | refine below_row ?_ ?_ _ | refine Below.drew ?_ | refine below_drewN ?_ _ | refine Below.trans ?_ (Below.mono (by assumption) ?_)) | exact Nat.le_refl _ | omega | (simp; done) | (simp; omega) | exact Below.size (by assumption)))⟩
      case round =>
        obtain ⟨p, hp, rfl, HN, HG2, HD3, hb3, hb4⟩ := hrel
        have d0 := HD3.out.cell 0
        have zd := HD3.out.lt
        by_cases hpt : p < xs.length
        · obtain rfl := HA.out (by omega)
          obtain ⟨q0, q1, q2, q3, q4, -, hit, -⟩ := (HC.out.after hb3) p hpt
          have hit0 := (HC.out p hpt).2.2.2.2.2.2.1
          obtain ⟨-, e4⟩ := HC.out.slices hpt
          obtain ⟨Ai, ci, bi, oi, hvi, hAi, hci⟩ := hit0
          have hli := HSM.out xs[p] (List.getElem_mem hpt)
          rw [hvi] at q3
          generalize vd p = v4 at *
          obtain ⟨A4, n4, c4, rfl⟩ := e4
          have HAI := Lib.hid hAi
          have HCI := Lib.hid hci
          have HFS := Lib.hid (foldG_step (f := f) hpt (fun _ => 0))
          have HDM := Lib.hid (HXD.out xs[p] (List.getElem_mem hpt))
          have HIM := Lib.hid (HXI.out xs[p] (List.getElem_mem hpt))
          have kl2 : (p : Int) < (xs.length : Int) := by omega
          have HBG : Hid (∀ y, 0 ≤ ((xs.take p).foldl (issG f) (fun _ => 0)) y ∧ ((xs.take p).foldl (issG f) (fun _ => 0)) y ≤ k + 1) := Lib.hid (foldG_bd (f := f) (B := (k : Int) + 1) (by omega) (fun y => by have := HFB.out y; omega) _ _ (fun y => ⟨Int.le_refl _, by show (0 : Int) ≤ (k : Int) + 1; omega⟩))
          clear hAi hci hvi hit
          generalize (xs.take p).foldl (issG f) (fun _ => 0) = G at *
          generalize xs[p] = x at *
          obtain ⟨d, l, kk, il, di⟩ := x
          simp only at q0 q1 q2 q3 HAI HCI hli
          obtain ⟨pa, hpa, hpz, hpi⟩ := idx_spec HDM.out
          have HPZ := Lib.hid hpz
          have HIX := Lib.hid (fun W (hW : Below w2.heap.size w2 W) => rIndex_any A6 c6 b6 o6 zs d W HA6.out (by omega) (fun i h => cell_keep hW (HC6.out i h)))
          simp only at hpi
          rw [hpi] at HIX
          have pl1 : (pa : Int) < (zs.length : Int) := by omega
          have hold := rowMap_at hpz HN.out
          have hfre := HN.out.free pa
          have zn := HN.out.lt
          clear hpz hpi hpa
          have LX := Lib.hid (Lies.made wr 45 #[.int .i64 d, .int .i64 l, .int .u8 kk, .slice Ai il.length ci, .slice A4 n4 c4])
          have hgw := HG2.out.lt
          obtain ⟨wp, rfl⟩ : ∃ wp : World, wp = wr := ⟨_, rfl⟩
          have HGD : Hid (∃ gd, G d = gd) := Lib.hid ⟨_, rfl⟩
          obtain ⟨gd, hgd⟩ := HGD.out
          have HGE := Lib.hid hgd
          rw [hgd] at hold
          clear hgd HGD
          have HBI := Lib.hid (fun l => itemsG_bd (d := d) (f := f) (B := (k : Int) + 1) (fun y => by have := HFB.out y; omega) l _ (bump_bd (d := d) HBG.out (show (1 : Int) ≤ (k : Int) + 1 by omega)))
          have gd0 : 0 ≤ gd ∧ gd ≤ (k : Int) + 1 := by rw [← HGE.out]; exact HBG.out d
          by_cases hgs : gd < 1
          · have hmx1 : (1 : Int) = max (G d) 1 := by rw [HGE.out, Int.max_def]; split <;> omega
            have HV := Lib.hid (fun W (hW : Lies W wo.heap.size 3 (rowN (zs.map G))) => bump_row HPZ.out HST.out hmx1 hW)
            clear hmx1
            go_wp2_with fail
            refine (HIX.out _ (by (repeat' (first | (with_reducible first | exact Below.refl _ _ | assumption | refine Below.alloc ?_ ?_ _ | refine Below.setCell ?_ ?_ _ | refine below_row ?_ ?_ _ | refine Below.drew ?_ | refine below_drewN ?_ _ | refine Below.trans ?_ (Below.mono (by assumption) ?_)) | exact Nat.le_refl _ | omega | (simp; done) | (simp; omega) | exact Below.size (by assumption))))).mono ?_
            rintro e w9 ⟨rfl, rfl⟩
            have x0 := LX.out.cell 0
            have x3 := LX.out.cell 3
            have zx := LX.out.lt
            go_wp2_with fail
            go_loopw [10] (fun i wr => ∃ (j : Nat), j ≤ il.length ∧ i = .int .i64 j ∧ Hid (Lies wr wo.heap.size 3 (rowN (zs.map (itemsG f d (bump G d 1) (il.take j))))) ∧ Hid (Lies wr g 3 (rowN (zs.map f))) ∧ Hid (Lies wr w.heap.size 24 #[.slice (some ⟨b, off, none⟩) xs.length c]) ∧ Hid (Lies wr wp.heap.size 45 #[.int .i64 d, .int .i64 l, .int .u8 kk, .slice Ai il.length ci, .slice A4 n4 c4]) ∧ Below w.heap.size w wr ∧ Below w2.heap.size w2 wr) (fun i _ => il.length - (intOf i).toNat)
            case atStart =>
              refine ⟨0, by omega, rfl, ?_, ?_, ?_, ?_, by (repeat' (first | (with_reducible first | exact Below.refl _ _ | assumption | refine Below.alloc ?_ ?_ _ | refine Below.setCell ?_ ?_ _ | refine below_row ?_ ?_ _ | refine Below.drew ?_ | refine below_drewN ?_ _ | refine Below.trans ?_ (Below.mono (by assumption) ?_)) | exact Nat.le_refl _ | omega | (simp; done) | (simp; omega) | exact Below.size (by assumption))), by (repeat' (first | (with_reducible first | exact Below.refl _ _ | assumption | refine Below.alloc ?_ ?_ _ | refine Below.setCell ?_ ?_ _ | refine below_row ?_ ?_ _ | refine Below.drew ?_ | refine below_drewN ?_ _ | refine Below.trans ?_ (Below.mono (by assumption) ?_)) | exact Nat.le_refl _ | omega | (simp; done) | (simp; omega) | exact Below.size (by assumption)))⟩
              · exact Lib.hid ((HV.out _ HN.out).alloc _)
              · exact Lib.hid ((HG2.out.other (p := ⟨wo.heap.size, pa, none⟩) (by simp only; omega) _).alloc _)
              · exact Lib.hid ((HD3.out.other (p := ⟨wo.heap.size, pa, none⟩) (by simp only; omega) _).alloc _)
              · have := Lies.made (wp.setCell ⟨wo.heap.size, pa, none⟩ (.int .i64 1)) 45 #[.int .i64 d, .int .i64 l, .int .u8 kk, .slice Ai il.length ci, .slice A4 n4 c4]
                rw [World.size_setCell] at this
                exact Lib.hid this
            case round =>
              obtain ⟨j, hj, rfl, HN4, HG4, HD4, HL4, hb5, hb6⟩ := hrel
              have y3 := HL4.out.cell 3
              have zl := HL4.out.lt
              by_cases hjt : j < il.length
              · obtain rfl := HAI.out (by omega)
                have kl3 : (j : Int) < (il.length : Int) := by omega
                have i0 := cell_keep hb5 (HCI.out j hjt).1
                have HIS := Lib.hid (itemsG_step (f := f) (d := d) hjt (bump G d 1))
                obtain ⟨pb, hpb, hpz, hpi⟩ := idx_spec (HIM.out il[j] (List.getElem_mem hjt))
                have HIY := Lib.hid (fun W (hW : Below w2.heap.size w2 W) => rIndex_any A6 c6 b6 o6 zs il[j].1 W HA6.out (by omega) (fun i h => cell_keep hW (HC6.out i h)))
                try dsimp only at hpi
                rw [hpi] at HIY
                have pl2 : (pb : Int) < (zs.length : Int) := by omega
                have u0 := rowMap_at hpz HG4.out
                have hF0 := HFB.out il[j].1
                clear hpz hpi hpb
                have hI0 := HBI.out (il.take j) d
                have v0 := rowMap_at HPZ.out HN4.out
                have HX5 : Hid (∀ vv : Int, vv = max (itemsG f d (bump G d 1) (il.take j) d) (1 + f il[j].1) → ∀ W, Lies W wo.heap.size 3 (rowN (zs.map (itemsG f d (bump G d 1) (il.take j)))) → Lies (W.setCell ⟨wo.heap.size, pa, none⟩ (.int .i64 vv)) wo.heap.size 3 (rowN (zs.map (itemsG f d (bump G d 1) (il.take (j + 1)))))) := Lib.hid (fun vv hv W hW => by rw [HIS.out]; exact bump_row HPZ.out HST.out hv hW)
                have fr := HN4.out.free pa
                have zn4 := HN4.out.lt
                have zg4 := HG4.out.lt
                clear HIS
                generalize itemsG f d (bump G d 1) (il.take j) = G2 at *
                generalize hff : f il[j].1 = fv at *
                generalize hgg : G2 d = gv at *
                have HGV := Lib.hid hgg
                have HFV := Lib.hid hff
                clear hgg hff
                generalize il[j] = it at *
                obtain ⟨ia, ic⟩ := it
                try dsimp only at i0 u0 HIY HX5 hF0
                have kx1 : IntKind.i64.wrap (1 + fv) = 1 + fv := IntWalk.i64_in _ (by omega)
                obtain ⟨wq, rfl⟩ : ∃ wq : World, wq = wr := ⟨_, rfl⟩
                by_cases hlt2 : gv < 1 + fv
                · have HX6 := Lib.hid (HX5.out (1 + fv) (by rw [Int.max_def]; split <;> omega))
                  clear HX5
                  go_wp2_with fail
                  refine wp_region_still_tail 20 (by kernel_rfl) (by kernel_rfl) ?_
                  simp only [List.take_succ_cons, List.take_zero, List.drop_succ_cons, List.drop_zero]
                  repeat still_step
                  have HIZ := HIY.out wq.drew (by (repeat' (first | (with_reducible first | exact Below.refl _ _ | assumption | refine Below.alloc ?_ ?_ _ | refine Below.setCell ?_ ?_ _ | refine below_row ?_ ?_ _ | refine Below.drew ?_ | refine below_drewN ?_ _ | refine Below.trans ?_ (Below.mono (by assumption) ?_)) | exact Nat.le_refl _ | omega | (simp; done) | (simp; omega) | exact Below.size (by assumption))))
                  still_call (HIZ.mono (fun e w9 h => (⟨h.1, h.2.symm⟩ : _ ∧ _)))
                  repeat still_step
                  refine wpStill_nil ?_
                  go_wp2_with fail
                  go_roundw
                  case rel =>
                    refine ⟨j + 1, by omega, by go_num, Lib.hid (HX6.out _ HN4.out.drew), Lib.hid (HG4.out.drew.other (p := ⟨wo.heap.size, pa, none⟩) (by simp only; omega) _), Lib.hid (HD4.out.drew.other (p := ⟨wo.heap.size, pa, none⟩) (by simp only; omega) _), Lib.hid (HL4.out.drew.other (p := ⟨wo.heap.size, pa, none⟩) (by simp only; omega) _), by (repeat' (first | (with_reducible first | exact Below.refl _ _ | assumption | refine Below.alloc ?_ ?_ _ | refine Below.setCell ?_ ?_ _ | refine below_row ?_ ?_ _ | refine Below.drew ?_ | refine below_drewN ?_ _ | refine Below.trans ?_ (Below.mono (by assumption) ?_)) | exact Nat.le_refl _ | omega | (simp; done) | (simp; omega) | exact Below.size (by assumption))), by (repeat' (first | (with_reducible first | exact Below.refl _ _ | assumption | refine Below.alloc ?_ ?_ _ | refine Below.setCell ?_ ?_ _ | refine below_row ?_ ?_ _ | refine Below.drew ?_ | refine below_drewN ?_ _ | refine Below.trans ?_ (Below.mono (by assumption) ?_)) | exact Nat.le_refl _ | omega | (simp; done) | (simp; omega) | exact Below.size (by assumption)))⟩
                  case measure => simp [intOf]; omega
                · have HX6 := Lib.hid (HX5.out gv (by rw [Int.max_def]; split <;> omega))
                  clear HX5
                  go_wp2_with fail
                  refine wp_region_still_tail 20 (by kernel_rfl) (by kernel_rfl) ?_
                  simp only [List.take_succ_cons, List.take_zero, List.drop_succ_cons, List.drop_zero]
                  repeat still_step
                  have HIZ := HIY.out wq.drew (by (repeat' (first | (with_reducible first | exact Below.refl _ _ | assumption | refine Below.alloc ?_ ?_ _ | refine Below.setCell ?_ ?_ _ | refine below_row ?_ ?_ _ | refine Below.drew ?_ | refine below_drewN ?_ _ | refine Below.trans ?_ (Below.mono (by assumption) ?_)) | exact Nat.le_refl _ | omega | (simp; done) | (simp; omega) | exact Below.size (by assumption))))
                  still_call (HIZ.mono (fun e w9 h => (⟨h.1, h.2.symm⟩ : _ ∧ _)))
                  repeat still_step
                  refine wpStill_nil ?_
                  go_wp2_with fail
                  go_roundw
                  case rel =>
                    refine ⟨j + 1, by omega, by go_num, Lib.hid (HX6.out _ HN4.out.drew), Lib.hid (HG4.out.drew.other (p := ⟨wo.heap.size, pa, none⟩) (by simp only; omega) _), Lib.hid (HD4.out.drew.other (p := ⟨wo.heap.size, pa, none⟩) (by simp only; omega) _), Lib.hid (HL4.out.drew.other (p := ⟨wo.heap.size, pa, none⟩) (by simp only; omega) _), by (repeat' (first | (with_reducible first | exact Below.refl _ _ | assumption | refine Below.alloc ?_ ?_ _ | refine Below.setCell ?_ ?_ _ | refine below_row ?_ ?_ _ | refine Below.drew ?_ | refine below_drewN ?_ _ | refine Below.trans ?_ (Below.mono (by assumption) ?_)) | exact Nat.le_refl _ | omega | (simp; done) | (simp; omega) | exact Below.size (by assumption))), by (repeat' (first | (with_reducible first | exact Below.refl _ _ | assumption | refine Below.alloc ?_ ?_ _ | refine Below.setCell ?_ ?_ _ | refine below_row ?_ ?_ _ | refine Below.drew ?_ | refine below_drewN ?_ _ | refine Below.trans ?_ (Below.mono (by assumption) ?_)) | exact Nat.le_refl _ | omega | (simp; done) | (simp; omega) | exact Below.size (by assumption)))⟩
                  case measure => simp [intOf]; omega
              · have hje : j = il.length := by omega
                subst hje
                have HN5 := HN4.out
                rw [List.take_length] at HN5
                have HN6 : Hid (Lies wr wo.heap.size 3 (rowN (zs.map ((xs.take (p + 1)).foldl (issG f) (fun _ => 0))))) := Lib.hid (by rw [HFS.out]; exact HN5)
                clear HN5 HFS
                go_wp2_with fail
                go_roundw
                case rel => exact ⟨p + 1, by omega, by go_num, HN6, HG4, HD4, by (repeat' (first | (with_reducible first | exact Below.refl _ _ | assumption | refine Below.alloc ?_ ?_ _ | refine Below.setCell ?_ ?_ _ | refine below_row ?_ ?_ _ | refine Below.drew ?_ | refine below_drewN ?_ _ | refine Below.trans ?_ (Below.mono (by assumption) ?_)) | exact Nat.le_refl _ | omega | (simp; done) | (simp; omega) | exact Below.size (by assumption))), by (repeat' (first | (with_reducible first | exact Below.refl _ _ | assumption | refine Below.alloc ?_ ?_ _ | refine Below.setCell ?_ ?_ _ | refine below_row ?_ ?_ _ | refine Below.drew ?_ | refine below_drewN ?_ _ | refine Below.trans ?_ (Below.mono (by assumption) ?_)) | exact Nat.le_refl _ | omega | (simp; done) | (simp; omega) | exact Below.size (by assumption)))⟩
                case measure => simp [intOf]; omega
          · have hmx1 : gd = max (G d) 1 := by rw [HGE.out, Int.max_def]; split <;> omega
            have HV := Lib.hid (fun W (hW : Lies W wo.heap.size 3 (rowN (zs.map G))) => bump_row HPZ.out HST.out hmx1 hW)
            clear hmx1
            go_wp2_with fail
            refine (HIX.out _ (by (repeat' (first | (with_reducible first | exact Below.refl _ _ | assumption | refine Below.alloc ?_ ?_ _ | refine Below.setCell ?_ ?_ _ | refine below_row ?_ ?_ _ | refine Below.drew ?_ | refine below_drewN ?_ _ | refine Below.trans ?_ (Below.mono (by assumption) ?_)) | exact Nat.le_refl _ | omega | (simp; done) | (simp; omega) | exact Below.size (by assumption))))).mono ?_
            rintro e w9 ⟨rfl, rfl⟩
            have x0 := LX.out.cell 0
            have x3 := LX.out.cell 3
            have zx := LX.out.lt
            go_wp2_with fail
            go_loopw [10] (fun i wr => ∃ (j : Nat), j ≤ il.length ∧ i = .int .i64 j ∧ Hid (Lies wr wo.heap.size 3 (rowN (zs.map (itemsG f d (bump G d 1) (il.take j))))) ∧ Hid (Lies wr g 3 (rowN (zs.map f))) ∧ Hid (Lies wr w.heap.size 24 #[.slice (some ⟨b, off, none⟩) xs.length c]) ∧ Hid (Lies wr wp.heap.size 45 #[.int .i64 d, .int .i64 l, .int .u8 kk, .slice Ai il.length ci, .slice A4 n4 c4]) ∧ Below w.heap.size w wr ∧ Below w2.heap.size w2 wr) (fun i _ => il.length - (intOf i).toNat)
            case atStart =>
              refine ⟨0, by omega, rfl, ?_, ?_, ?_, ?_, by (repeat' (first | (with_reducible first | exact Below.refl _ _ | assumption | refine Below.alloc ?_ ?_ _ | refine Below.setCell ?_ ?_ _ | refine below_row ?_ ?_ _ | refine Below.drew ?_ | refine below_drewN ?_ _ | refine Below.trans ?_ (Below.mono (by assumption) ?_)) | exact Nat.le_refl _ | omega | (simp; done) | (simp; omega) | exact Below.size (by assumption))), by (repeat' (first | (with_reducible first | exact Below.refl _ _ | assumption | refine Below.alloc ?_ ?_ _ | refine Below.setCell ?_ ?_ _ | refine below_row ?_ ?_ _ | refine Below.drew ?_ | refine below_drewN ?_ _ | refine Below.trans ?_ (Below.mono (by assumption) ?_)) | exact Nat.le_refl _ | omega | (simp; done) | (simp; omega) | exact Below.size (by assumption)))⟩
              · exact Lib.hid ((HV.out _ HN.out).alloc _)
              · exact Lib.hid ((HG2.out.other (p := ⟨wo.heap.size, pa, none⟩) (by simp only; omega) _).alloc _)
              · exact Lib.hid ((HD3.out.other (p := ⟨wo.heap.size, pa, none⟩) (by simp only; omega) _).alloc _)
              · have := Lies.made (wp.setCell ⟨wo.heap.size, pa, none⟩ (.int .i64 gd)) 45 #[.int .i64 d, .int .i64 l, .int .u8 kk, .slice Ai il.length ci, .slice A4 n4 c4]
                rw [World.size_setCell] at this
                exact Lib.hid this
            case round =>
              obtain ⟨j, hj, rfl, HN4, HG4, HD4, HL4, hb5, hb6⟩ := hrel
              have y3 := HL4.out.cell 3
              have zl := HL4.out.lt
              by_cases hjt : j < il.length
              · obtain rfl := HAI.out (by omega)
                have kl3 : (j : Int) < (il.length : Int) := by omega
                have i0 := cell_keep hb5 (HCI.out j hjt).1
                have HIS := Lib.hid (itemsG_step (f := f) (d := d) hjt (bump G d 1))
                obtain ⟨pb, hpb, hpz, hpi⟩ := idx_spec (HIM.out il[j] (List.getElem_mem hjt))
                have HIY := Lib.hid (fun W (hW : Below w2.heap.size w2 W) => rIndex_any A6 c6 b6 o6 zs il[j].1 W HA6.out (by omega) (fun i h => cell_keep hW (HC6.out i h)))
                try dsimp only at hpi
                rw [hpi] at HIY
                have pl2 : (pb : Int) < (zs.length : Int) := by omega
                have u0 := rowMap_at hpz HG4.out
                have hF0 := HFB.out il[j].1
                clear hpz hpi hpb
                have hI0 := HBI.out (il.take j) d
                have v0 := rowMap_at HPZ.out HN4.out
                have HX5 : Hid (∀ vv : Int, vv = max (itemsG f d (bump G d 1) (il.take j) d) (1 + f il[j].1) → ∀ W, Lies W wo.heap.size 3 (rowN (zs.map (itemsG f d (bump G d 1) (il.take j)))) → Lies (W.setCell ⟨wo.heap.size, pa, none⟩ (.int .i64 vv)) wo.heap.size 3 (rowN (zs.map (itemsG f d (bump G d 1) (il.take (j + 1)))))) := Lib.hid (fun vv hv W hW => by rw [HIS.out]; exact bump_row HPZ.out HST.out hv hW)
                have fr := HN4.out.free pa
                have zn4 := HN4.out.lt
                have zg4 := HG4.out.lt
                clear HIS
                generalize itemsG f d (bump G d 1) (il.take j) = G2 at *
                generalize hff : f il[j].1 = fv at *
                generalize hgg : G2 d = gv at *
                have HGV := Lib.hid hgg
                have HFV := Lib.hid hff
                clear hgg hff
                generalize il[j] = it at *
                obtain ⟨ia, ic⟩ := it
                try dsimp only at i0 u0 HIY HX5 hF0
                have kx1 : IntKind.i64.wrap (1 + fv) = 1 + fv := IntWalk.i64_in _ (by omega)
                obtain ⟨wq, rfl⟩ : ∃ wq : World, wq = wr := ⟨_, rfl⟩
                by_cases hlt2 : gv < 1 + fv
                · have HX6 := Lib.hid (HX5.out (1 + fv) (by rw [Int.max_def]; split <;> omega))
                  clear HX5
                  go_wp2_with fail
                  refine wp_region_still_tail 20 (by kernel_rfl) (by kernel_rfl) ?_
                  simp only [List.take_succ_cons, List.take_zero, List.drop_succ_cons, List.drop_zero]
                  repeat still_step
                  have HIZ := HIY.out wq.drew (by (repeat' (first | (with_reducible first | exact Below.refl _ _ | assumption | refine Below.alloc ?_ ?_ _ | refine Below.setCell ?_ ?_ _ | refine below_row ?_ ?_ _ | refine Below.drew ?_ | refine below_drewN ?_ _ | refine Below.trans ?_ (Below.mono (by assumption) ?_)) | exact Nat.le_refl _ | omega | (simp; done) | (simp; omega) | exact Below.size (by assumption))))
                  still_call (HIZ.mono (fun e w9 h => (⟨h.1, h.2.symm⟩ : _ ∧ _)))
                  repeat still_step
                  refine wpStill_nil ?_
                  go_wp2_with fail
                  go_roundw
                  case rel =>
                    refine ⟨j + 1, by omega, by go_num, Lib.hid (HX6.out _ HN4.out.drew), Lib.hid (HG4.out.drew.other (p := ⟨wo.heap.size, pa, none⟩) (by simp only; omega) _), Lib.hid (HD4.out.drew.other (p := ⟨wo.heap.size, pa, none⟩) (by simp only; omega) _), Lib.hid (HL4.out.drew.other (p := ⟨wo.heap.size, pa, none⟩) (by simp only; omega) _), by (repeat' (first | (with_reducible first | exact Below.refl _ _ | assumption | refine Below.alloc ?_ ?_ _ | refine Below.setCell ?_ ?_ _ | refine below_row ?_ ?_ _ | refine Below.drew ?_ | refine below_drewN ?_ _ | refine Below.trans ?_ (Below.mono (by assumption) ?_)) | exact Nat.le_refl _ | omega | (simp; done) | (simp; omega) | exact Below.size (by assumption))), by (repeat' (first | (with_reducible first | exact Below.refl _ _ | assumption | refine Below.alloc ?_ ?_ _ | refine Below.setCell ?_ ?_ _ | refine below_row ?_ ?_ _ | refine Below.drew ?_ | refine below_drewN ?_ _ | refine Below.trans ?_ (Below.mono (by assumption) ?_)) | exact Nat.le_refl _ | omega | (simp; done) | (simp; omega) | exact Below.size (by assumption)))⟩
                  case measure => simp [intOf]; omega
                · have HX6 := Lib.hid (HX5.out gv (by rw [Int.max_def]; split <;> omega))
                  clear HX5
                  go_wp2_with fail
                  refine wp_region_still_tail 20 (by kernel_rfl) (by kernel_rfl) ?_
                  simp only [List.take_succ_cons, List.take_zero, List.drop_succ_cons, List.drop_zero]
                  repeat still_step
                  have HIZ := HIY.out wq.drew (by (repeat' (first | (with_reducible first | exact Below.refl _ _ | assumption | refine Below.alloc ?_ ?_ _ | refine Below.setCell ?_ ?_ _ | refine below_row ?_ ?_ _ | refine Below.drew ?_ | refine below_drewN ?_ _ | refine Below.trans ?_ (Below.mono (by assumption) ?_)) | exact Nat.le_refl _ | omega | (simp; done) | (simp; omega) | exact Below.size (by assumption))))
                  still_call (HIZ.mono (fun e w9 h => (⟨h.1, h.2.symm⟩ : _ ∧ _)))
                  repeat still_step
                  refine wpStill_nil ?_
                  go_wp2_with fail
                  go_roundw
                  case rel =>
                    refine ⟨j + 1, by omega, by go_num, Lib.hid (HX6.out _ HN4.out.drew), Lib.hid (HG4.out.drew.other (p := ⟨wo.heap.size, pa, none⟩) (by simp only; omega) _), Lib.hid (HD4.out.drew.other (p := ⟨wo.heap.size, pa, none⟩) (by simp only; omega) _), Lib.hid (HL4.out.drew.other (p := ⟨wo.heap.size, pa, none⟩) (by simp only; omega) _), by (repeat' (first | (with_reducible first | exact Below.refl _ _ | assumption | refine Below.alloc ?_ ?_ _ | refine Below.setCell ?_ ?_ _ | refine below_row ?_ ?_ _ | refine Below.drew ?_ | refine below_drewN ?_ _ | refine Below.trans ?_ (Below.mono (by assumption) ?_)) | exact Nat.le_refl _ | omega | (simp; done) | (simp; omega) | exact Below.size (by assumption))), by (repeat' (first | (with_reducible first | exact Below.refl _ _ | assumption | refine Below.alloc ?_ ?_ _ | refine Below.setCell ?_ ?_ _ | refine below_row ?_ ?_ _ | refine Below.drew ?_ | refine below_drewN ?_ _ | refine Below.trans ?_ (Below.mono (by assumption) ?_)) | exact Nat.le_refl _ | omega | (simp; done) | (simp; omega) | exact Below.size (by assumption)))⟩
                  case measure => simp [intOf]; omega
              · have hje : j = il.length := by omega
                subst hje
                have HN5 := HN4.out
                rw [List.take_length] at HN5
                have HN6 : Hid (Lies wr wo.heap.size 3 (rowN (zs.map ((xs.take (p + 1)).foldl (issG f) (fun _ => 0))))) := Lib.hid (by rw [HFS.out]; exact HN5)
                clear HN5 HFS
                go_wp2_with fail
                go_roundw
                case rel => exact ⟨p + 1, by omega, by go_num, HN6, HG4, HD4, by (repeat' (first | (with_reducible first | exact Below.refl _ _ | assumption | refine Below.alloc ?_ ?_ _ | refine Below.setCell ?_ ?_ _ | refine below_row ?_ ?_ _ | refine Below.drew ?_ | refine below_drewN ?_ _ | refine Below.trans ?_ (Below.mono (by assumption) ?_)) | exact Nat.le_refl _ | omega | (simp; done) | (simp; omega) | exact Below.size (by assumption))), by (repeat' (first | (with_reducible first | exact Below.refl _ _ | assumption | refine Below.alloc ?_ ?_ _ | refine Below.setCell ?_ ?_ _ | refine below_row ?_ ?_ _ | refine Below.drew ?_ | refine below_drewN ?_ _ | refine Below.trans ?_ (Below.mono (by assumption) ?_)) | exact Nat.le_refl _ | omega | (simp; done) | (simp; omega) | exact Below.size (by assumption)))⟩
                case measure => simp [intOf]; omega
        · have hpe : p = xs.length := by omega
          subst hpe
          have HN9 := Lib.hid HN.out
          rw [← HDF.out] at HN9
          go_wp2_with fail
          go_roundw
          case rel => exact ⟨k + 1, wo.heap.size, by omega, by go_num, rfl, by omega, HN9, HD3, hb3, hb4⟩
          case measure => simp [intOf]; omega
    · have hke : k = zs.length + 1 := by omega
      subst hke
      go_wp2_with fail
      go_ret
      exact ⟨g, rfl, HG.out, hb⟩
end
section
open Go.RowKit

theorem bump_le {g : Int → Int} {d u v y : Int} : bump g d u y ≤ v ↔ g y ≤ v ∧ (y = d → u ≤ v) := by
  unfold bump
  by_cases h : y = d
  · rw [if_pos h]; constructor
    · intro h2; exact ⟨by omega, fun _ => by omega⟩
    · rintro ⟨h2, h3⟩; have := h3 h; omega
  · rw [if_neg h]; exact ⟨fun h2 => ⟨h2, fun e => absurd e h⟩, fun h2 => h2.1⟩
theorem itemsG_le {f : Int → Int} {d v y : Int} : ∀ {l : List (Int × Int)} {g : Int → Int}, itemsG f d g l y ≤ v ↔ g y ≤ v ∧ (y = d → ∀ it ∈ l, 1 + f it.1 ≤ v)
  | [], g => by simp [itemsG]
  | it :: r, g => by
    have ih := itemsG_le (f := f) (d := d) (v := v) (y := y) (l := r) (g := bump g d (1 + f it.1))
    rw [bump_le] at ih
    show itemsG f d (bump g d (1 + f it.1)) r y ≤ v ↔ _
    rw [ih]
    constructor
    · rintro ⟨⟨h1, h2⟩, h3⟩
      refine ⟨h1, fun e z hz => ?_⟩
      rcases List.mem_cons.1 hz with rfl | hz
      · exact h2 e
      · exact h3 e z hz
    · rintro ⟨h1, h2⟩
      exact ⟨⟨h1, fun e => h2 e it (by simp)⟩, fun e z hz => h2 e z (List.mem_cons_of_mem _ hz)⟩
theorem issG_le {f g : Int → Int} {x : Iss} {v y : Int} : issG f g x y ≤ v ↔ g y ≤ v ∧ (x.d = y → 1 ≤ v ∧ ∀ it ∈ x.items, 1 + f it.1 ≤ v) := by
  unfold issG
  rw [itemsG_le, bump_le]
  constructor
  · rintro ⟨⟨h1, h2⟩, h3⟩
    exact ⟨h1, fun e => ⟨h2 e.symm, h3 e.symm⟩⟩
  · rintro ⟨h1, h2⟩
    exact ⟨⟨h1, fun e => (h2 e.symm).1⟩, fun e => (h2 e.symm).2⟩
theorem foldG_le {f : Int → Int} {v y : Int} : ∀ {xs : List Iss} {g : Int → Int}, xs.foldl (issG f) g y ≤ v ↔ g y ≤ v ∧ ∀ x ∈ xs, x.d = y → 1 ≤ v ∧ ∀ it ∈ x.items, 1 + f it.1 ≤ v
  | [], g => by simp
  | x :: r, g => by
    rw [List.foldl_cons, foldG_le, issG_le]
    constructor
    · rintro ⟨⟨h1, h2⟩, h3⟩
      refine ⟨h1, fun z hz => ?_⟩
      rcases List.mem_cons.1 hz with rfl | hz
      · exact h2
      · exact h3 z hz
    · rintro ⟨h1, h2⟩
      exact ⟨⟨h1, h2 x (by simp)⟩, fun z hz => h2 z (List.mem_cons_of_mem _ hz)⟩
theorem depF_le {xs : List Iss} {k : Nat} {v y : Int} : depF xs (k + 1) y ≤ v ↔ 0 ≤ v ∧ ∀ x ∈ xs, x.d = y → 1 ≤ v ∧ ∀ it ∈ x.items, 1 + depF xs k it.1 ≤ v := foldG_le
theorem depF_mono {xs : List Iss} : ∀ (k : Nat) (y : Int), depF xs k y ≤ depF xs (k + 1) y
  | 0, y => (depF_bd xs 1 y).1
  | k + 1, y => by
    have h := depF_le.1 (Int.le_refl (depF xs (k + 1 + 1) y))
    rw [depF_le]
    refine ⟨h.1, fun x hx e => ⟨(h.2 x hx e).1, fun it hit => ?_⟩⟩
    have := (h.2 x hx e).2 it hit
    have := depF_mono (xs := xs) k it.1
    omega
theorem depF_monos {xs : List Iss} {k m : Nat} (h : k ≤ m) (y : Int) : depF xs k y ≤ depF xs m y := by
  induction m with
  | zero => rw [show k = 0 by omega]; exact Int.le_refl _
  | succ m ih =>
    by_cases e : k = m + 1
    · subst e; exact Int.le_refl _
    · exact Int.le_trans (ih (by omega)) (depF_mono m y)
theorem depF_stable {xs : List Iss} : ∀ (k : Nat) (y : Int), depF xs (k + 1) y ≤ k → ∀ m, depF xs m y ≤ k
  | 0, y, h, m => by
    cases m with
    | zero => exact Int.le_refl _
    | succ m =>
      rw [depF_le] at h ⊢
      exact ⟨h.1, fun x hx e => absurd (h.2 x hx e).1 (by simp)⟩
  | k + 1, y, h, m => by
    cases m with
    | zero => show (0 : Int) ≤ _; omega
    | succ m =>
      rw [depF_le] at h ⊢
      refine ⟨h.1, fun x hx e => ⟨(h.2 x hx e).1, fun it hit => ?_⟩⟩
      have h1 := (h.2 x hx e).2 it hit
      have := depF_stable (xs := xs) k it.1 (by omega) m
      omega
theorem needB_iff {xs : List Iss} {d : Int} {S : Int → Bool} : needB xs d S = true ↔ ∃ x ∈ xs, x.d = d ∧ ∃ it ∈ x.items, S it.1 = true := by
  unfold needB
  simp only [List.any_eq_true, Bool.and_eq_true, decide_eq_true_eq]
/-- Each number has an issue; items are numbers. -/
structure Shut (xs : List Iss) (zs : List Int) : Prop where
  has : ∀ y ∈ zs, ∃ x ∈ xs, x.d = y
  mem : ∀ x ∈ xs, ∀ it ∈ x.items, it.1 ∈ zs
theorem wait_iff {xs : List Iss} {zs : List Int} (h : Shut xs zs) : ∀ (k : Nat) (y : Int), y ∈ zs → (waitW xs zs k y = true ↔ (k : Int) < depF xs (k + 1) y)
  | 0, y, hy => by
    simp only [waitW, decide_eq_true_eq]
    constructor
    · intro _
      obtain ⟨x, hx, e⟩ := h.has y hy
      have := ((depF_le.1 (Int.le_refl (depF xs (0 + 1) y))).2 x hx e).1
      omega
    · intro _; exact hy
  | k + 1, y, hy => by
    rw [waitW, Bool.and_eq_true, needB_iff]
    constructor
    · rintro ⟨-, x, hx, e, it, hit, hw⟩
      have h1 := (wait_iff h k it.1 (h.mem x hx it hit)).1 hw
      have h2 := ((depF_le.1 (Int.le_refl (depF xs (k + 1 + 1) y))).2 x hx e).2 it hit
      omega
    · intro hd
      have hex : ∃ x ∈ xs, x.d = y ∧ ∃ it ∈ x.items, (k : Int) < depF xs (k + 1) it.1 := by
        apply Classical.byContradiction
        intro hn
        have : depF xs (k + 1 + 1) y ≤ (k : Int) + 1 := by
          rw [depF_le]
          refine ⟨by omega, fun x hx e => ⟨by omega, fun it hit => ?_⟩⟩
          apply Classical.byContradiction
          intro h3
          exact hn ⟨x, hx, e, it, hit, by omega⟩
        omega
      obtain ⟨x, hx, e, it, hit, hk⟩ := hex
      have hw := (wait_iff h k it.1 (h.mem x hx it hit)).2 hk
      refine ⟨?_, x, hx, e, it, hit, hw⟩
      rw [wait_iff h k y hy]
      have h2 := ((depF_le.1 (Int.le_refl (depF xs (k + 1) y))).2 x hx e).2 it hit
      have h3 : (k : Int) ≤ depF xs k it.1 := by
        cases k with
        | zero => exact Int.le_refl _
        | succ j =>
          rw [waitW, Bool.and_eq_true] at hw
          have := (wait_iff h j it.1 (h.mem x hx it hit)).1 hw.1
          omega
      omega
theorem depW_cases {xs : List Iss} {zs : List Int} {y : Int} (hy : y ∈ zs) : ∀ n : Nat, (depW xs zs n y = 0 ∧ waitW xs zs n y = true) ∨ ∃ k < n, depW xs zs n y = k + 1 ∧ waitW xs zs k y = true ∧ waitW xs zs (k + 1) y = false
  | 0 => .inl ⟨rfl, by simp [waitW, hy]⟩
  | n + 1 => by
    rw [depW]
    rcases depW_cases hy n with ⟨h1, h2⟩ | ⟨k, hk, h1, h2, h3⟩
    · by_cases e : needB xs y (waitW xs zs n) = true
      · left
        rw [if_neg (by unfold goesW; rw [h2, e]; decide)]
        exact ⟨h1, by rw [waitW, h2, e]; rfl⟩
      · rw [Bool.not_eq_true] at e
        right
        rw [if_pos (by unfold goesW; rw [h2, e]; rfl)]
        exact ⟨n, by omega, rfl, h2, by rw [waitW, h2, e]; rfl⟩
    · right
      have hst : ∀ m, k + 1 ≤ m → waitW xs zs m y = false := by
        intro m hm
        induction m with
        | zero => omega
        | succ m ih =>
          by_cases e : k + 1 = m + 1
          · rw [← e]; exact h3
          · rw [waitW, ih (by omega)]; rfl
      rw [if_neg (by unfold goesW; rw [hst n (by omega)]; simp)]
      exact ⟨k, by omega, h1, h2, h3⟩
/-- The reference's depth is the round in which a drawing goes. -/
theorem dep_same {xs : List Iss} {zs : List Int} (h : Shut xs zs) {y : Int} (hy : y ∈ zs) (n : Nat) : depF xs (n + 1) y = if depW xs zs n y = 0 then (n : Int) + 1 else depW xs zs n y := by
  rcases depW_cases (xs := xs) hy n with ⟨h1, h2⟩ | ⟨k, hk, h1, h2, h3⟩
  · rw [if_pos h1]
    have := (wait_iff h n y hy).1 h2
    have := (depF_bd xs (n + 1) y).2
    omega
  · rw [if_neg (by omega), h1]
    have a1 := (wait_iff h k y hy).1 h2
    have a2 : ¬ (((k + 1 : Nat) : Int) < depF xs (k + 1 + 1) y) := fun e => by
      rw [(wait_iff h (k + 1) y hy).2 e] at h3; cases h3
    have a3 := depF_stable (xs := xs) (k + 1) y (by omega) (n + 1)
    have a4 := depF_monos (xs := xs) (show k + 1 ≤ n + 1 by omega) y
    omega
theorem depW_le {xs : List Iss} {zs : List Int} {y : Int} (hy : y ∈ zs) (n : Nat) : 0 ≤ depW xs zs n y ∧ depW xs zs n y ≤ n := by
  rcases depW_cases (xs := xs) hy n with ⟨h1, h2⟩ | ⟨k, hk, h1, h2, h3⟩ <;> omega

/-- The greatest of some numbers from 0 on. -/
def mostL (l : List Int) : Int := l.foldl max 0
theorem foldmax_le {v : Int} : ∀ {l : List Int} {m : Int}, l.foldl max m ≤ v ↔ m ≤ v ∧ ∀ x ∈ l, x ≤ v
  | [], m => by simp
  | x :: r, m => by
    rw [List.foldl_cons, foldmax_le]
    constructor
    · rintro ⟨h1, h2⟩
      refine ⟨by omega, fun z hz => ?_⟩
      rcases List.mem_cons.1 hz with rfl | hz
      · omega
      · exact h2 z hz
    · rintro ⟨h1, h2⟩
      have := h2 x (by simp)
      exact ⟨by omega, fun z hz => h2 z (List.mem_cons_of_mem _ hz)⟩
theorem mostL_le {l : List Int} {v : Int} : mostL l ≤ v ↔ 0 ≤ v ∧ ∀ x ∈ l, x ≤ v := foldmax_le
theorem maxL_le {l : List Int} {v : Int} (h : 0 < l.length) : maxL l ≤ v ↔ ∀ x ∈ l, x ≤ v := by
  unfold maxL
  rw [foldmax_le]
  constructor
  · exact fun h => h.2
  · intro h2
    refine ⟨?_, h2⟩
    cases l with
    | nil => simp at h
    | cons a r => exact h2 a (by simp)
/-- What the reference's Check says behind listed. -/
def circR (n : Nat) (l : List Int) : Int := if (n : Int) < mostL l then 21 else if 6 < mostL l then 20 else 0
theorem circ_same {xs : List Iss} {zs : List Int} (h : Shut xs zs) (hn : 0 < zs.length) : circR zs.length (zs.map (depF xs (zs.length + 1))) = if (0 : Int) ∈ chainsL xs zs then 21 else if 6 < maxL (chainsL xs zs) then 20 else 0 := by
  unfold circR
  by_cases h0 : (0 : Int) ∈ chainsL xs zs
  · rw [if_pos h0, if_pos]
    unfold chainsL at h0
    obtain ⟨y, hy, e⟩ := List.mem_map.1 h0
    have h1 := dep_same h hy zs.length
    rw [if_pos e] at h1
    have h2 := (mostL_le (l := zs.map (depF xs (zs.length + 1)))).1 (Int.le_refl _)
    have := h2.2 _ (List.mem_map.2 ⟨y, hy, rfl⟩)
    omega
  · rw [if_neg h0]
    have he : zs.map (depF xs (zs.length + 1)) = chainsL xs zs := by
      unfold chainsL
      apply List.map_congr_left
      intro y hy
      rw [dep_same h hy, if_neg]
      intro e
      exact h0 (List.mem_map.2 ⟨y, hy, e⟩)
    rw [he, if_neg]
    · have hv : ∀ v : Int, 0 ≤ v → (mostL (chainsL xs zs) ≤ v ↔ maxL (chainsL xs zs) ≤ v) := by
        intro v hv
        rw [mostL_le, maxL_le (by simpa [chainsL] using hn)]
        exact ⟨fun h => h.2, fun h => ⟨hv, h⟩⟩
      have h6 := hv 6 (by omega)
      by_cases e : 6 < maxL (chainsL xs zs)
      · rw [if_pos e, if_pos (by omega)]
      · rw [if_neg e, if_neg (by omega)]
    · have : mostL (chainsL xs zs) ≤ (zs.length : Int) := by
        rw [mostL_le]
        refine ⟨by omega, fun v hv => ?_⟩
        unfold chainsL at hv
        obtain ⟨y, hy, rfl⟩ := List.mem_map.1 hv
        exact (depW_le hy _).2
      omega
end
end Go.Proofs.Ytkjfceajakhlfaa
