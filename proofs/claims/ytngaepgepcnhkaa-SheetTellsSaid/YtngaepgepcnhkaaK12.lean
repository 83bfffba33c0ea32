/- The reference: Great, LastOf, Numbers. -/
import Derived.Test.YtngaepgepcnhkaaJA
namespace Go.Proofs.Ytngaepgepcnhkaa
set_option linter.unusedVariables false
set_option linter.unusedSimpArgs false
open Go.RowKit

def bigB (x : Iss) : Bool := decide (16 < x.items.length) || decide (8 < x.dims.length)
def greatB (xs : List Iss) : Bool := decide (80 < xs.length) || xs.any bigB
set_option maxHeartbeats 2000000 in
theorem rGreat_any (A : Option Addr) (c b off : Nat) (xs : List Iss) (vi vd : Nat → Value) (w : World) (hm : xs.length ≤ 9223372036854775807) (hm2 : ∀ x ∈ xs, x.items.length ≤ 9223372036854775807 ∧ x.dims.length ≤ 9223372036854775807) (hA : 0 < xs.length → A = some ⟨b, off, none⟩) (hc : IssRow w b off xs vi vd) :
    Calls Try.prog 17 #[.agg #[.slice A xs.length c]] w fun e w' => e = .returned (.bool (greatB xs)) ∧ Below w.heap.size w w' := by
  have HA := Lib.hid hA
  have HC := Lib.hid hc
  have HM := Lib.hid hm2
  clear hA hc hm2
  unfold greatB
  by_cases h80 : 80 < xs.length
  · have h80' : (80 : Int) < (xs.length : Int) := by omega
    have HR : Hid ((decide (80 < xs.length) || xs.any bigB) = true) := Lib.hid (by rw [decide_eq_true h80]; rfl)
    go_enter Try.func17, Try.ntmps17
    go_wp2
    go_ret
    exact ⟨ret_bool HR.out.symm, by (repeat' (first | (with_reducible exact Below.refl _ _) | (with_reducible assumption) | (with_reducible refine Below.alloc ?_ ?_ _) | (with_reducible refine Below.setCell ?_ ?_ _) | (with_reducible refine below_row ?_ ?_ _) | (with_reducible refine Below.drew ?_) | (with_reducible refine below_drewN ?_ _) | (with_reducible refine Below.trans ?_ (Below.mono (by assumption) ?_)) | (first | exact Nat.le_refl _ | omega | (simp; done) | (simp; omega) | (exact Below.size (by assumption)))))⟩
  · have h80' : ¬ (80 : Int) < (xs.length : Int) := by omega
    rw [decide_eq_false h80, Bool.false_or]
    have HD0 := Lib.hid (Lies.made w 24 #[.slice A xs.length c])
    go_enter Try.func17, Try.ntmps17
    go_wp2_with fail
    go_loopw [3] (fun i wr => ∃ k : Nat, k ≤ xs.length ∧ i = .int .i64 k ∧ Hid (∀ j (_ : j < k) (h : j < xs.length), bigB xs[j] = false) ∧ Hid (Lies wr w.heap.size 24 #[.slice A xs.length c]) ∧ Below w.heap.size w wr) (fun i _ => xs.length - (intOf i).toNat)
    case atStart => exact ⟨0, by omega, rfl, Lib.hid (fun j hj => by omega), HD0, by (repeat' (first | (with_reducible exact Below.refl _ _) | (with_reducible assumption) | (with_reducible refine Below.alloc ?_ ?_ _) | (with_reducible refine Below.setCell ?_ ?_ _) | (with_reducible refine below_row ?_ ?_ _) | (with_reducible refine Below.drew ?_) | (with_reducible refine below_drewN ?_ _) | (with_reducible refine Below.trans ?_ (Below.mono (by assumption) ?_)) | (first | exact Nat.le_refl _ | omega | (simp; done) | (simp; omega) | (exact Below.size (by assumption)))))⟩
    case round =>
      obtain ⟨k, hk, rfl, HJ, HD, hb⟩ := hrel
      have d0 := HD.out.cell 0
      have zd := HD.out.lt
      by_cases hlt : k < xs.length
      · obtain rfl := HA.out (by omega)
        obtain ⟨q0, q1, q2, q3, q4, -, ⟨Ai, ci, bi, oi, hvi, -, -⟩, ⟨Ad, cd, bd, od, hvd, -, -⟩, -⟩ := (HC.out.after hb) k hlt
        rw [hvi] at q3
        rw [hvd] at q4
        have hx := HM.out xs[k] (List.getElem_mem hlt)
        have HBF : Hid (¬ 16 < xs[k].items.length → ¬ 8 < xs[k].dims.length → bigB xs[k] = false) := Lib.hid (fun h1 h2 => by unfold bigB; rw [decide_eq_false h1, decide_eq_false h2]; rfl)
        have HYE : Hid (16 < xs[k].items.length ∨ 8 < xs[k].dims.length → xs.any bigB = true) := Lib.hid (fun h => List.any_eq_true.2 ⟨xs[k], List.getElem_mem hlt, by unfold bigB; rcases h with h | h <;> simp [h]⟩)
        clear hvi hvd
        have kl1 : (k : Int) < (xs.length : Int) := by omega
        have HJK : Hid (∀ h : bigB xs[k] = false, ∀ j (_ : j < k + 1) (h : j < xs.length), bigB xs[j] = false) := Lib.hid (fun h j hj hjl => by
          by_cases e : j = k
          · subst e; exact h
          · exact HJ.out j (by omega) hjl)
        generalize xs[k].items.length = ni at *
        generalize xs[k].dims.length = nd at *
        by_cases c1 : 16 < ni
        · have c1' : (16 : Int) < (ni : Int) := by omega
          have HR := Lib.hid (HYE.out (.inl c1))
          go_wp2
          go_ret
          exact ⟨ret_bool HR.out.symm, hb⟩
        · have c1' : ¬ (16 : Int) < (ni : Int) := by omega
          have c1d : decide ((16 : Int) < (ni : Int)) = false := by simpa using c1'
          by_cases c2 : 8 < nd
          · have c2' : (8 : Int) < (nd : Int) := by omega
            have HR := Lib.hid (HYE.out (.inr c2))
            go_wp2
            go_ret
            exact ⟨ret_bool HR.out.symm, hb⟩
          · have c2' : ¬ (8 : Int) < (nd : Int) := by omega
            have c2d : decide ((8 : Int) < (nd : Int)) = false := by simpa using c2'
            have HR := Lib.hid (HJK.out (HBF.out c1 c2))
            go_wp2
            go_roundw
            case rel => exact ⟨k + 1, by omega, by go_num, HR, HD, hb⟩
            case measure => simp [intOf]; omega
      · have HR : Hid (xs.any bigB = false) := Lib.hid (List.any_eq_false.2 (fun x hx => by obtain ⟨j, hj, rfl⟩ := List.getElem_of_mem hx; rw [HJ.out j (by omega) hj]; simp))
        go_wp2
        go_ret
        exact ⟨ret_bool HR.out.symm, hb⟩
/-- The greatest letter of a drawing. -/
def lastOfR (d : Int) : Int → List Iss → Int
  | m, [] => m
  | m, x :: r => lastOfR d (if x.d = d then max m x.l else m) r
theorem lastOfR_step {d m : Int} {xs : List Iss} {k : Nat} (h : k < xs.length) : lastOfR d m (xs.drop k) = lastOfR d (if xs[k].d = d then max m xs[k].l else m) (xs.drop (k + 1)) := by
  rw [List.drop_eq_getElem_cons h, lastOfR]
set_option maxHeartbeats 2000000 in
theorem rLastOf_any (A : Option Addr) (c b off : Nat) (xs : List Iss) (vi vd : Nat → Value) (d : Int) (w : World) (hm : xs.length ≤ 1000) (hA : 0 < xs.length → A = some ⟨b, off, none⟩) (hc : IssRow w b off xs vi vd) :
    Calls Try.prog 62 #[.agg #[.slice A xs.length c], .int .i64 d] w fun e w' => e = .returned (.int .i64 (lastOfR d 0 xs)) ∧ Below w.heap.size w w' := by
  have HA := Lib.hid hA
  have HC := Lib.hid hc
  clear hA hc
  have HD0 := Lib.hid (Lies.made w 24 #[.slice A xs.length c])
  go_enter Try.func62, Try.ntmps62
  go_wp2_with fail
  go_loopw [5, 6] (fun u i wr => ∃ (k : Nat) (m : Int), k ≤ xs.length ∧ i = .int .i64 k ∧ u = .int .i64 m ∧ Hid (lastOfR d m (xs.drop k) = lastOfR d 0 xs) ∧ Hid (Lies wr w.heap.size 24 #[.slice A xs.length c]) ∧ Below w.heap.size w wr) (fun _ i _ => xs.length - (intOf i).toNat)
  case atStart => exact ⟨0, 0, by omega, rfl, rfl, Lib.hid rfl, HD0, by (repeat' (first | (with_reducible exact Below.refl _ _) | (with_reducible assumption) | (with_reducible refine Below.alloc ?_ ?_ _) | (with_reducible refine Below.setCell ?_ ?_ _) | (with_reducible refine below_row ?_ ?_ _) | (with_reducible refine Below.drew ?_) | (with_reducible refine below_drewN ?_ _) | (with_reducible refine Below.trans ?_ (Below.mono (by assumption) ?_)) | (first | exact Nat.le_refl _ | omega | (simp; done) | (simp; omega) | (exact Below.size (by assumption)))))⟩
  case round =>
    obtain ⟨k, m, hk, rfl, rfl, HJ, HD, hb⟩ := hrel
    have d0 := HD.out.cell 0
    have zd := HD.out.lt
    by_cases hlt : k < xs.length
    · obtain rfl := HA.out (by omega)
      obtain ⟨q0, q1, q2, q3, q4, -⟩ := (HC.out.after hb) k hlt
      have kl1 : (k : Int) < (xs.length : Int) := by omega
      have HS := Lib.hid ((lastOfR_step (d := d) (m := m) hlt).symm.trans HJ.out)
      generalize xs[k].d = xd at *
      generalize xs[k].l = xl at *
      by_cases e : xd = d
      · subst e
        go_wp2
        go_roundw
        case rel => exact ⟨k + 1, _, by omega, by go_num, rfl, Lib.hid (by have := HS.out; rw [if_pos rfl] at this; rw [show (if m < xl then xl else m) = max m xl from by rw [Int.max_def]; split <;> split <;> omega]; exact this), HD, hb⟩
        case measure => simp [intOf]; omega
      · have e' : (xd == d) = false := by rw [beq_eq_false_iff_ne]; exact e
        have HR := Lib.hid (by have := HS.out; rwa [if_neg e] at this)
        clear e
        go_wp2
        go_roundw
        case rel => exact ⟨k + 1, _, by omega, by go_num, rfl, HR, HD, hb⟩
        case measure => simp [intOf]; omega
    · have hke : k = xs.length := by omega
      have HR := Lib.hid HJ.out
      rw [hke, List.drop_length, lastOfR] at HR
      go_wp2
      go_ret
      exact ⟨ret_int HR.out, hb⟩

/-- The drawings of issues, each where it is another one than before. -/
def numbersR (xs : List Iss) : List Int := (List.range xs.length).flatMap fun k => if h : k < xs.length then (if k = 0 then [xs[k].d] else if (xs[k - 1]'(by omega)).d = xs[k].d then [] else [xs[k].d]) else []
def numK (xs : List Iss) (k : Nat) : List Int := (List.range k).flatMap fun k => if h : k < xs.length then (if k = 0 then [xs[k].d] else if (xs[k - 1]'(by omega)).d = xs[k].d then [] else [xs[k].d]) else []
theorem numK_zero {xs : List Iss} (h : 0 < xs.length) : numK xs 1 = [xs[0].d] := by simp [numK, h, List.range_succ]
theorem numK_step {xs : List Iss} {k : Nat} (h : k < xs.length) (h0 : 0 < k) : numK xs (k + 1) = numK xs k ++ if (xs[k - 1]'(by omega)).d = xs[k].d then [] else [xs[k].d] := by
  unfold numK
  rw [List.range_succ, List.flatMap_append]
  have h1 : ¬ k = 0 := by omega
  simp [h, h1]
theorem numK_le (xs : List Iss) (k : Nat) : (numK xs k).length ≤ k := by
  induction k with
  | zero => simp [numK]
  | succ k ih =>
    unfold numK at *
    rw [List.range_succ, List.flatMap_append, List.length_append]
    have : (List.flatMap (fun k => if h : k < xs.length then (if k = 0 then [xs[k].d] else if (xs[k - 1]'(by omega)).d = xs[k].d then [] else [xs[k].d]) else []) [k]).length ≤ 1 := by
      simp only [List.flatMap_cons, List.flatMap_nil, List.append_nil]
      split
      · split
        · simp
        · split <;> simp
      · simp
    omega
set_option maxHeartbeats 4000000 in
theorem rNumbers_any (A : Option Addr) (c b off : Nat) (xs : List Iss) (vi vd : Nat → Value) (w : World) (hl : xs.length ≤ 1000) (hA : 0 < xs.length → A = some ⟨b, off, none⟩) (hc : IssRow w b off xs vi vd) :
    Calls Try.prog 59 #[.agg #[.slice A xs.length c]] w fun e w' => ∃ v, e = .returned v ∧ w'.ownsRow w.heap.size 3 1 v (numbersR xs).length (cellsN (numbersR xs)) ∧ Below w.heap.size w w' := by
  have HC := Lib.hid hc
  have HA := Lib.hid hA
  clear hc hA
  obtain ⟨i0, hi, iz0, iz1, iz2⟩ := info_parts infoN
  have HD0 := Lib.hid (Lies.made w 24 #[.slice A xs.length c])
  go_enter Try.func59, Try.ntmps59
  go_wp2_with fail
  go_loopw [3, 4] (fun v i wr => ∃ (k : Nat), k ≤ xs.length ∧ i = .int .i64 k ∧ Hid (wr.ownsRow w.heap.size 3 1 v (numK xs k).length (cellsN (numK xs k))) ∧ Hid (Lies wr w.heap.size 24 #[.slice A xs.length c]) ∧ Below w.heap.size w wr) (fun _ i _ => xs.length - (intOf i).toNat)
  case atStart => exact ⟨0, by omega, rfl, Lib.hid (World.ownsRow_nil _ _ _ _), HD0, by (repeat' (first | (with_reducible exact Below.refl _ _) | (with_reducible assumption) | (with_reducible refine Below.alloc ?_ ?_ _) | (with_reducible refine Below.setCell ?_ ?_ _) | (with_reducible refine below_row ?_ ?_ _) | (with_reducible refine Below.drew ?_) | (with_reducible refine below_drewN ?_ _) | (with_reducible refine Below.trans ?_ (Below.mono (by assumption) ?_)) | (first | exact Nat.le_refl _ | omega | (simp; done) | (simp; omega) | (exact Below.size (by assumption)))))⟩
  case round =>
    obtain ⟨k, hk, rfl, HO, HD, hb⟩ := hrel
    have hz := hb.size
    have d0 := HD.out.cell 0
    have zd := HD.out.lt
    have hll := numK_le xs k
    by_cases hlt : k < xs.length
    · obtain rfl := HA.out (by omega)
      have kl1 : (k : Int) < (xs.length : Int) := by omega
      have q0 := ((HC.out.after hb) k hlt).1
      by_cases hk0 : k = 0
      · subst hk0
        have HS := Lib.hid (numK_zero hlt)
        have hr0 : wr.cell? ⟨b, off, none⟩ = some (.int .i64 (xs[0].d)) := by simpa using q0
        generalize xs[0].d = d at *
        go_wp2_with (at_builtin; refine wpList_append_own _ rfl _ _ 29 rfl w.heap.size 3 i0 (.int .i64 0) 1 8 Try.underlying29 hi iz0 iz1 iz2 rfl (by decide) _ _ _ rfl (HO.out.alloc _) ⟨wr.heap.size, 0, none⟩ 1 1 [.int .i64 d] rfl rfl (World.news_of_block (cs := #[.int .i64 d]) (t := 3) (fr := (0, 0)) (Lies.new (by simp))) (by simp [Value.oneCell']) (by unfold maxLen; omega) (by omega) (by simp; omega) ?_; intro v' w1 hown' hgrow _; have HOW := Lib.hid (HO.out.alloc (.cells #[.int .i64 d] 3)); have HB2 := Lib.hid (below_own (w0 := w) (B := w.heap.size) (by (repeat' (first | (with_reducible exact Below.refl _ _) | (with_reducible assumption) | (with_reducible refine Below.alloc ?_ ?_ _) | (with_reducible refine Below.setCell ?_ ?_ _) | (with_reducible refine below_row ?_ ?_ _) | (with_reducible refine Below.drew ?_) | (with_reducible refine below_drewN ?_ _) | (with_reducible refine Below.trans ?_ (Below.mono (by assumption) ?_)) | (first | exact Nat.le_refl _ | omega | (simp; done) | (simp; omega) | (exact Below.size (by assumption)))))) HOW.out hgrow (Nat.le_refl _) (by simp; omega)); have HD2 := Lib.hid (lies_own (HD.out.alloc (.cells #[.int .i64 d] 3)) HOW.out hgrow (by decide)); have HO2 := Lib.hid hown'; clear hown' hgrow HOW)
        go_roundw
        case rel => exact ⟨1, by omega, by go_num, Lib.hid (by rw [HS.out]; exact HO2.out), HD2, HB2.out⟩
        case measure => simp [intOf]; omega
      · have hk1 : 1 ≤ (k : Int) := by omega
        have hk4 : k - 1 < xs.length := by omega
        have p0 := ((HC.out.after hb) (k - 1) hk4).1
        have HS := Lib.hid (numK_step hlt (by omega))
        have hk2 : ((k : Int) == 0) = false := by rw [beq_eq_false_iff_ne]; omega
        have kl2 : (k : Int) - 1 < (xs.length : Int) := by omega
        generalize (xs[k - 1]'hk4).d = e0 at *
        generalize xs[k].d = d at *
        clear hk0
        by_cases he : e0 = d
        · subst he
          have HR := Lib.hid (by have := HS.out; rwa [if_pos rfl, List.append_nil] at this)
          go_wp2
          go_roundw
          case rel => exact ⟨k + 1, by omega, by go_num, Lib.hid (by rw [HR.out]; exact HO.out), HD, hb⟩
          case measure => simp [intOf]; omega
        · have he' : (e0 != d) = true := by simp [he]
          have HR := Lib.hid (by have := HS.out; rwa [if_neg he] at this)
          clear he
          go_wp2_with (at_builtin; refine wpList_append_own _ rfl _ _ 29 rfl w.heap.size 3 i0 (.int .i64 0) 1 8 Try.underlying29 hi iz0 iz1 iz2 rfl (by decide) _ _ _ rfl (HO.out.alloc _) ⟨wr.heap.size, 0, none⟩ 1 1 [.int .i64 d] rfl rfl (World.news_of_block (cs := #[.int .i64 d]) (t := 3) (fr := (0, 0)) (Lies.new (by simp))) (by simp [Value.oneCell']) (by unfold maxLen; omega) (by omega) (by simp; omega) ?_; intro v' w1 hown' hgrow _; have HOW := Lib.hid (HO.out.alloc (.cells #[.int .i64 d] 3)); have HB2 := Lib.hid (below_own (w0 := w) (B := w.heap.size) (by (repeat' (first | (with_reducible exact Below.refl _ _) | (with_reducible assumption) | (with_reducible refine Below.alloc ?_ ?_ _) | (with_reducible refine Below.setCell ?_ ?_ _) | (with_reducible refine below_row ?_ ?_ _) | (with_reducible refine Below.drew ?_) | (with_reducible refine below_drewN ?_ _) | (with_reducible refine Below.trans ?_ (Below.mono (by assumption) ?_)) | (first | exact Nat.le_refl _ | omega | (simp; done) | (simp; omega) | (exact Below.size (by assumption)))))) HOW.out hgrow (Nat.le_refl _) (by simp; omega)); have HD2 := Lib.hid (lies_own (HD.out.alloc (.cells #[.int .i64 d] 3)) HOW.out hgrow (by decide)); have HO2 := Lib.hid hown'; clear hown' hgrow HOW)
          go_roundw
          case rel => exact ⟨k + 1, by omega, by go_num, Lib.hid (by rw [HR.out, List.length_append]; unfold cellsN; rw [List.map_append]; exact HO2.out), HD2, HB2.out⟩
          case measure => simp [intOf]; omega
    · have hke : k = xs.length := by omega
      have HR : Hid (wr.ownsRow w.heap.size 3 1 _ (numbersR xs).length (cellsN (numbersR xs))) := Lib.hid (by have := HO.out; rw [hke] at this; exact this)
      clear HO
      subst hke
      go_wp2
      go_ret
      exact ⟨_, rfl, HR.out, hb⟩
end Go.Proofs.Ytngaepgepcnhkaa
