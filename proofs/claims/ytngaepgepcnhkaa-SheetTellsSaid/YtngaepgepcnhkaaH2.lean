/- The walks of package sheet: isInOrder, isMade. -/
import Derived.Test.YtngaepgepcnhkaaH1
import Derived.IntWalk
namespace Go.Proofs.Ytngaepgepcnhkaa
set_option linter.unusedVariables false
set_option linter.unusedSimpArgs false
open Go.RowKit

set_option maxHeartbeats 1000000 in
theorem isInOrder_any (bd bl bk : Int) (bit : List (Int × Int)) (bdi : List D3) (bvi bvd : Value) (d l k : Int) (it : List (Int × Int)) (di : List D3) (vi vd : Value) (w : World) (hb : -1000 ≤ bl ∧ bl ≤ 1000) :
    Calls Try.prog 134 #[.agg #[.int .i64 bd, .int .i64 bl, .int .u8 bk, bvi, bvd], .agg #[.int .i64 d, .int .i64 l, .int .u8 k, vi, vd]] w fun e w' => e = .returned (.bool (orderB ⟨bd, bl, bk, bit, bdi⟩ ⟨d, l, k, it, di⟩)) ∧ Below w.heap.size w w' := by
  unfold orderB
  simp only
  have hw : IntKind.i64.wrap (bl + 1) = bl + 1 := IntWalk.i64_in _ (by omega)
  by_cases h1 : d = bd
  · subst h1
    rw [if_pos rfl]
    by_cases h2 : l = bl + 1 <;> by_cases h3 : k = bk
    all_goals
      go_enter Try.func134, Try.ntmps134
      go_wp2
      go_ret
      exact ⟨ret_bool (by simp [h2, h3]), by (repeat' (first | (with_reducible exact Below.refl _ _) | (with_reducible assumption) | (with_reducible refine Below.alloc ?_ ?_ _) | (with_reducible refine Below.setCell ?_ ?_ _) | (with_reducible refine below_row ?_ ?_ _) | (with_reducible refine Below.drew ?_) | (with_reducible refine below_drewN ?_ _) | (with_reducible refine Below.trans ?_ (Below.mono (by assumption) ?_)) | (first | exact Nat.le_refl _ | omega | (simp; done) | (simp; omega) | (exact Below.size (by assumption)))))⟩
  · rw [if_neg h1]
    have h1' : (d == bd) = false := by rw [beq_eq_false_iff_ne]; exact h1
    by_cases h2 : bd < d <;> by_cases h3 : l = 1
    all_goals
      go_enter Try.func134, Try.ntmps134
      go_wp2
      go_ret
      exact ⟨ret_bool (by simp [h2, h3]), by (repeat' (first | (with_reducible exact Below.refl _ _) | (with_reducible assumption) | (with_reducible refine Below.alloc ?_ ?_ _) | (with_reducible refine Below.setCell ?_ ?_ _) | (with_reducible refine below_row ?_ ?_ _) | (with_reducible refine Below.drew ?_) | (with_reducible refine below_drewN ?_ _) | (with_reducible refine Below.trans ?_ (Below.mono (by assumption) ?_)) | (first | exact Nat.le_refl _ | omega | (simp; done) | (simp; omega) | (exact Below.size (by assumption)))))⟩

set_option maxHeartbeats 2000000 in
theorem isMade_part (cb : Array Value) (d l k : Int) (it : List (Int × Int)) (di : List D3) (A : Option Addr) (c : Nat) (vd : Value) (w : World) (hk : ¬ k = 1) :
    Calls Try.prog 135 #[.agg cb, .agg #[.int .i64 d, .int .i64 l, .int .u8 k, .slice A it.length c, vd]] w fun e w' => e = .returned (.bool (madeB ⟨d, l, k, it, di⟩)) ∧ Below w.heap.size w w' := by
  unfold madeB
  simp only
  rw [if_neg hk]
  have hk' : (k == 1) = false := by rw [beq_eq_false_iff_ne]; exact hk
  generalize it.length = n at *
  by_cases h : n = 0
  · subst h
    go_enter Try.func135, Try.ntmps135
    go_wp2
    go_ret
    exact ⟨ret_bool (by simp), by (repeat' (first | (with_reducible exact Below.refl _ _) | (with_reducible assumption) | (with_reducible refine Below.alloc ?_ ?_ _) | (with_reducible refine Below.setCell ?_ ?_ _) | (with_reducible refine below_row ?_ ?_ _) | (with_reducible refine Below.drew ?_) | (with_reducible refine below_drewN ?_ _) | (with_reducible refine Below.trans ?_ (Below.mono (by assumption) ?_)) | (first | exact Nat.le_refl _ | omega | (simp; done) | (simp; omega) | (exact Below.size (by assumption)))))⟩
  · have h' : ((n : Int) == 0) = false := by rw [beq_eq_false_iff_ne]; omega
    go_enter Try.func135, Try.ntmps135
    go_wp2
    go_ret
    exact ⟨ret_bool (by simp [h]), by (repeat' (first | (with_reducible exact Below.refl _ _) | (with_reducible assumption) | (with_reducible refine Below.alloc ?_ ?_ _) | (with_reducible refine Below.setCell ?_ ?_ _) | (with_reducible refine below_row ?_ ?_ _) | (with_reducible refine Below.drew ?_) | (with_reducible refine below_drewN ?_ _) | (with_reducible refine Below.trans ?_ (Below.mono (by assumption) ?_)) | (first | exact Nat.le_refl _ | omega | (simp; done) | (simp; omega) | (exact Below.size (by assumption)))))⟩
set_option maxHeartbeats 2000000 in
theorem isMade_long (cb : Array Value) (d l : Int) (it : List (Int × Int)) (di : List D3) (A : Option Addr) (c : Nat) (vd : Value) (w : World) (hl : ¬ (1 ≤ it.length ∧ it.length ≤ 8)) :
    Calls Try.prog 135 #[.agg cb, .agg #[.int .i64 d, .int .i64 l, .int .u8 1, .slice A it.length c, vd]] w fun e w' => e = .returned (.bool (madeB ⟨d, l, 1, it, di⟩)) ∧ Below w.heap.size w w' := by
  unfold madeB
  simp only
  rw [if_pos trivial]
  have h0 : inB 1 8 (it.length : Int) = false := by unfold inB; simp; omega
  rw [h0, Bool.false_and]
  have H1 := Lib.hid (sone 1 8 (it.length : Int) _ h0)
  generalize it.length = n at *
  go_enter Try.func135, Try.ntmps135
  go_wp2_with fail
  refine (H1.out _ _ _ ((Lies.new (by simp)).cell 0)).mono ?_
  rintro e w1 ⟨rfl, hb1⟩
  have s1 := hb1.size; try simp only [World.size_alloc, World.size_setCell, World.size_drew, setRow_size] at s1
  go_wp2_with fail
  go_ret
  exact ⟨rfl, by (repeat' (first | (with_reducible exact Below.refl _ _) | (with_reducible assumption) | (with_reducible refine Below.alloc ?_ ?_ _) | (with_reducible refine Below.setCell ?_ ?_ _) | (with_reducible refine below_row ?_ ?_ _) | (with_reducible refine Below.drew ?_) | (with_reducible refine below_drewN ?_ _) | (with_reducible refine Below.trans ?_ (Below.mono (by assumption) ?_)) | (first | exact Nat.le_refl _ | omega | (simp; done) | (simp; omega) | (exact Below.size (by assumption)))))⟩
set_option maxHeartbeats 4000000 in
set_option maxRecDepth 100000 in
theorem isMade_go (cb : Array Value) (d l : Int) (it : List (Int × Int)) (di : List D3) (b off : Nat) (c : Nat) (vd : Value) (w : World) (hl : 1 ≤ it.length ∧ it.length ≤ 8)
    (hc : ∀ i (h : i < it.length), w.cell? ⟨b, off + i * 2, none⟩ = some (.int .i64 it[i].1) ∧ w.cell? ⟨b, off + i * 2 + 1, none⟩ = some (.int .i64 it[i].2)) :
    Calls Try.prog 135 #[.agg cb, .agg #[.int .i64 d, .int .i64 l, .int .u8 1, .slice (some ⟨b, off, none⟩) it.length c, vd]] w fun e w' => e = .returned (.bool (madeB ⟨d, l, 1, it, di⟩)) ∧ Below w.heap.size w w' := by
  have HC := Lib.hid hc
  clear hc
  unfold madeB
  simp only
  rw [if_pos trivial]
  have h0 : inB 1 8 (it.length : Int) = true := by unfold inB; simp; omega
  rw [h0, Bool.true_and]
  have H1 := Lib.hid (sone 1 8 (it.length : Int) _ h0)
  have H2 := Lib.hid (fun x r h => sone 1 20 x r h)
  go_enter Try.func135, Try.ntmps135
  go_wp2_with fail
  refine (H1.out _ _ _ ((Lies.new (by simp)).cell 0)).mono ?_
  rintro e w1 ⟨rfl, hb1⟩
  have s1 := hb1.size; try simp only [World.size_alloc, World.size_setCell, World.size_drew, setRow_size] at s1
  have LX := (Lies.new (u := w.alloc (.cells cb 45)) (t := 45) (cs := #[.int .i64 d, .int .i64 l, .int .u8 1, .slice (some ⟨b, off, none⟩) it.length c, vd]) rfl).keep (w' := w1) (B := w.heap.size + 2) (Below.trans (by (repeat' (first | (with_reducible exact Below.refl _ _) | (with_reducible assumption) | (with_reducible refine Below.alloc ?_ ?_ _) | (with_reducible refine Below.setCell ?_ ?_ _) | (with_reducible refine below_row ?_ ?_ _) | (with_reducible refine Below.drew ?_) | (with_reducible refine below_drewN ?_ _) | (with_reducible refine Below.trans ?_ (Below.mono (by assumption) ?_)) | (first | exact Nat.le_refl _ | omega | (simp; done) | (simp; omega) | (exact Below.size (by assumption)))))) (hb1.mono (by simp))) (by simp)
  simp only [World.size_alloc] at LX
  have B1 : Below w.heap.size w w1 := by (repeat' (first | (with_reducible exact Below.refl _ _) | (with_reducible assumption) | (with_reducible refine Below.alloc ?_ ?_ _) | (with_reducible refine Below.setCell ?_ ?_ _) | (with_reducible refine below_row ?_ ?_ _) | (with_reducible refine Below.drew ?_) | (with_reducible refine below_drewN ?_ _) | (with_reducible refine Below.trans ?_ (Below.mono (by assumption) ?_)) | (first | exact Nat.le_refl _ | omega | (simp; done) | (simp; omega) | (exact Below.size (by assumption)))))
  clear hb1
  have HX := Lib.hid LX
  have x3 := LX.cell 3
  have zX := LX.lt
  clear LX
  go_wp2_with fail
  clear x3
  go_loopw [5, 25] (fun la i wr => ∃ (k : Nat) (p : Int), k ≤ it.length ∧ i = .int .i64 k ∧ la = .int .i64 p ∧ Hid (itemsB d p (it.drop k) = itemsB d 0 it) ∧ Below w.heap.size w wr ∧ Hid (Lies wr (w.heap.size + 1) 45 #[.int .i64 d, .int .i64 l, .int .u8 1, .slice (some ⟨b, off, none⟩) it.length c, vd])) (fun _ i _ => it.length - (intOf i).toNat)
  case atStart => exact ⟨0, 0, by omega, rfl, rfl, Lib.hid rfl, B1, HX⟩
  case round =>
    obtain ⟨k, p, hk, rfl, rfl, HG, hb, HX2⟩ := hrel
    have hz := hb.size
    have x0 := HX2.out.cell 0
    have zX2 := HX2.out.lt
    by_cases hlt : k < it.length
    · obtain ⟨q0, q1⟩ := HC.out k hlt
      have hbl : b < w.heap.size := World.block_lt_of_cell? w _ q0
      have r0 := (hb.cell (p := ⟨b, off + k * 2, none⟩) hbl).trans q0
      have r1 := (hb.cell (p := ⟨b, off + k * 2 + 1, none⟩) hbl).trans q1
      clear q0 q1
      have HS := Lib.hid (fun h1 h2 h3 => itemsB_step (d := d) (last := p) hlt h1 h2 h3)
      have HT := Lib.hid (fun h1 => itemsB_stop (d := d) (last := p) hlt h1)
      obtain ⟨e, he⟩ : ∃ e, it[k] = e := ⟨_, rfl⟩
      rw [he] at r0 r1 HS HT
      obtain ⟨e1, e2⟩ := e
      simp only at r0 r1 HS HT
      clear he
      by_cases h1 : e1 = d
      · have HR := Lib.hid ((HT.out (.inl h1)).symm.trans HG.out)
        subst h1
        go_wp2
        go_ret
        exact ⟨ret_bool HR.out, by (repeat' (first | (with_reducible exact Below.refl _ _) | (with_reducible assumption) | (with_reducible refine Below.alloc ?_ ?_ _) | (with_reducible refine Below.setCell ?_ ?_ _) | (with_reducible refine below_row ?_ ?_ _) | (with_reducible refine Below.drew ?_) | (with_reducible refine below_drewN ?_ _) | (with_reducible refine Below.trans ?_ (Below.mono (by assumption) ?_)) | (first | exact Nat.le_refl _ | omega | (simp; done) | (simp; omega) | (exact Below.size (by assumption)))))⟩
      · have h1' : (e1 == d) = false := by rw [beq_eq_false_iff_ne]; exact h1
        by_cases h2 : e1 ≤ p
        · have HR := Lib.hid ((HT.out (.inr (.inl h2))).symm.trans HG.out)
          go_wp2
          go_ret
          exact ⟨ret_bool HR.out, by (repeat' (first | (with_reducible exact Below.refl _ _) | (with_reducible assumption) | (with_reducible refine Below.alloc ?_ ?_ _) | (with_reducible refine Below.setCell ?_ ?_ _) | (with_reducible refine below_row ?_ ?_ _) | (with_reducible refine Below.drew ?_) | (with_reducible refine below_drewN ?_ _) | (with_reducible refine Below.trans ?_ (Below.mono (by assumption) ?_)) | (first | exact Nat.le_refl _ | omega | (simp; done) | (simp; omega) | (exact Below.size (by assumption)))))⟩
        · by_cases h3 : 1 ≤ e2 ∧ e2 ≤ 20
          · have HR := Lib.hid ((HS.out h1 h2 h3).symm.trans HG.out)
            have HW := Lib.hid (H2.out e2 true (by unfold inB; simp [h3]))
            go_wp2_with fail
            refine (HW.out _ _ _ ((Lies.new (by simp)).cell 0)).mono ?_
            rintro e w2 ⟨rfl, hb2⟩
            have s2 := hb2.size; try simp only [World.size_alloc, World.size_setCell, World.size_drew, setRow_size] at s2
            have LI := ((Lies.made wr 52 #[.int .i64 e1, .int .i64 e2]).alloc (.cells #[.int .i64 e2] 3)).after hb2
            have i0 := LI.cell 0
            have zI := LI.lt
            clear LI
            have HX3 := Lib.hid (((HX2.out.alloc (.cells #[.int .i64 e1, .int .i64 e2] 52)).alloc (.cells #[.int .i64 e2] 3)).after hb2)
            have hb3 : Below w.heap.size w w2 := by (repeat' (first | (with_reducible exact Below.refl _ _) | (with_reducible assumption) | (with_reducible refine Below.alloc ?_ ?_ _) | (with_reducible refine Below.setCell ?_ ?_ _) | (with_reducible refine below_row ?_ ?_ _) | (with_reducible refine Below.drew ?_) | (with_reducible refine below_drewN ?_ _) | (with_reducible refine Below.trans ?_ (Below.mono (by assumption) ?_)) | (first | exact Nat.le_refl _ | omega | (simp; done) | (simp; omega) | (exact Below.size (by assumption)))))
            clear hb2
            go_wp2_with fail
            go_roundw
            case rel => exact ⟨k + 1, e1, by omega, by go_num, rfl, HR, hb3, HX3⟩
            case measure => simp [intOf]; omega
          · have HR := Lib.hid ((HT.out (.inr (.inr h3))).symm.trans HG.out)
            have HW := Lib.hid (H2.out e2 false (by unfold inB; simp only [decide_eq_false_iff_not]; exact h3))
            go_wp2_with fail
            refine (HW.out _ _ _ ((Lies.new (by simp)).cell 0)).mono ?_
            rintro e w2 ⟨rfl, hb2⟩
            have s2 := hb2.size; try simp only [World.size_alloc, World.size_setCell, World.size_drew, setRow_size] at s2
            go_wp2_with fail
            go_ret
            exact ⟨ret_bool HR.out, by (repeat' (first | (with_reducible exact Below.refl _ _) | (with_reducible assumption) | (with_reducible refine Below.alloc ?_ ?_ _) | (with_reducible refine Below.setCell ?_ ?_ _) | (with_reducible refine below_row ?_ ?_ _) | (with_reducible refine Below.drew ?_) | (with_reducible refine below_drewN ?_ _) | (with_reducible refine Below.trans ?_ (Below.mono (by assumption) ?_)) | (first | exact Nat.le_refl _ | omega | (simp; done) | (simp; omega) | (exact Below.size (by assumption)))))⟩
    · have hke : k = it.length := by omega
      have HR := Lib.hid HG.out
      rw [hke, List.drop_length, itemsB] at HR
      clear HG
      subst hke
      go_wp2
      go_ret
      exact ⟨ret_bool HR.out, by (repeat' (first | (with_reducible exact Below.refl _ _) | (with_reducible assumption) | (with_reducible refine Below.alloc ?_ ?_ _) | (with_reducible refine Below.setCell ?_ ?_ _) | (with_reducible refine below_row ?_ ?_ _) | (with_reducible refine Below.drew ?_) | (with_reducible refine below_drewN ?_ _) | (with_reducible refine Below.trans ?_ (Below.mono (by assumption) ?_)) | (first | exact Nat.le_refl _ | omega | (simp; done) | (simp; omega) | (exact Below.size (by assumption)))))⟩
end Go.Proofs.Ytngaepgepcnhkaa
