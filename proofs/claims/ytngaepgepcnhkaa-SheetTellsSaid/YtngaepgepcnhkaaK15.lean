/- The reference: Dim, Issue. -/
import Derived.Test.YtngaepgepcnhkaaJ3
import Derived.Test.YtngaepgepcnhkaaA1
namespace Go.Proofs.Ytngaepgepcnhkaa
set_option linter.unusedVariables false
set_option linter.unusedSimpArgs false
open Go.RowKit

set_option maxHeartbeats 400000 in
theorem r1within_any (a lo hi : Int) (w : World) : Calls Try.prog 138 #[.int .i64 a, .int .i64 lo, .int .i64 hi] w fun e w' => e = .returned (.bool (inB lo hi a)) ∧ w = w' := by
  unfold inB
  by_cases h1 : lo ≤ a <;> by_cases h2 : a ≤ hi
  all_goals
    go_enter Try.func138, Try.ntmps138
    go_wp2
    go_ret
    exact ⟨ret_bool (by simp [h1, h2]), rfl⟩
set_option maxHeartbeats 1000000 in
theorem rDim_any (n l u : Int) (w : World) : Calls Try.prog 130 #[.agg #[.int .i64 n, .int .i64 l, .int .i64 u]] w fun e w' => e = .returned (.bool (okD n l u)) ∧ Below w.heap.size w w' := by
  have hok : okD n l u = (inB 0 1000000000 n && inB 0 1000000000 u && inB 0 u l) := by
    unfold okD inB
    rw [Bool.eq_iff_iff]
    simp only [decide_eq_true_eq, Bool.and_eq_true]
    omega
  rw [hok]
  have H1 := Lib.hid (fun W => r1within_any n 0 1000000000 W)
  have H2 := Lib.hid (fun W => r1within_any u 0 1000000000 W)
  have H3 := Lib.hid (fun W => r1within_any l 0 u W)
  clear hok
  generalize inB 0 1000000000 n = p at *
  generalize inB 0 1000000000 u = q at *
  generalize inB 0 u l = r at *
  cases p
  · go_enter Try.func130, Try.ntmps130
    go_wp2_with fail
    refine (H1.out _).mono ?_
    rintro e w1 ⟨rfl, rfl⟩
    go_wp2
    go_ret
    exact ⟨rfl, by (repeat' (first | (with_reducible exact Below.refl _ _) | (with_reducible assumption) | (with_reducible refine Below.alloc ?_ ?_ _) | (with_reducible refine Below.setCell ?_ ?_ _) | (with_reducible refine below_row ?_ ?_ _) | (with_reducible refine Below.drew ?_) | (with_reducible refine below_drewN ?_ _) | (with_reducible refine Below.trans ?_ (Below.mono (by assumption) ?_)) | (first | exact Nat.le_refl _ | omega | (simp; done) | (simp; omega) | (exact Below.size (by assumption)))))⟩
  · cases q
    · go_enter Try.func130, Try.ntmps130
      go_wp2_with fail
      refine (H1.out _).mono ?_
      rintro e w1 ⟨rfl, rfl⟩
      go_wp2_with fail
      refine (H2.out _).mono ?_
      rintro e w1 ⟨rfl, rfl⟩
      go_wp2
      go_ret
      exact ⟨rfl, by (repeat' (first | (with_reducible exact Below.refl _ _) | (with_reducible assumption) | (with_reducible refine Below.alloc ?_ ?_ _) | (with_reducible refine Below.setCell ?_ ?_ _) | (with_reducible refine below_row ?_ ?_ _) | (with_reducible refine Below.drew ?_) | (with_reducible refine below_drewN ?_ _) | (with_reducible refine Below.trans ?_ (Below.mono (by assumption) ?_)) | (first | exact Nat.le_refl _ | omega | (simp; done) | (simp; omega) | (exact Below.size (by assumption)))))⟩
    · go_enter Try.func130, Try.ntmps130
      go_wp2_with fail
      refine (H1.out _).mono ?_
      rintro e w1 ⟨rfl, rfl⟩
      go_wp2_with fail
      refine (H2.out _).mono ?_
      rintro e w1 ⟨rfl, rfl⟩
      go_wp2_with fail
      refine (H3.out _).mono ?_
      rintro e w1 ⟨rfl, rfl⟩
      go_wp2
      go_ret
      exact ⟨rfl, by (repeat' (first | (with_reducible exact Below.refl _ _) | (with_reducible assumption) | (with_reducible refine Below.alloc ?_ ?_ _) | (with_reducible refine Below.setCell ?_ ?_ _) | (with_reducible refine below_row ?_ ?_ _) | (with_reducible refine Below.drew ?_) | (with_reducible refine below_drewN ?_ _) | (with_reducible refine Below.trans ?_ (Below.mono (by assumption) ?_)) | (first | exact Nat.le_refl _ | omega | (simp; done) | (simp; omega) | (exact Below.size (by assumption)))))⟩

/-- An issue's head and its lists' lengths. -/
def headR (x : Iss) : Bool := namedB x && (if x.k = 1 then inB 1 8 x.items.length && decide (x.dims.length = 0) else decide (x.dims.length ≤ 4) && decide (x.items.length = 0))
/-- An item, behind another one. -/
def itemR (d : Int) (l : List (Int × Int)) (j : Nat) : Bool := if h : j < l.length then inB 1 9999 l[j].1 && inB 1 20 l[j].2 && !decide (l[j].1 = d) && (decide (j = 0) || decide ((l[j - 1]'(by omega)).1 < l[j].1)) else true
def itemsR (d : Int) (l : List (Int × Int)) : Bool := (List.range l.length).all (itemR d l)
def dimsR (l : List D3) : Bool := l.all fun d => okD d.1 d.2.1 d.2.2
def issueR (x : Iss) : Bool := headR x && itemsR x.d x.items && dimsR x.dims
theorem itemsR_no {d : Int} {l : List (Int × Int)} {j : Nat} (h : j < l.length) (hb : itemR d l j = false) : itemsR d l = false := by
  unfold itemsR; rw [List.all_eq_false]; exact ⟨j, List.mem_range.2 h, by rw [hb]; simp⟩
theorem itemsR_yes {d : Int} {l : List (Int × Int)} (h : ∀ j, j < l.length → itemR d l j = true) : itemsR d l = true := by
  unfold itemsR; rw [List.all_eq_true]; exact fun j hj => h j (List.mem_range.1 hj)

set_option maxRecDepth 100000 in
set_option maxHeartbeats 8000000 in
theorem rIssue_head (x : Iss) (vi vd : Value) (w : World) (hk : 0 ≤ x.k ∧ x.k ≤ 255) (hl1 : x.items.length ≤ 1000) (hl2 : x.dims.length ≤ 1000) (h1 : ItemsAt w vi x.items) (h2 : DimsAt w vd x.dims) (hh : headR x = false) :
    Calls Try.prog 116 #[.agg #[.int .i64 x.d, .int .i64 x.l, .int .u8 x.k, vi, vd]] w fun e w' => e = .returned (.bool false) ∧ Below w.heap.size w w' := by
  obtain ⟨d, l, k, il, dl⟩ := x
  simp only at hk hl1 hl2 h1 h2 hh ⊢
  obtain ⟨A1, c1, b1, o1, rfl, -, -⟩ := h1
  obtain ⟨A2, c2, b2, o2, rfl, -, -⟩ := h2
  unfold headR namedB at hh
  simp only at hh
  have H1 := Lib.hid (fun W => rwithin_any d 1 9999 W)
  have H2 := Lib.hid (fun W => rwithin_any l 1 8 W)
  have H3 := Lib.hid (fun W => rwithin_any k 1 3 W)
  have H4 := Lib.hid (fun W => rwithin_any (il.length : Int) 1 8 W)
  have hkk : inB 1 3 k = true → 1 ≤ k ∧ k ≤ 3 := by unfold inB; simp
  have hk2 : IntKind.i64.wrap k = k := by simp [IntKind.wrap, IntKind.bits, IntKind.signed]; omega
  have HH := Lib.hid hh
  have HKK := Lib.hid hkk
  clear hh hkk
  generalize inB 1 9999 d = p1 at *
  generalize inB 1 8 l = p2 at *
  generalize inB 1 3 k = p3 at *
  generalize inB 1 8 (il.length : Int) = p4 at *
  cases p1
  · go_enter Try.func116, Try.ntmps116
    go_wp2_with fail
    refine (H1.out _).mono ?_
    rintro e w1 ⟨rfl, rfl⟩
    go_wp2
    go_ret
    exact ⟨rfl, by (repeat' (first | (with_reducible exact Below.refl _ _) | (with_reducible assumption) | (with_reducible refine Below.alloc ?_ ?_ _) | (with_reducible refine Below.setCell ?_ ?_ _) | (with_reducible refine below_row ?_ ?_ _) | (with_reducible refine Below.drew ?_) | (with_reducible refine below_drewN ?_ _) | (with_reducible refine Below.trans ?_ (Below.mono (by assumption) ?_)) | (first | exact Nat.le_refl _ | omega | (simp; done) | (simp; omega) | (exact Below.size (by assumption)))))⟩
  cases p2
  · go_enter Try.func116, Try.ntmps116
    go_wp2_with fail
    refine (H1.out _).mono ?_
    rintro e w1 ⟨rfl, rfl⟩
    go_wp2_with fail
    refine (H2.out _).mono ?_
    rintro e w1 ⟨rfl, rfl⟩
    go_wp2
    go_ret
    exact ⟨rfl, by (repeat' (first | (with_reducible exact Below.refl _ _) | (with_reducible assumption) | (with_reducible refine Below.alloc ?_ ?_ _) | (with_reducible refine Below.setCell ?_ ?_ _) | (with_reducible refine below_row ?_ ?_ _) | (with_reducible refine Below.drew ?_) | (with_reducible refine below_drewN ?_ _) | (with_reducible refine Below.trans ?_ (Below.mono (by assumption) ?_)) | (first | exact Nat.le_refl _ | omega | (simp; done) | (simp; omega) | (exact Below.size (by assumption)))))⟩
  cases p3
  · go_enter Try.func116, Try.ntmps116
    go_wp2_with fail
    refine (H1.out _).mono ?_
    rintro e w1 ⟨rfl, rfl⟩
    go_wp2_with fail
    refine (H2.out _).mono ?_
    rintro e w1 ⟨rfl, rfl⟩
    go_wp2_with fail
    refine (H3.out _).mono ?_
    rintro e w1 ⟨rfl, rfl⟩
    go_wp2
    go_ret
    exact ⟨rfl, by (repeat' (first | (with_reducible exact Below.refl _ _) | (with_reducible assumption) | (with_reducible refine Below.alloc ?_ ?_ _) | (with_reducible refine Below.setCell ?_ ?_ _) | (with_reducible refine below_row ?_ ?_ _) | (with_reducible refine Below.drew ?_) | (with_reducible refine below_drewN ?_ _) | (with_reducible refine Below.trans ?_ (Below.mono (by assumption) ?_)) | (first | exact Nat.le_refl _ | omega | (simp; done) | (simp; omega) | (exact Below.size (by assumption)))))⟩
  obtain ⟨k1, k3⟩ := HKK.out rfl
  by_cases hk1 : k = 1
  · subst hk1
    have HH2 : Hid ((p4 && decide (dl.length = 0)) = false) := Lib.hid (by have := HH.out; rw [if_pos rfl] at this; simpa using this)
    clear HH
    cases p4
    · go_enter Try.func116, Try.ntmps116
      go_wp2_with fail
      refine (H1.out _).mono ?_
      rintro e w1 ⟨rfl, rfl⟩
      go_wp2_with fail
      refine (H2.out _).mono ?_
      rintro e w1 ⟨rfl, rfl⟩
      go_wp2_with fail
      refine (H3.out _).mono ?_
      rintro e w1 ⟨rfl, rfl⟩
      go_wp2_with fail
      refine (H4.out _).mono ?_
      rintro e w1 ⟨rfl, rfl⟩
      go_wp2
      go_ret
      exact ⟨rfl, by (repeat' (first | (with_reducible exact Below.refl _ _) | (with_reducible assumption) | (with_reducible refine Below.alloc ?_ ?_ _) | (with_reducible refine Below.setCell ?_ ?_ _) | (with_reducible refine below_row ?_ ?_ _) | (with_reducible refine Below.drew ?_) | (with_reducible refine below_drewN ?_ _) | (with_reducible refine Below.trans ?_ (Below.mono (by assumption) ?_)) | (first | exact Nat.le_refl _ | omega | (simp; done) | (simp; omega) | (exact Below.size (by assumption)))))⟩
    · have hdn : 0 < dl.length := by have := HH2.out; simp at this; exact List.length_pos_iff.2 this
      have hdl : 0 < (dl.length : Int) := by omega
      go_enter Try.func116, Try.ntmps116
      go_wp2_with fail
      refine (H1.out _).mono ?_
      rintro e w1 ⟨rfl, rfl⟩
      go_wp2_with fail
      refine (H2.out _).mono ?_
      rintro e w1 ⟨rfl, rfl⟩
      go_wp2_with fail
      refine (H3.out _).mono ?_
      rintro e w1 ⟨rfl, rfl⟩
      go_wp2_with fail
      refine (H4.out _).mono ?_
      rintro e w1 ⟨rfl, rfl⟩
      go_wp2
      go_ret
      exact ⟨rfl, by (repeat' (first | (with_reducible exact Below.refl _ _) | (with_reducible assumption) | (with_reducible refine Below.alloc ?_ ?_ _) | (with_reducible refine Below.setCell ?_ ?_ _) | (with_reducible refine below_row ?_ ?_ _) | (with_reducible refine Below.drew ?_) | (with_reducible refine below_drewN ?_ _) | (with_reducible refine Below.trans ?_ (Below.mono (by assumption) ?_)) | (first | exact Nat.le_refl _ | omega | (simp; done) | (simp; omega) | (exact Below.size (by assumption)))))⟩
  · have HH2 : Hid ((decide (dl.length ≤ 4) && decide (il.length = 0)) = false) := Lib.hid (by have := HH.out; rw [if_neg hk1] at this; simpa using this)
    have hkb : (k == 1) = false := by rw [beq_eq_false_iff_ne]; exact hk1
    have hkg : 1 < k := by omega
    clear HH
    by_cases h4 : dl.length ≤ 4
    · have hd4 : ¬ (4 : Int) < (dl.length : Int) := by omega
      have hd4d : decide ((4 : Int) < (dl.length : Int)) = false := by simpa using hd4
      have hin : 0 < il.length := by have := HH2.out; simp [h4] at this; exact List.length_pos_iff.2 this
      have hil : 0 < (il.length : Int) := by omega
      have hd4n : ¬ 4 < dl.length := by omega
      go_enter Try.func116, Try.ntmps116
      go_wp2_with fail
      refine (H1.out _).mono ?_
      rintro e w1 ⟨rfl, rfl⟩
      go_wp2_with fail
      refine (H2.out _).mono ?_
      rintro e w1 ⟨rfl, rfl⟩
      go_wp2_with fail
      refine (H3.out _).mono ?_
      rintro e w1 ⟨rfl, rfl⟩
      go_wp2
      go_ret
      exact ⟨rfl, by (repeat' (first | (with_reducible exact Below.refl _ _) | (with_reducible assumption) | (with_reducible refine Below.alloc ?_ ?_ _) | (with_reducible refine Below.setCell ?_ ?_ _) | (with_reducible refine below_row ?_ ?_ _) | (with_reducible refine Below.drew ?_) | (with_reducible refine below_drewN ?_ _) | (with_reducible refine Below.trans ?_ (Below.mono (by assumption) ?_)) | (first | exact Nat.le_refl _ | omega | (simp; done) | (simp; omega) | (exact Below.size (by assumption)))))⟩
    · have hd4 : (4 : Int) < (dl.length : Int) := by omega
      go_enter Try.func116, Try.ntmps116
      go_wp2_with fail
      refine (H1.out _).mono ?_
      rintro e w1 ⟨rfl, rfl⟩
      go_wp2_with fail
      refine (H2.out _).mono ?_
      rintro e w1 ⟨rfl, rfl⟩
      go_wp2_with fail
      refine (H3.out _).mono ?_
      rintro e w1 ⟨rfl, rfl⟩
      go_wp2
      go_ret
      exact ⟨rfl, by (repeat' (first | (with_reducible exact Below.refl _ _) | (with_reducible assumption) | (with_reducible refine Below.alloc ?_ ?_ _) | (with_reducible refine Below.setCell ?_ ?_ _) | (with_reducible refine below_row ?_ ?_ _) | (with_reducible refine Below.drew ?_) | (with_reducible refine below_drewN ?_ _) | (with_reducible refine Below.trans ?_ (Below.mono (by assumption) ?_)) | (first | exact Nat.le_refl _ | omega | (simp; done) | (simp; omega) | (exact Below.size (by assumption)))))⟩
theorem headR_iff {x : Iss} : headR x = true ↔ namedB x = true ∧ ((x.k = 1 ∧ inB 1 8 x.items.length = true ∧ x.dims.length = 0) ∨ (x.k ≠ 1 ∧ x.dims.length ≤ 4 ∧ x.items.length = 0)) := by
  unfold headR
  by_cases h : x.k = 1
  · simp [h]
  · simp [h]
set_option maxRecDepth 100000 in
set_option maxHeartbeats 8000000 in
theorem rIssue_body (d l k : Int) (il : List (Int × Int)) (dl : List D3) (A1 A2 : Option Addr) (c1 c2 b1 o1 b2 o2 : Nat) (w : World) (hl1 : il.length ≤ 1000) (hl2 : dl.length ≤ 1000)
    (hA1 : 0 < il.length → A1 = some ⟨b1, o1, none⟩) (hc1 : ∀ i (h : i < il.length), w.cell? ⟨b1, o1 + i * 2, none⟩ = some (.int .i64 il[i].1) ∧ w.cell? ⟨b1, o1 + i * 2 + 1, none⟩ = some (.int .i64 il[i].2))
    (hA2 : 0 < dl.length → A2 = some ⟨b2, o2, none⟩) (hc2 : cellsD w b2 o2 dl) (p1 : inB 1 9999 d = true) (p2 : inB 1 8 l = true) (p3 : inB 1 3 k = true)
    (hk : (k = 1 ∧ inB 1 8 il.length = true ∧ dl.length = 0) ∨ (k ≠ 1 ∧ dl.length ≤ 4 ∧ il.length = 0)) :
    Calls Try.prog 116 #[.agg #[.int .i64 d, .int .i64 l, .int .u8 k, .slice A1 il.length c1, .slice A2 dl.length c2]] w fun e w' => e = .returned (.bool (itemsR d il && dimsR dl)) ∧ Below w.heap.size w w' := by
  have H1 := Lib.hid (fun W => rwithin_any d 1 9999 W)
  have H2 := Lib.hid (fun W => rwithin_any l 1 8 W)
  have H3 := Lib.hid (fun W => rwithin_any k 1 3 W)
  have H4 := Lib.hid (fun W => rwithin_any (il.length : Int) 1 8 W)
  have hkk : 1 ≤ k ∧ k ≤ 3 := by unfold inB at p3; simpa using p3
  have hk2 : IntKind.i64.wrap k = k := IntWalk.i64_in _ (by omega)
  rw [p1] at H1
  rw [p2] at H2
  rw [p3] at H3
  have HA1 := Lib.hid hA1
  have HA2 := Lib.hid hA2
  have HC1 := Lib.hid hc1
  have HC2 := Lib.hid hc2
  clear p1 p2 p3 hA1 hA2 hc1 hc2
  have HD0 := Lib.hid (Lies.made w 45 #[.int .i64 d, .int .i64 l, .int .u8 k, .slice A1 il.length c1, .slice A2 dl.length c2])
  rcases hk with ⟨hk1, hin, hdz⟩ | ⟨hk1, hd4, hiz⟩
  · subst hk1
    obtain rfl : dl = [] := List.length_eq_zero_iff.1 hdz
    rw [hin] at H4
    have HIN := Lib.hid hin
    rw [show dimsR [] = true from rfl, Bool.and_true]
    clear hin hdz
    go_enter Try.func116, Try.ntmps116
    go_wp2_with fail
    refine (H1.out _).mono ?_
    rintro e w1 ⟨rfl, rfl⟩
    go_wp2_with fail
    refine (H2.out _).mono ?_
    rintro e w1 ⟨rfl, rfl⟩
    go_wp2_with fail
    refine (H3.out _).mono ?_
    rintro e w1 ⟨rfl, rfl⟩
    go_wp2_with fail
    refine (H4.out _).mono ?_
    rintro e w1 ⟨rfl, rfl⟩
    go_wp2_with fail
    go_loopw [3] (fun i wr => ∃ (j : Nat), j ≤ il.length ∧ i = .int .i64 j ∧ Hid (∀ p, p < il.length → p < j → itemR d il p = true) ∧ Hid (Lies wr w.heap.size 45 #[.int .i64 d, .int .i64 l, .int .u8 1, .slice A1 il.length c1, .slice A2 0 c2]) ∧ Below w.heap.size w wr) (fun i _ => il.length - (intOf i).toNat)
    case atStart => exact ⟨0, by omega, rfl, Lib.hid (fun p hp h => by omega), HD0, by (repeat' (first | (with_reducible exact Below.refl _ _) | (with_reducible assumption) | (with_reducible refine Below.alloc ?_ ?_ _) | (with_reducible refine Below.setCell ?_ ?_ _) | (with_reducible refine below_row ?_ ?_ _) | (with_reducible refine Below.drew ?_) | (with_reducible refine below_drewN ?_ _) | (with_reducible refine Below.trans ?_ (Below.mono (by assumption) ?_)) | (first | exact Nat.le_refl _ | omega | (simp; done) | (simp; omega) | (exact Below.size (by assumption)))))⟩
    case round =>
      obtain ⟨j, hj, rfl, HJ, HD, hb⟩ := hrel
      have hz := hb.size
      have x0 := HD.out.cell 0
      have x3 := HD.out.cell 3
      have zd := HD.out.lt
      by_cases hlt : j < il.length
      · obtain rfl := HA1.out (by omega)
        have r0 := cell_keep hb (HC1.out j hlt).1
        have r1 := cell_keep hb (HC1.out j hlt).2
        have kl1 : (j : Int) < (il.length : Int) := by omega
        have HIR : Hid (itemR d il j = (inB 1 9999 il[j].1 && inB 1 20 il[j].2 && !decide (il[j].1 = d) && (decide (j = 0) || decide ((il[j - 1]'(by omega)).1 < il[j].1)))) := Lib.hid (by unfold itemR; rw [dif_pos hlt])
        have HNO : Hid (itemR d il j = false → itemsR d il = false) := Lib.hid (fun h => itemsR_no hlt h)
        have HYE : Hid (itemR d il j = true → ∀ p, p < il.length → p < j + 1 → itemR d il p = true) := Lib.hid (fun h p hp hpj => by
          by_cases e : p = j
          · subst e; exact h
          · exact HJ.out p hp (by omega))
        have hj1 : j - 1 < il.length := by omega
        have hblk : b1 < wr.heap.size := World.block_lt_of_cell? wr _ r0
        have p0 := cell_keep hb (HC1.out (j - 1) hj1).1
        have HPE : Hid (∃ pe : Int, (il[j - 1]'hj1).1 = pe) := Lib.hid ⟨_, rfl⟩
        obtain ⟨pe, hpe⟩ := HPE.out
        rw [hpe] at HIR p0
        clear hpe HPE
        obtain ⟨e, he⟩ : ∃ e, il[j] = e := ⟨_, rfl⟩
        rw [he] at r0 r1 HIR
        clear he
        obtain ⟨e1, e2⟩ := e
        simp only at r0 r1 HIR
        by_cases g1 : inB 1 9999 e1 = true
        · by_cases g2 : inB 1 20 e2 = true
          · by_cases g3 : e1 = d
            · have b3 : (e1 == d) = true := by simpa using g3
              have HR := Lib.hid (HNO.out (by rw [HIR.out, decide_eq_true g3]; simp))
              clear g3 p0
              go_wp2_with fail
              go_quiet ((go_at_call 115; exact Calls.quiet_of_same ((rwithin_any _ _ _ _).mono (fun e w' h => ⟨h.1, h.2.symm⟩))))
              go_wp2_with fail
              go_ret
              exact ⟨ret_bool HR.out.symm, (below_drewN hb _).alloc (by simp; exact hb.size) _⟩
            · have b3 : (e1 == d) = false := by simpa using g3
              by_cases g4 : j = 0
              · have HR := Lib.hid (HYE.out (by rw [HIR.out, g1, g2, decide_eq_false g3, decide_eq_true g4]; rfl))
                have b4 : ¬ (0 : Int) < (j : Int) := by omega
                have b4d : decide ((0 : Int) < (j : Int)) = false := by simpa using b4
                have b4n : ¬ 0 < j := by omega
                have b4nd : decide (0 < j) = false := by simpa using b4n
                clear g3 p0 g4
                go_wp2_with fail
                go_quiet ((go_at_call 115; exact Calls.quiet_of_same ((rwithin_any _ _ _ _).mono (fun e w' h => ⟨h.1, h.2.symm⟩))))
                go_wp2_with fail
                go_roundw
                case rel => exact ⟨j + 1, by omega, by go_num, HR, Lib.hid ((HD.out.drewN _).alloc _), (below_drewN hb _).alloc (by simp; exact hb.size) _⟩
                case measure => simp [intOf]; omega
              · have b4 : (0 : Int) < (j : Int) := by omega
                have b4n : 0 < j := by omega
                have b41 : 1 ≤ (j : Int) := by omega
                have b4l : (j : Int) - 1 < (il.length : Int) := by omega
                have b4w : IntKind.i64.wrap ((j : Int) - 1) = (j : Int) - 1 := IntWalk.i64_in _ (by omega)
                have b40 : 0 ≤ (j : Int) - 1 := by omega
                have b4t : ((j : Int) - 1).toNat = j - 1 := by omega
                by_cases g5 : pe < e1
                · have HR := Lib.hid (HYE.out (by rw [HIR.out, g1, g2, decide_eq_false g3, decide_eq_true g5]; simp))
                  have b5 : ¬ e1 ≤ pe := by omega
                  have b5d : decide (e1 ≤ pe) = false := by simpa using b5
                  clear g3 g4
                  go_wp2_with fail
                  go_quiet ((go_at_call 115; exact Calls.quiet_of_same ((rwithin_any _ _ _ _).mono (fun e w' h => ⟨h.1, h.2.symm⟩))))
                  go_wp2_with fail
                  go_roundw
                  case rel => exact ⟨j + 1, by omega, by go_num, HR, Lib.hid ((HD.out.drewN _).alloc _), (below_drewN hb _).alloc (by simp; exact hb.size) _⟩
                  case measure => simp [intOf]; omega
                · have HR := Lib.hid (HNO.out (by rw [HIR.out, decide_eq_false g4, decide_eq_false g5]; simp))
                  have b5 : e1 ≤ pe := by omega
                  have b5d : decide (e1 ≤ pe) = true := by simpa using b5
                  clear g3 g4 g5
                  go_wp2_with fail
                  go_quiet ((go_at_call 115; exact Calls.quiet_of_same ((rwithin_any _ _ _ _).mono (fun e w' h => ⟨h.1, h.2.symm⟩))))
                  go_wp2_with fail
                  go_ret
                  exact ⟨ret_bool HR.out.symm, (below_drewN hb _).alloc (by simp; exact hb.size) _⟩
          · have g2' : inB 1 20 e2 = false := by simpa using g2
            have HR := Lib.hid (HNO.out (by rw [HIR.out, g2']; simp))
            clear g2 p0
            go_wp2_with fail
            go_quiet ((go_at_call 115; exact Calls.quiet_of_same ((rwithin_any _ _ _ _).mono (fun e w' h => ⟨h.1, h.2.symm⟩))))
            go_wp2_with fail
            go_ret
            exact ⟨ret_bool HR.out.symm, (below_drewN hb _).alloc (by simp; exact hb.size) _⟩
        · have g1' : inB 1 9999 e1 = false := by simpa using g1
          have HR := Lib.hid (HNO.out (by rw [HIR.out, g1']; simp))
          clear g1 p0
          go_wp2_with fail
          go_quiet ((go_at_call 115; exact Calls.quiet_of_same ((rwithin_any _ _ _ _).mono (fun e w' h => ⟨h.1, h.2.symm⟩))))
          go_wp2_with fail
          go_ret
          exact ⟨ret_bool HR.out.symm, (below_drewN hb _).alloc (by simp; exact hb.size) _⟩
      · have HR : Hid (itemsR d il = true) := Lib.hid (itemsR_yes (fun p hp => HJ.out p hp (by omega)))
        go_wp2_with fail
        clear x0 x3 zd
        go_loopw [5] (fun i wr => i = .int .i64 0 ∧ Hid (Lies wr w.heap.size 45 #[.int .i64 d, .int .i64 l, .int .u8 1, .slice A1 il.length c1, .slice A2 0 c2]) ∧ Below w.heap.size w wr) (fun i _ => 0)
        case atStart => exact ⟨rfl, HD, hb⟩
        case round =>
          obtain ⟨rfl, HD2, hb2⟩ := hrel
          have y4 := HD2.out.cell 4
          have zd := HD2.out.lt
          go_wp2
          go_ret
          exact ⟨ret_bool HR.out.symm, hb2⟩
  · obtain rfl : il = [] := List.length_eq_zero_iff.1 hiz
    rw [show itemsR d [] = true from rfl, Bool.true_and]
    have hkb : (k == 1) = false := by rw [beq_eq_false_iff_ne]; exact hk1
    have hkg : 1 < k := by omega
    have hd4' : ¬ (4 : Int) < (dl.length : Int) := by omega
    have hd4d : decide ((4 : Int) < (dl.length : Int)) = false := by simpa using hd4'
    have hd4n : ¬ 4 < dl.length := by omega
    have hd4nd : decide (4 < dl.length) = false := by simpa using hd4n
    clear hiz hk1
    go_enter Try.func116, Try.ntmps116
    go_wp2_with fail
    refine (H1.out _).mono ?_
    rintro e w1 ⟨rfl, rfl⟩
    go_wp2_with fail
    refine (H2.out _).mono ?_
    rintro e w1 ⟨rfl, rfl⟩
    go_wp2_with fail
    refine (H3.out _).mono ?_
    rintro e w1 ⟨rfl, rfl⟩
    go_wp2_with fail
    go_loopw [3] (fun i wr => i = .int .i64 0 ∧ Hid (Lies wr w.heap.size 45 #[.int .i64 d, .int .i64 l, .int .u8 k, .slice A1 0 c1, .slice A2 dl.length c2]) ∧ Below w.heap.size w wr) (fun i _ => 0)
    case atStart => exact ⟨rfl, HD0, by (repeat' (first | (with_reducible exact Below.refl _ _) | (with_reducible assumption) | (with_reducible refine Below.alloc ?_ ?_ _) | (with_reducible refine Below.setCell ?_ ?_ _) | (with_reducible refine below_row ?_ ?_ _) | (with_reducible refine Below.drew ?_) | (with_reducible refine below_drewN ?_ _) | (with_reducible refine Below.trans ?_ (Below.mono (by assumption) ?_)) | (first | exact Nat.le_refl _ | omega | (simp; done) | (simp; omega) | (exact Below.size (by assumption)))))⟩
    case round =>
      obtain ⟨rfl, HD1, hb1⟩ := hrel
      have y3 := HD1.out.cell 3
      have zd1 := HD1.out.lt
      go_wp2_with fail
      clear y3 zd1
      go_loopw [5] (fun i wr => ∃ (j : Nat), j ≤ dl.length ∧ i = .int .i64 j ∧ Hid (∀ p (h : p < dl.length), p < j → okD dl[p].1 dl[p].2.1 dl[p].2.2 = true) ∧ Hid (Lies wr w.heap.size 45 #[.int .i64 d, .int .i64 l, .int .u8 k, .slice A1 0 c1, .slice A2 dl.length c2]) ∧ Below w.heap.size w wr) (fun i _ => dl.length - (intOf i).toNat)
      case atStart => exact ⟨0, by omega, rfl, Lib.hid (fun p hp h => by omega), HD1, hb1⟩
      case round =>
        obtain ⟨j, hj, rfl, HJ, HD, hb⟩ := hrel
        have x4 := HD.out.cell 4
        have zd := HD.out.lt
        by_cases hlt : j < dl.length
        · obtain rfl := HA2.out (by omega)
          have r0 := cell_keep hb (HC2.out j hlt).1
          have r1 := cell_keep hb (HC2.out j hlt).2.1
          have r2 := cell_keep hb (HC2.out j hlt).2.2
          have kl1 : (j : Int) < (dl.length : Int) := by omega
          have HNO : Hid (okD dl[j].1 dl[j].2.1 dl[j].2.2 = false → dimsR dl = false) := Lib.hid (fun h => by unfold dimsR; rw [List.all_eq_false]; exact ⟨dl[j], List.getElem_mem hlt, by rw [h]; simp⟩)
          have HYE : Hid (okD dl[j].1 dl[j].2.1 dl[j].2.2 = true → ∀ p (h : p < dl.length), p < j + 1 → okD dl[p].1 dl[p].2.1 dl[p].2.2 = true) := Lib.hid (fun h p hp hpj => by
            by_cases e : p = j
            · subst e; exact h
            · exact HJ.out p hp (by omega))
          obtain ⟨e, he⟩ : ∃ e, dl[j] = e := ⟨_, rfl⟩
          rw [he] at r0 r1 r2 HNO HYE
          clear he
          obtain ⟨n0, l0, u0⟩ := e
          simp only at r0 r1 r2 HNO HYE
          have HDM := Lib.hid (fun W => rDim_any n0 l0 u0 W)
          generalize okD n0 l0 u0 = ok at *
          cases ok
          · have HR := Lib.hid (HNO.out rfl)
            go_wp2_with fail
            refine (HDM.out _).mono ?_
            rintro e w1 ⟨rfl, hb2⟩
            have hb3 : Below w.heap.size w w1 := by (repeat' (first | (with_reducible exact Below.refl _ _) | (with_reducible assumption) | (with_reducible refine Below.alloc ?_ ?_ _) | (with_reducible refine Below.setCell ?_ ?_ _) | (with_reducible refine below_row ?_ ?_ _) | (with_reducible refine Below.drew ?_) | (with_reducible refine below_drewN ?_ _) | (with_reducible refine Below.trans ?_ (Below.mono (by assumption) ?_)) | (first | exact Nat.le_refl _ | omega | (simp; done) | (simp; omega) | (exact Below.size (by assumption)))))
            go_wp2
            go_ret
            exact ⟨ret_bool HR.out.symm, hb3⟩
          · have HR := Lib.hid (HYE.out rfl)
            go_wp2_with fail
            refine (HDM.out _).mono ?_
            rintro e w1 ⟨rfl, hb2⟩
            have hb3 : Below w.heap.size w w1 := by (repeat' (first | (with_reducible exact Below.refl _ _) | (with_reducible assumption) | (with_reducible refine Below.alloc ?_ ?_ _) | (with_reducible refine Below.setCell ?_ ?_ _) | (with_reducible refine below_row ?_ ?_ _) | (with_reducible refine Below.drew ?_) | (with_reducible refine below_drewN ?_ _) | (with_reducible refine Below.trans ?_ (Below.mono (by assumption) ?_)) | (first | exact Nat.le_refl _ | omega | (simp; done) | (simp; omega) | (exact Below.size (by assumption)))))
            have HD3 := Lib.hid (HD.out.after hb2)
            clear hb2
            go_wp2
            go_roundw
            case rel => exact ⟨j + 1, by omega, by go_num, HR, HD3, hb3⟩
            case measure => simp [intOf]; omega
        · have HR : Hid (dimsR dl = true) := Lib.hid (by unfold dimsR; rw [List.all_eq_true]; intro x hx; obtain ⟨p, hp, rfl⟩ := List.getElem_of_mem hx; exact HJ.out p hp (by omega))
          go_wp2
          go_ret
          exact ⟨ret_bool HR.out.symm, hb⟩
theorem rIssue_any (x : Iss) (vi vd : Value) (w : World) (hk : 0 ≤ x.k ∧ x.k ≤ 255) (hl1 : x.items.length ≤ 1000) (hl2 : x.dims.length ≤ 1000) (h1 : ItemsAt w vi x.items) (h2 : DimsAt w vd x.dims) :
    Calls Try.prog 116 #[.agg #[.int .i64 x.d, .int .i64 x.l, .int .u8 x.k, vi, vd]] w fun e w' => e = .returned (.bool (issueR x)) ∧ Below w.heap.size w w' := by
  unfold issueR
  cases hh : headR x
  · rw [Bool.false_and, Bool.false_and]
    exact rIssue_head x vi vd w hk hl1 hl2 h1 h2 hh
  · rw [Bool.true_and]
    obtain ⟨hn, hc⟩ := headR_iff.1 hh
    unfold namedB at hn
    simp only [Bool.and_eq_true] at hn
    obtain ⟨d, l, k, il, dl⟩ := x
    obtain ⟨A1, c1, b1, o1, rfl, hA1, hc1⟩ := h1
    obtain ⟨A2, c2, b2, o2, rfl, hA2, hc2⟩ := h2
    exact rIssue_body d l k il dl A1 A2 c1 c2 b1 o1 b2 o2 w hl1 hl2 hA1 hc1 hA2 hc2 hn.1.1 hn.1.2 hn.2 hc
end Go.Proofs.Ytngaepgepcnhkaa
