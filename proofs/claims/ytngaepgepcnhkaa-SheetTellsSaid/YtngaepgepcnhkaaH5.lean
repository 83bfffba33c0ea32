/- The walks of package sheet: demands, right. -/
import Derived.Test.YtngaepgepcnhkaaH3
import Derived.Laws.EntriesVeiled
namespace Go.Proofs.Ytngaepgepcnhkaa
set_option linter.unusedVariables false
set_option linter.unusedSimpArgs false
open Go.RowKit Go.Shelf

theorem mid7 (w1 : World) (F : Value) : ∃ v, (w1.alloc (.cells #[.nilFunc] 181)).setRow w1.heap.size #[F] = v ∧ Below w1.heap.size w1 v ∧ Lies v w1.heap.size 181 #[F] :=
  ⟨_, rfl, below_row ((Below.refl _ _).alloc (Nat.le_refl _) _) (Nat.le_refl _) _, (Lies.made _ _ _).row _⟩
def fnV (f : Nat) : Value := .func (.func f) #[] #[]
set_option maxHeartbeats 1000000 in
theorem demands_any (w : World) :
    Calls Try.prog 126 #[] w fun e w' => e = .returned (.agg #[fnV 133, fnV 134, fnV 135, fnV 136]) ∧ Below w.heap.size w w' := by
  go_enter Try.func126, Try.ntmps126
  have HL := Lib.hid (Lies.made w 182 #[.nilFunc, .nilFunc, .nilFunc, .nilFunc])
  go_wp2_with (refine wpList_store_row rfl 182 _ _ rfl w.heap.size #[fnV 133, fnV 134, fnV 135, fnV 136] rfl rfl _ _ HL.out (by kernel_rfl) rfl (by kernel_rfl) ?_)
  refine bodyPost_ret (results_cell_row rfl _ _ w.heap.size _ _ (0, 0) _ rfl (HL.out.row _) Try.underlying182 rfl (by kernel_rfl)) rfl ⟨rfl, ?_⟩
  (repeat' (first | (with_reducible exact Below.refl _ _) | (with_reducible assumption) | (with_reducible refine Below.alloc ?_ ?_ _) | (with_reducible refine Below.setCell ?_ ?_ _) | (with_reducible refine below_row ?_ ?_ _) | (with_reducible refine Below.drew ?_) | (with_reducible refine below_drewN ?_ _) | (with_reducible refine Below.trans ?_ (Below.mono (by assumption) ?_)) | (first | exact Nat.le_refl _ | omega | (simp; done) | (simp; omega) | (exact Below.size (by assumption)))))
set_option maxHeartbeats 4000000 in
set_option maxRecDepth 100000 in
theorem right_any (A : Option Addr) (c b off : Nat) (xs : List Iss) (w : World) (hA : 0 < xs.length → A = some ⟨b, off, none⟩) (hl : xs.length ≤ 1000) (hc : ∀ i (h : i < xs.length), IssC w b (off + i * 5) xs[i]) :
    Calls Try.prog 105 #[.slice A xs.length c] w fun e w' => e = .returned (.bool (rightB zeroI xs)) ∧ Below w.heap.size w w' := by
  have HC := Lib.hid hc; clear hc
  have HA := Lib.hid hA; clear hA
  go_enter Try.func105, Try.ntmps105
  go_wp2_with fail
  go_step3
  go_wp2_with fail
  go_step3
  go_wp2_with fail
  have LG0 := Lib.hid (Lies.made w 45 #[.int .i64 0, .int .i64 0, .int .u8 0, .slice none 0 0, .slice none 0 0])
  go_loopw [4, 12] (fun wrong i wr => ∃ (k : Nat) (bef : Iss) (vbi vbd : Value), wrong = .bool false ∧ k ≤ xs.length ∧ i = .int .i64 k ∧ Hid (rightB bef (xs.drop k) = rightB zeroI xs) ∧ (-1000 ≤ bef.l ∧ bef.l ≤ 1000) ∧ Below w.heap.size w wr ∧ Hid (Lies wr w.heap.size 45 #[.int .i64 bef.d, .int .i64 bef.l, .int .u8 bef.k, vbi, vbd])) (fun _ i _ => xs.length - (intOf i).toNat)
  case atStart => exact ⟨0, zeroI, .slice none 0 0, .slice none 0 0, rfl, by omega, rfl, Lib.hid rfl, by decide, by (repeat' (first | (with_reducible exact Below.refl _ _) | (with_reducible assumption) | (with_reducible refine Below.alloc ?_ ?_ _) | (with_reducible refine Below.setCell ?_ ?_ _) | (with_reducible refine below_row ?_ ?_ _) | (with_reducible refine Below.drew ?_) | (with_reducible refine below_drewN ?_ _) | (with_reducible refine Below.trans ?_ (Below.mono (by assumption) ?_)) | (first | exact Nat.le_refl _ | omega | (simp; done) | (simp; omega) | (exact Below.size (by assumption))))), LG0⟩
  case round =>
    obtain ⟨k, ⟨bd, bl, bk, bit, bdi⟩, vbi, vbd, rfl, hk, rfl, HG, hbl, hb, HB⟩ := hrel
    simp only at hbl HB
    have hz := hb.size
    by_cases hlt : k < xs.length
    · obtain rfl := HA.out (by omega)
      obtain ⟨vi, vd, q0, q1, q2, q3, q4, hkk, hi, hd, -⟩ := HC.out k hlt
      have hblk : b < w.heap.size := World.block_lt_of_cell? w _ q0
      have r0 := (hb.cell (p := ⟨b, off + k * 5, none⟩) hblk).trans q0
      have r1 := (hb.cell (p := ⟨b, off + k * 5 + 1, none⟩) hblk).trans q1
      have r2 := (hb.cell (p := ⟨b, off + k * 5 + 2, none⟩) hblk).trans q2
      have r3 := (hb.cell (p := ⟨b, off + k * 5 + 3, none⟩) hblk).trans q3
      have r4 := (hb.cell (p := ⟨b, off + k * 5 + 4, none⟩) hblk).trans q4
      clear q0 q1 q2 q3 q4
      have HI := Lib.hid hi
      have HD := Lib.hid hd
      obtain ⟨Ai, ci, -, -, rfl, -, -⟩ := hi
      obtain ⟨Ad, cd, -, -, rfl, -, -⟩ := hd
      have HX := Lib.hid (show rightB ⟨bd, bl, bk, bit, bdi⟩ (xs.drop k) = (metB ⟨bd, bl, bk, bit, bdi⟩ xs[k] && rightB xs[k] (xs.drop (k + 1))) by rw [List.drop_eq_getElem_cons hlt, rightB])
      generalize xs[k] = x at *
      obtain ⟨d, l, kk, it, di⟩ := x
      simp only at hkk HI HD r0 r1 r2 r3 r4
      generalize it.length = ni at *
      generalize di.length = nd at *
      have HGX := Lib.hid (HX.out.symm.trans HG.out)
      clear HX
      have HN := Lib.hid (fun W => isNamed_any #[.int .i64 bd, .int .i64 bl, .int .u8 bk, vbi, vbd] d l kk it di (.slice Ai ni ci) (.slice Ad nd cd) W hkk)
      have HO := Lib.hid (fun W => isInOrder_any bd bl bk bit bdi vbi vbd d l kk it di (.slice Ai ni ci) (.slice Ad nd cd) W hbl)
      have HM : Hid (∀ W, Below w.heap.size w W → Calls Try.prog 135 #[.agg #[.int .i64 bd, .int .i64 bl, .int .u8 bk, vbi, vbd], .agg #[.int .i64 d, .int .i64 l, .int .u8 kk, .slice Ai ni ci, .slice Ad nd cd]] W fun e w' => e = .returned (.bool (madeB ⟨d, l, kk, it, di⟩)) ∧ Below W.heap.size W w') := Lib.hid (fun W hW => isMade_any _ ⟨d, l, kk, it, di⟩ _ _ W (HI.out.after hW))
      have HE : Hid (∀ W, Below w.heap.size w W → Calls Try.prog 136 #[.agg #[.int .i64 bd, .int .i64 bl, .int .u8 bk, vbi, vbd], .agg #[.int .i64 d, .int .i64 l, .int .u8 kk, .slice Ai ni ci, .slice Ad nd cd]] W fun e w' => e = .returned (.bool (measuredB ⟨d, l, kk, it, di⟩)) ∧ Below W.heap.size W w') := Lib.hid (fun W hW => isMeasured_any _ ⟨d, l, kk, it, di⟩ _ _ W (HD.out.after hW))
      have hls : namedB ⟨d, l, kk, it, di⟩ = true → (-1000 ≤ l ∧ l ≤ 1000) := fun h => by unfold namedB inB at h; simp at h; omega
      have HLS := Lib.hid hls
      clear hls
      unfold metB at HGX
      generalize namedB ⟨d, l, kk, it, di⟩ = p1 at *
      generalize orderB ⟨bd, bl, bk, bit, bdi⟩ ⟨d, l, kk, it, di⟩ = p2 at *
      generalize madeB ⟨d, l, kk, it, di⟩ = p3 at *
      generalize measuredB ⟨d, l, kk, it, di⟩ = p4 at *
      go_wp2_with fail
      refine (demands_any _).mono ?_
      rintro e w1 ⟨rfl, hb1⟩
      have s1 := hb1.size; try simp only [World.size_alloc, World.size_setCell, World.size_drew, setRow_size] at s1
      have HX1 := Lib.hid ((Lies.made wr 45 #[.int .i64 d, .int .i64 l, .int .u8 kk, .slice Ai ni ci, .slice Ad nd cd]).after hb1)
      have HB1 := Lib.hid ((HB.out.alloc (.cells #[.int .i64 d, .int .i64 l, .int .u8 kk, .slice Ai ni ci, .slice Ad nd cd] 45)).after hb1)
      have hbw1 : Below w.heap.size w w1 := by (repeat' (first | (with_reducible exact Below.refl _ _) | (with_reducible assumption) | (with_reducible refine Below.alloc ?_ ?_ _) | (with_reducible refine Below.setCell ?_ ?_ _) | (with_reducible refine below_row ?_ ?_ _) | (with_reducible refine Below.drew ?_) | (with_reducible refine below_drewN ?_ _) | (with_reducible refine Below.trans ?_ (Below.mono (by assumption) ?_)) | (first | exact Nat.le_refl _ | omega | (simp; done) | (simp; omega) | (exact Below.size (by assumption)))))
      clear hb1
      have zX := HX1.out.lt
      have zB := HB1.out.lt
      have x0 := HX1.out.cell 0
      have x1 := HX1.out.cell 1
      have x2 := HX1.out.cell 2
      have x3 := HX1.out.cell 3
      have x4 := HX1.out.cell 4
      have b0 := HB1.out.cell 0
      have b1 := HB1.out.cell 1
      have b2 := HB1.out.cell 2
      have b3 := HB1.out.cell 3
      have b4 := HB1.out.cell 4
      have j0 : ∀ W, (Instr.index 182 (.agg #[.func (.func 133) #[] #[], .func (.func 134) #[] #[], .func (.func 135) #[] #[], .func (.func 136) #[] #[]]) (.int .i64 0)).run Try.prog W = .ok (.agg #[.func (.func 133) #[] #[]]) W := fun _ => by kernel_rfl
      have j1 : ∀ W, (Instr.index 182 (.agg #[.func (.func 133) #[] #[], .func (.func 134) #[] #[], .func (.func 135) #[] #[], .func (.func 136) #[] #[]]) (.int .i64 1)).run Try.prog W = .ok (.agg #[.func (.func 134) #[] #[]]) W := fun _ => by kernel_rfl
      have j2 : ∀ W, (Instr.index 182 (.agg #[.func (.func 133) #[] #[], .func (.func 134) #[] #[], .func (.func 135) #[] #[], .func (.func 136) #[] #[]]) (.int .i64 2)).run Try.prog W = .ok (.agg #[.func (.func 135) #[] #[]]) W := fun _ => by kernel_rfl
      have j3 : ∀ W, (Instr.index 182 (.agg #[.func (.func 133) #[] #[], .func (.func 134) #[] #[], .func (.func 135) #[] #[], .func (.func 136) #[] #[]]) (.int .i64 3)).run Try.prog W = .ok (.agg #[.func (.func 136) #[] #[]]) W := fun _ => by kernel_rfl
      unfold fnV
      go_wp2_with fail
      refine wp_loop_rounds 5 ?_
      rw [rounds_succ]
      go_wp2_with fail
      refine (HN.out _).mono ?_
      rintro e w2 ⟨rfl, hb2⟩
      have s2 := hb2.size; try simp only [World.size_alloc, World.size_setCell, World.size_drew, setRow_size] at s2
      clear x0 x1 x2 x3 x4 b0 b1 b2 b3 b4 zX zB
      replace HX1 := Lib.hid ((HX1.out.alloc (.cells #[.func (.func 133) #[] #[]] 181)).after hb2)
      replace HB1 := Lib.hid ((HB1.out.alloc (.cells #[.func (.func 133) #[] #[]] 181)).after hb2)
      have hbw2 : Below w.heap.size w w2 := by (repeat' (first | (with_reducible exact Below.refl _ _) | (with_reducible assumption) | (with_reducible refine Below.alloc ?_ ?_ _) | (with_reducible refine Below.setCell ?_ ?_ _) | (with_reducible refine below_row ?_ ?_ _) | (with_reducible refine Below.drew ?_) | (with_reducible refine below_drewN ?_ _) | (with_reducible refine Below.trans ?_ (Below.mono (by assumption) ?_)) | (first | exact Nat.le_refl _ | omega | (simp; done) | (simp; omega) | (exact Below.size (by assumption)))))
      clear hb2 hbw1
      have zX := HX1.out.lt
      have zB := HB1.out.lt
      have x0 := HX1.out.cell 0
      have x1 := HX1.out.cell 1
      have x2 := HX1.out.cell 2
      have x3 := HX1.out.cell 3
      have x4 := HX1.out.cell 4
      have b0 := HB1.out.cell 0
      have b1 := HB1.out.cell 1
      have b2 := HB1.out.cell 2
      have b3 := HB1.out.cell 3
      have b4 := HB1.out.cell 4
      cases p1
      · have HRF := Lib.hid HGX.out
        simp only [Bool.false_and, Bool.and_false, Bool.true_and] at HRF
        clear HGX HG
        go_wp2
        rw [Exit.noGoto_ret]
        go_ret
        exact ⟨ret_bool HRF.out, by (repeat' (first | (with_reducible exact Below.refl _ _) | (with_reducible assumption) | (with_reducible refine Below.alloc ?_ ?_ _) | (with_reducible refine Below.setCell ?_ ?_ _) | (with_reducible refine below_row ?_ ?_ _) | (with_reducible refine Below.drew ?_) | (with_reducible refine below_drewN ?_ _) | (with_reducible refine Below.trans ?_ (Below.mono (by assumption) ?_)) | (first | exact Nat.le_refl _ | omega | (simp; done) | (simp; omega) | (exact Below.size (by assumption)))))⟩
      go_wp2_with fail
      rw [rounds_succ]
      go_wp2_with fail
      refine (HO.out _).mono ?_
      rintro e w3 ⟨rfl, hb3⟩
      have s3 := hb3.size; try simp only [World.size_alloc, World.size_setCell, World.size_drew, setRow_size] at s3
      clear x0 x1 x2 x3 x4 b0 b1 b2 b3 b4 zX zB
      replace HX1 := Lib.hid ((HX1.out.alloc (.cells #[.func (.func 134) #[] #[]] 181)).after hb3)
      replace HB1 := Lib.hid ((HB1.out.alloc (.cells #[.func (.func 134) #[] #[]] 181)).after hb3)
      have hbw3 : Below w.heap.size w w3 := by (repeat' (first | (with_reducible exact Below.refl _ _) | (with_reducible assumption) | (with_reducible refine Below.alloc ?_ ?_ _) | (with_reducible refine Below.setCell ?_ ?_ _) | (with_reducible refine below_row ?_ ?_ _) | (with_reducible refine Below.drew ?_) | (with_reducible refine below_drewN ?_ _) | (with_reducible refine Below.trans ?_ (Below.mono (by assumption) ?_)) | (first | exact Nat.le_refl _ | omega | (simp; done) | (simp; omega) | (exact Below.size (by assumption)))))
      clear hb3 hbw2
      have zX := HX1.out.lt
      have zB := HB1.out.lt
      have x0 := HX1.out.cell 0
      have x1 := HX1.out.cell 1
      have x2 := HX1.out.cell 2
      have x3 := HX1.out.cell 3
      have x4 := HX1.out.cell 4
      have b0 := HB1.out.cell 0
      have b1 := HB1.out.cell 1
      have b2 := HB1.out.cell 2
      have b3 := HB1.out.cell 3
      have b4 := HB1.out.cell 4
      cases p2
      · have HRF := Lib.hid HGX.out
        simp only [Bool.false_and, Bool.and_false, Bool.true_and] at HRF
        clear HGX HG
        go_wp2
        rw [Exit.noGoto_ret]
        go_ret
        exact ⟨ret_bool HRF.out, by (repeat' (first | (with_reducible exact Below.refl _ _) | (with_reducible assumption) | (with_reducible refine Below.alloc ?_ ?_ _) | (with_reducible refine Below.setCell ?_ ?_ _) | (with_reducible refine below_row ?_ ?_ _) | (with_reducible refine Below.drew ?_) | (with_reducible refine below_drewN ?_ _) | (with_reducible refine Below.trans ?_ (Below.mono (by assumption) ?_)) | (first | exact Nat.le_refl _ | omega | (simp; done) | (simp; omega) | (exact Below.size (by assumption)))))⟩
      go_wp2_with fail
      rw [rounds_succ]
      go_wp2_with fail
      refine (HM.out _ (by (repeat' (first | (with_reducible exact Below.refl _ _) | (with_reducible assumption) | (with_reducible refine Below.alloc ?_ ?_ _) | (with_reducible refine Below.setCell ?_ ?_ _) | (with_reducible refine below_row ?_ ?_ _) | (with_reducible refine Below.drew ?_) | (with_reducible refine below_drewN ?_ _) | (with_reducible refine Below.trans ?_ (Below.mono (by assumption) ?_)) | (first | exact Nat.le_refl _ | omega | (simp; done) | (simp; omega) | (exact Below.size (by assumption))))))).mono ?_
      rintro e w4 ⟨rfl, hb4⟩
      have s4 := hb4.size; try simp only [World.size_alloc, World.size_setCell, World.size_drew, setRow_size] at s4
      clear x0 x1 x2 x3 x4 b0 b1 b2 b3 b4 zX zB
      replace HX1 := Lib.hid ((HX1.out.alloc (.cells #[.func (.func 135) #[] #[]] 181)).after hb4)
      replace HB1 := Lib.hid ((HB1.out.alloc (.cells #[.func (.func 135) #[] #[]] 181)).after hb4)
      have hbw4 : Below w.heap.size w w4 := by (repeat' (first | (with_reducible exact Below.refl _ _) | (with_reducible assumption) | (with_reducible refine Below.alloc ?_ ?_ _) | (with_reducible refine Below.setCell ?_ ?_ _) | (with_reducible refine below_row ?_ ?_ _) | (with_reducible refine Below.drew ?_) | (with_reducible refine below_drewN ?_ _) | (with_reducible refine Below.trans ?_ (Below.mono (by assumption) ?_)) | (first | exact Nat.le_refl _ | omega | (simp; done) | (simp; omega) | (exact Below.size (by assumption)))))
      clear hb4 hbw3
      have zX := HX1.out.lt
      have zB := HB1.out.lt
      have x0 := HX1.out.cell 0
      have x1 := HX1.out.cell 1
      have x2 := HX1.out.cell 2
      have x3 := HX1.out.cell 3
      have x4 := HX1.out.cell 4
      have b0 := HB1.out.cell 0
      have b1 := HB1.out.cell 1
      have b2 := HB1.out.cell 2
      have b3 := HB1.out.cell 3
      have b4 := HB1.out.cell 4
      cases p3
      · have HRF := Lib.hid HGX.out
        simp only [Bool.false_and, Bool.and_false, Bool.true_and] at HRF
        clear HGX HG
        go_wp2
        rw [Exit.noGoto_ret]
        go_ret
        exact ⟨ret_bool HRF.out, by (repeat' (first | (with_reducible exact Below.refl _ _) | (with_reducible assumption) | (with_reducible refine Below.alloc ?_ ?_ _) | (with_reducible refine Below.setCell ?_ ?_ _) | (with_reducible refine below_row ?_ ?_ _) | (with_reducible refine Below.drew ?_) | (with_reducible refine below_drewN ?_ _) | (with_reducible refine Below.trans ?_ (Below.mono (by assumption) ?_)) | (first | exact Nat.le_refl _ | omega | (simp; done) | (simp; omega) | (exact Below.size (by assumption)))))⟩
      go_wp2_with fail
      rw [rounds_succ]
      go_wp2_with fail
      refine (HE.out _ (by (repeat' (first | (with_reducible exact Below.refl _ _) | (with_reducible assumption) | (with_reducible refine Below.alloc ?_ ?_ _) | (with_reducible refine Below.setCell ?_ ?_ _) | (with_reducible refine below_row ?_ ?_ _) | (with_reducible refine Below.drew ?_) | (with_reducible refine below_drewN ?_ _) | (with_reducible refine Below.trans ?_ (Below.mono (by assumption) ?_)) | (first | exact Nat.le_refl _ | omega | (simp; done) | (simp; omega) | (exact Below.size (by assumption))))))).mono ?_
      rintro e w5 ⟨rfl, hb5⟩
      have s5 := hb5.size; try simp only [World.size_alloc, World.size_setCell, World.size_drew, setRow_size] at s5
      clear x0 x1 x2 x3 x4 b0 b1 b2 b3 b4 zX zB
      replace HX1 := Lib.hid ((HX1.out.alloc (.cells #[.func (.func 136) #[] #[]] 181)).after hb5)
      replace HB1 := Lib.hid ((HB1.out.alloc (.cells #[.func (.func 136) #[] #[]] 181)).after hb5)
      have hbw5 : Below w.heap.size w w5 := by (repeat' (first | (with_reducible exact Below.refl _ _) | (with_reducible assumption) | (with_reducible refine Below.alloc ?_ ?_ _) | (with_reducible refine Below.setCell ?_ ?_ _) | (with_reducible refine below_row ?_ ?_ _) | (with_reducible refine Below.drew ?_) | (with_reducible refine below_drewN ?_ _) | (with_reducible refine Below.trans ?_ (Below.mono (by assumption) ?_)) | (first | exact Nat.le_refl _ | omega | (simp; done) | (simp; omega) | (exact Below.size (by assumption)))))
      clear hb5 hbw4
      have zX := HX1.out.lt
      have zB := HB1.out.lt
      have x0 := HX1.out.cell 0
      have x1 := HX1.out.cell 1
      have x2 := HX1.out.cell 2
      have x3 := HX1.out.cell 3
      have x4 := HX1.out.cell 4
      have b0 := HB1.out.cell 0
      have b1 := HB1.out.cell 1
      have b2 := HB1.out.cell 2
      have b3 := HB1.out.cell 3
      have b4 := HB1.out.cell 4
      cases p4
      · have HRF := Lib.hid HGX.out
        simp only [Bool.false_and, Bool.and_false, Bool.true_and] at HRF
        clear HGX HG
        go_wp2
        rw [Exit.noGoto_ret]
        go_ret
        exact ⟨ret_bool HRF.out, by (repeat' (first | (with_reducible exact Below.refl _ _) | (with_reducible assumption) | (with_reducible refine Below.alloc ?_ ?_ _) | (with_reducible refine Below.setCell ?_ ?_ _) | (with_reducible refine below_row ?_ ?_ _) | (with_reducible refine Below.drew ?_) | (with_reducible refine below_drewN ?_ _) | (with_reducible refine Below.trans ?_ (Below.mono (by assumption) ?_)) | (first | exact Nat.le_refl _ | omega | (simp; done) | (simp; omega) | (exact Below.size (by assumption)))))⟩
      go_wp2_with fail
      rw [rounds_succ]
      have f0 := HB1.out.free 0
      have f1 := HB1.out.free 1
      have f2 := HB1.out.free 2
      have f3 := HB1.out.free 3
      have f4 := HB1.out.free 4
      have HRT := Lib.hid HGX.out
      simp only [Bool.true_and] at HRT
      clear HGX HG
      go_wp2_with fail
      go_roundw
      case rel =>
        refine ⟨k + 1, ⟨d, l, kk, it, di⟩, .slice Ai ni ci, .slice Ad nd cd, rfl, by omega, by go_num, HRT, HLS.out trivial, ?_, Lib.hid (((((HB1.out.store 0 _).store 1 _).store 2 _).store 3 _).store 4 _)⟩
        exact ((((hbw5.setCell (p := ⟨w.heap.size, 0, none⟩) (Nat.le_refl _) _).setCell (p := ⟨w.heap.size, 1, none⟩) (Nat.le_refl _) _).setCell (p := ⟨w.heap.size, 2, none⟩) (Nat.le_refl _) _).setCell (p := ⟨w.heap.size, 3, none⟩) (Nat.le_refl _) _).setCell (p := ⟨w.heap.size, 4, none⟩) (Nat.le_refl _) _
      case measure => simp [intOf]; omega
    · have hke : k = xs.length := by omega
      have HRF := Lib.hid HG.out
      rw [hke, List.drop_length, rightB] at HRF
      clear HG
      subst hke
      go_wp2
      rw [Exit.noGoto_ret]
      go_ret
      exact ⟨ret_bool HRF.out, by (repeat' (first | (with_reducible exact Below.refl _ _) | (with_reducible assumption) | (with_reducible refine Below.alloc ?_ ?_ _) | (with_reducible refine Below.setCell ?_ ?_ _) | (with_reducible refine below_row ?_ ?_ _) | (with_reducible refine Below.drew ?_) | (with_reducible refine below_drewN ?_ _) | (with_reducible refine Below.trans ?_ (Below.mono (by assumption) ?_)) | (first | exact Nat.le_refl _ | omega | (simp; done) | (simp; omega) | (exact Below.size (by assumption)))))⟩
end Go.Proofs.Ytngaepgepcnhkaa
