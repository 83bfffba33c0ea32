/- differing, at Issue: two lists of one length. -/
import Derived.Test.YtkjfceajakhlfaaUS
import Derived.Test.YtkjfceajakhlfaaUC
namespace Go.Proofs.Ytkjfceajakhlfaa
set_option linter.unusedVariables false
set_option linter.unusedSimpArgs false
open Go.RowKit

set_option maxRecDepth 100000 in
set_option maxHeartbeats 16000000 in
theorem diffX_any (A B : Option Addr) (cA bA oA cB bB oB n : Nat) (a b : List Iss) (va da vb db : Nat → Value) (w : World) (ha : a.length = n) (hb : b.length = n) (hn : n ≤ 1000) (hA : 0 < n → A = some ⟨bA, oA, none⟩) (hc : IssRow w bA oA a va da) (hB : 0 < n → B = some ⟨bB, oB, none⟩) (hd : IssRow w bB oB b vb db)
    (hsa : ∀ x ∈ a, x.items.length ≤ 1000 ∧ x.dims.length ≤ 1000) (hsb : ∀ x ∈ b, x.items.length ≤ 1000 ∧ x.dims.length ≤ 1000) :
    Calls Try.prog 94 #[.slice A n cA, .slice B n cB, .func (.func 95) #[] #[]] w fun e w' => ∃ v, e = .returned v ∧ w'.ownsRow w.heap.size 3 1 v (diffL a b).length (cellsN (diffL a b)) ∧ Below w.heap.size w w' := by
  have HA := Lib.hid hA
  have HB := Lib.hid hB
  have HCC := Lib.hid hc
  have HDD := Lib.hid hd
  have HSA := Lib.hid hsa
  have HSB := Lib.hid hsb
  have HLA := Lib.hid ha
  have HLB := Lib.hid hb
  have HRES : Hid (diffJ a b n = diffL a b) := Lib.hid (by unfold diffL; rw [ha, hb, Nat.max_self])
  obtain ⟨i0, hi0, hz0, hz1, hz2⟩ := info_parts infoN
  clear hA hB hc hd hsa hsb ha hb
  have hm : ¬ (n : Int) < (n : Int) := by omega
  go_enter Try.func94, Try.ntmps94
  go_wp2_with fail
  go_loopw [7, 14] (fun v i wr => ∃ (k : Nat) (AO : Option Addr) (cO : Nat), k ≤ n ∧ i = .int .i64 k ∧ v = .slice AO (diffJ a b k).length cO ∧ Hid (wr.ownsRow w.heap.size 3 1 (.slice AO (diffJ a b k).length cO) (diffJ a b k).length (cellsN (diffJ a b k))) ∧ Below w.heap.size w wr) (fun _ i _ => n - (intOf i).toNat)
  case atStart => exact ⟨0, none, 0, by omega, rfl, rfl, Lib.hid (World.ownsRow_nil _ _ _ _), by (repeat' (first | (with_reducible first | exact Below.refl _ _ | assumption | refine Below.alloc ?_ ?_ _ | refine Below.setCell ?_ ?_ _ | refine below_row ?_ ?_ _ | refine Below.drew ?_ | refine below_drewN ?_ _ | refine Below.trans ?_ (Below.mono (by assumption) ?_)) | exact Nat.le_refl _ | omega | (simp; done) | (simp; omega) | exact Below.size (by assumption)))⟩
  case round =>
    obtain ⟨k, AO, cO, hk, rfl, rfl, HO, hb⟩ := hrel
    have hzz := hb.size
    have hle := diffJ_le a b k
    have HST := Lib.hid (diffJ_step a b k)
    by_cases hlt : k < n
    · have kl1 : (k : Int) < (n : Int) := by omega
      have ha : k < a.length := by rw [HLA.out]; exact hlt
      have hb' : k < b.length := by rw [HLB.out]; exact hlt
      have ga1 : decide (n ≤ k) = false := by simp; omega
      have ga2 : decide ((n : Int) ≤ (k : Int)) = false := by simp; omega
      obtain rfl := HA.out (by omega)
      obtain rfl := HB.out (by omega)
      have hab : (a[k]? = b[k]?) = (a[k] = b[k]) := by rw [List.getElem?_eq_getElem ha, List.getElem?_eq_getElem hb']; simp
      have HYES : Hid (sameI a[k] b[k] = false → diffJ a b (k + 1) = diffJ a b k ++ [(k : Int)]) := Lib.hid (fun h => by rw [HST.out, if_pos (by rw [ne_eq, hab]; intro h2; rw [sameI_iff.2 h2] at h; cases h)])
      have HNO : Hid (sameI a[k] b[k] = true → diffJ a b (k + 1) = diffJ a b k) := Lib.hid (fun h => by rw [HST.out, if_neg (by rw [ne_eq, hab]; exact fun h2 => h2 (sameI_iff.1 h)), List.append_nil])
      clear HST hab
      have HROW := Lib.hid (fun W (hW : Below w.heap.size w W) => And.intro ((HCC.out.after hW) k ha) ((HDD.out.after hW) k hb'))
      obtain ⟨⟨A1, n1, c1, e1⟩, A2, n2, c2, e2⟩ := HCC.out.slices ha
      obtain ⟨⟨A3, n3, c3, e3⟩, A4, n4, c4, e4⟩ := HDD.out.slices hb'
      have hx := HSA.out a[k] (List.getElem_mem ha)
      have hy := HSB.out b[k] (List.getElem_mem hb')
      rw [e1, e2, e3, e4] at HROW
      have HEQ := Lib.hid (fun W (hW : Below w.heap.size w W) => same_any a[k] b[k] _ _ _ _ W hx.1 hy.1 hx.2 hy.2 (HROW.out W hW).1.2.2.2.2.2.2.1 (HROW.out W hW).2.2.2.2.2.2.2.1 (HROW.out W hW).1.2.2.2.2.2.2.2.1 (HROW.out W hW).2.2.2.2.2.2.2.2.1)
      have HCEL := Lib.hid (fun W (hW : Below w.heap.size w W) => (show W.cell? ⟨bA, oA + k * 5, none⟩ = some (.int .i64 (a[k].d)) ∧ W.cell? ⟨bA, oA + k * 5 + 1, none⟩ = some (.int .i64 (a[k].l)) ∧ W.cell? ⟨bA, oA + k * 5 + 2, none⟩ = some (.int .u8 a[k].k) ∧ W.cell? ⟨bA, oA + k * 5 + 3, none⟩ = some (.slice A1 n1 c1) ∧ W.cell? ⟨bA, oA + k * 5 + 4, none⟩ = some (.slice A2 n2 c2) ∧ W.cell? ⟨bB, oB + k * 5, none⟩ = some (.int .i64 (b[k].d)) ∧ W.cell? ⟨bB, oB + k * 5 + 1, none⟩ = some (.int .i64 (b[k].l)) ∧ W.cell? ⟨bB, oB + k * 5 + 2, none⟩ = some (.int .u8 b[k].k) ∧ W.cell? ⟨bB, oB + k * 5 + 3, none⟩ = some (.slice A3 n3 c3) ∧ W.cell? ⟨bB, oB + k * 5 + 4, none⟩ = some (.slice A4 n4 c4) from ⟨(HROW.out W hW).1.1, (HROW.out W hW).1.2.1, (HROW.out W hW).1.2.2.1, (HROW.out W hW).1.2.2.2.1, (HROW.out W hW).1.2.2.2.2.1, (HROW.out W hW).2.1, (HROW.out W hW).2.2.1, (HROW.out W hW).2.2.2.1, (HROW.out W hW).2.2.2.2.1, (HROW.out W hW).2.2.2.2.2.1⟩))
      clear e1 e2 e3 e4 hx hy HROW
      generalize diffJ a b k = dj at *
      generalize sameI a[k] b[k] = r at *
      generalize a[k].d = xd at *
      generalize a[k].l = xl at *
      generalize a[k].k = xk at *
      generalize b[k].d = yd at *
      generalize b[k].l = yl at *
      generalize b[k].k = yk at *
      obtain ⟨r0, r1, r2, r3, r4, t0, t1, t2, t3, t4⟩ := HCEL.out wr hb
      cases r
      · have HST2 := Lib.hid (HYES.out rfl)
        clear HYES HNO
        go_wp2_with fail
        go_region_held3 (fun W2 => W2.cell? ⟨bA, oA + k * 5, none⟩ = some (.int .i64 xd) ∧ W2.cell? ⟨bA, oA + k * 5 + 1, none⟩ = some (.int .i64 xl) ∧ W2.cell? ⟨bA, oA + k * 5 + 2, none⟩ = some (.int .u8 xk) ∧ W2.cell? ⟨bA, oA + k * 5 + 3, none⟩ = some (.slice A1 n1 c1) ∧ W2.cell? ⟨bA, oA + k * 5 + 4, none⟩ = some (.slice A2 n2 c2) ∧ W2.cell? ⟨bB, oB + k * 5, none⟩ = some (.int .i64 yd) ∧ W2.cell? ⟨bB, oB + k * 5 + 1, none⟩ = some (.int .i64 yl) ∧ W2.cell? ⟨bB, oB + k * 5 + 2, none⟩ = some (.int .u8 yk) ∧ W2.cell? ⟨bB, oB + k * 5 + 3, none⟩ = some (.slice A3 n3 c3) ∧ W2.cell? ⟨bB, oB + k * 5 + 4, none⟩ = some (.slice A4 n4 c4)) (go_keep) ((go_at_call 95; refine (HEQ.out _ (by (repeat' (first | (with_reducible first | exact Below.refl _ _ | assumption | refine Below.alloc ?_ ?_ _ | refine Below.setCell ?_ ?_ _ | refine below_row ?_ ?_ _ | refine Below.drew ?_ | refine below_drewN ?_ _ | refine Below.trans ?_ (Below.mono (by assumption) ?_)) | exact Nat.le_refl _ | omega | (simp; done) | (simp; omega) | exact Below.size (by assumption))))).mono ?_; rintro e w3 ⟨rfl, hb3⟩; have hbw3 : Below w.heap.size w w3 := (by (repeat' (first | (with_reducible first | exact Below.refl _ _ | assumption | refine Below.alloc ?_ ?_ _ | refine Below.setCell ?_ ?_ _ | refine below_row ?_ ?_ _ | refine Below.drew ?_ | refine below_drewN ?_ _ | refine Below.trans ?_ (Below.mono (by assumption) ?_)) | exact Nat.le_refl _ | omega | (simp; done) | (simp; omega) | exact Below.size (by assumption)))); have HO3 := Lib.hid (own_after HO.out.drew hb3); obtain ⟨m0, m1, m2, m3, m4, p0, p1, p2, p3, p4⟩ := HCEL.out w3 hbw3; have s3 := hbw3.size; clear hb3))
        go_wp2_with (at_builtin; refine wpList_append_own _ rfl _ _ 29 rfl w.heap.size 3 i0 (.int .i64 0) 1 8 Try.underlying29 hi0 hz0 hz1 hz2 rfl (by decide) _ _ _ rfl (HO3.out.alloc _) ⟨_, 0, none⟩ 1 1 [.int .i64 (k : Int)] rfl rfl (World.news_of_block (cs := #[.int .i64 (k : Int)]) (t := 3) (fr := (0, 0)) (Lies.new (by simp))) (by simp [Value.oneCell']) (by unfold maxLen; omega) (by omega) (by simp; omega) ?_; intro v' w8 hown' hgrow _; have HB8 := Lib.hid (below_own (w0 := w) (B := w.heap.size) (by (repeat' (first | (with_reducible first | exact Below.refl _ _ | assumption | refine Below.alloc ?_ ?_ _ | refine Below.setCell ?_ ?_ _ | refine below_row ?_ ?_ _ | refine Below.drew ?_ | refine below_drewN ?_ _ | refine Below.trans ?_ (Below.mono (by assumption) ?_)) | exact Nat.le_refl _ | omega | (simp; done) | (simp; omega) | exact Below.size (by assumption)))) (HO3.out.alloc (.cells #[.int .i64 (k : Int)] 3)) hgrow (Nat.le_refl _) (by simp; omega)); have HO8 := Lib.hid hown'; obtain ⟨A8, c8, g8, rfl, -⟩ := own_form hown'; clear hown' hgrow)
        go_roundw
        case rel => exact ⟨k + 1, A8, c8, by omega, by go_num, by rw [HST2.out]; simp, Lib.hid (by rw [HST2.out]; have := HO8.out; simpa [cellsN] using this), HB8.out⟩
        case measure => simp [intOf]; omega
      · have HST2 := Lib.hid (HNO.out rfl)
        clear HYES HNO
        go_wp2_with fail
        go_region_held3 (fun W2 => W2.cell? ⟨bA, oA + k * 5, none⟩ = some (.int .i64 xd) ∧ W2.cell? ⟨bA, oA + k * 5 + 1, none⟩ = some (.int .i64 xl) ∧ W2.cell? ⟨bA, oA + k * 5 + 2, none⟩ = some (.int .u8 xk) ∧ W2.cell? ⟨bA, oA + k * 5 + 3, none⟩ = some (.slice A1 n1 c1) ∧ W2.cell? ⟨bA, oA + k * 5 + 4, none⟩ = some (.slice A2 n2 c2) ∧ W2.cell? ⟨bB, oB + k * 5, none⟩ = some (.int .i64 yd) ∧ W2.cell? ⟨bB, oB + k * 5 + 1, none⟩ = some (.int .i64 yl) ∧ W2.cell? ⟨bB, oB + k * 5 + 2, none⟩ = some (.int .u8 yk) ∧ W2.cell? ⟨bB, oB + k * 5 + 3, none⟩ = some (.slice A3 n3 c3) ∧ W2.cell? ⟨bB, oB + k * 5 + 4, none⟩ = some (.slice A4 n4 c4)) (go_keep) ((go_at_call 95; refine (HEQ.out _ (by (repeat' (first | (with_reducible first | exact Below.refl _ _ | assumption | refine Below.alloc ?_ ?_ _ | refine Below.setCell ?_ ?_ _ | refine below_row ?_ ?_ _ | refine Below.drew ?_ | refine below_drewN ?_ _ | refine Below.trans ?_ (Below.mono (by assumption) ?_)) | exact Nat.le_refl _ | omega | (simp; done) | (simp; omega) | exact Below.size (by assumption))))).mono ?_; rintro e w3 ⟨rfl, hb3⟩; have hbw3 : Below w.heap.size w w3 := (by (repeat' (first | (with_reducible first | exact Below.refl _ _ | assumption | refine Below.alloc ?_ ?_ _ | refine Below.setCell ?_ ?_ _ | refine below_row ?_ ?_ _ | refine Below.drew ?_ | refine below_drewN ?_ _ | refine Below.trans ?_ (Below.mono (by assumption) ?_)) | exact Nat.le_refl _ | omega | (simp; done) | (simp; omega) | exact Below.size (by assumption)))); have HO3 := Lib.hid (own_after HO.out.drew hb3); obtain ⟨m0, m1, m2, m3, m4, p0, p1, p2, p3, p4⟩ := HCEL.out w3 hbw3; have s3 := hbw3.size; clear hb3))
        go_wp2_with fail
        go_roundw
        case rel => exact ⟨k + 1, AO, cO, by omega, by go_num, by rw [HST2.out], Lib.hid (by rw [HST2.out]; exact HO3.out), hbw3⟩
        case measure => simp [intOf]; omega
    · have hke : k = n := by omega
      subst hke
      have HO2 := Lib.hid HO.out
      rw [HRES.out] at HO2 hle ⊢
      have kl0 : ¬ (k : Int) < (k : Int) := by omega
      clear HO HST
      go_wp2_with fail
      go_ret
      exact ⟨_, rfl, HO2.out, hb⟩
end Go.Proofs.Ytkjfceajakhlfaa
