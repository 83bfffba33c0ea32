/- numbersOf. -/
import Derived.Test.YtngaepgepcnhkaaJA
namespace Go.Proofs.Ytngaepgepcnhkaa
set_option linter.unusedVariables false
set_option linter.unusedSimpArgs false
open Go.RowKit

theorem numbersL_step {xs : List Iss} {k : Nat} (h : k < xs.length) : numbersL (xs.take (k + 1)) = numbersL (xs.take k) ++ if xs[k].l = 1 then [xs[k].d] else [] := by
  unfold numbersL
  rw [List.take_succ_eq_append_getElem h, List.filter_append, List.map_append]
  congr 1
  by_cases e : xs[k].l = 1 <;> simp [e]
theorem numbersL_le (xs : List Iss) (k : Nat) : (numbersL (xs.take k)).length ≤ k := by
  unfold numbersL
  rw [List.length_map]
  exact Nat.le_trans (List.length_filter_le _ _) (List.length_take_le _ _)
set_option maxHeartbeats 2000000 in
theorem numbersOf_any (A : Option Addr) (c b off : Nat) (xs : List Iss) (vi vd : Nat → Value) (w : World) (hl : xs.length ≤ 1000) (hA : 0 < xs.length → A = some ⟨b, off, none⟩) (hc : IssRow w b off xs vi vd) :
    Calls Try.prog 106 #[.slice A xs.length c] w fun e w' => ∃ v, e = .returned v ∧ w'.ownsRow w.heap.size 3 1 v (numbersL xs).length (cellsN (numbersL xs)) ∧ Below w.heap.size w w' := by
  have HC := Lib.hid hc
  have HA := Lib.hid hA
  clear hc hA
  obtain ⟨i0, hi, hz0, hz1, hz2⟩ := info_parts infoN
  go_enter Try.func106, Try.ntmps106
  go_wp2_with fail
  go_loopw [3, 8] (fun v i wr => ∃ (k : Nat), k ≤ xs.length ∧ i = .int .i64 k ∧ Hid (wr.ownsRow w.heap.size 3 1 v (numbersL (xs.take k)).length (cellsN (numbersL (xs.take k)))) ∧ Below w.heap.size w wr) (fun _ i _ => xs.length - (intOf i).toNat)
  case atStart => exact ⟨0, by omega, rfl, Lib.hid (World.ownsRow_nil _ _ _ _), by (repeat' (first | (with_reducible exact Below.refl _ _) | (with_reducible assumption) | (with_reducible refine Below.alloc ?_ ?_ _) | (with_reducible refine Below.setCell ?_ ?_ _) | (with_reducible refine below_row ?_ ?_ _) | (with_reducible refine Below.drew ?_) | (with_reducible refine below_drewN ?_ _) | (with_reducible refine Below.trans ?_ (Below.mono (by assumption) ?_)) | (first | exact Nat.le_refl _ | omega | (simp; done) | (simp; omega) | (exact Below.size (by assumption)))))⟩
  case round =>
    obtain ⟨k, hk, rfl, HO, hb⟩ := hrel
    have hz := hb.size
    have hll := numbersL_le xs k
    by_cases hlt : k < xs.length
    · obtain rfl := HA.out (by omega)
      obtain ⟨q0, q1, q2, q3, q4, -, -, -⟩ := (HC.out.after hb) k hlt
      obtain ⟨e3, e4⟩ := HC.out.slices hlt
      generalize vi k = va at *
      generalize vd k = ve at *
      obtain ⟨A1, n1, c1, rfl⟩ := e3
      obtain ⟨A2, n2, c2, rfl⟩ := e4
      have HS := Lib.hid (numbersL_step hlt)
      generalize hx : xs[k] = x at *
      clear hx
      obtain ⟨d, l, kk, it, di⟩ := x
      simp only at q0 q1 q2 HS
      generalize hnl : numbersL (xs.take k) = nl at *
      have HNL := Lib.hid hnl
      clear hnl
      by_cases h1 : l = 1
      · subst h1
        go_wp2_with (at_builtin; refine wpList_append_own _ rfl _ _ 29 rfl w.heap.size 3 i0 (.int .i64 0) 1 8 Try.underlying29 hi hz0 hz1 hz2 rfl (by decide) _ _ _ rfl ((HO.out.alloc _).alloc _) ⟨wr.heap.size + 1, 0, none⟩ 1 1 [.int .i64 d] rfl rfl (World.news_of_block (cs := #[.int .i64 d]) (t := 3) (fr := (0, 0)) (Lies.new (by simp))) (by simp [Value.oneCell']) (by unfold maxLen; omega) (by omega) (by simp; omega) ?_; intro v' w1 hown' hgrow _; have HB2 := Lib.hid (below_own (w0 := w) (B := w.heap.size) (by (repeat' (first | (with_reducible exact Below.refl _ _) | (with_reducible assumption) | (with_reducible refine Below.alloc ?_ ?_ _) | (with_reducible refine Below.setCell ?_ ?_ _) | (with_reducible refine below_row ?_ ?_ _) | (with_reducible refine Below.drew ?_) | (with_reducible refine below_drewN ?_ _) | (with_reducible refine Below.trans ?_ (Below.mono (by assumption) ?_)) | (first | exact Nat.le_refl _ | omega | (simp; done) | (simp; omega) | (exact Below.size (by assumption)))))) ((HO.out.alloc (.cells #[.int .i64 d, .int .i64 1, .int .u8 kk, .slice A1 n1 c1, .slice A2 n2 c2] 45)).alloc (.cells #[.int .i64 d] 3)) hgrow (Nat.le_refl _) (by simp; omega)); have HO2 := Lib.hid hown'; clear hown' hgrow)
        go_roundw
        case rel => exact ⟨k + 1, by omega, by go_num, Lib.hid (by rw [HS.out, if_pos rfl, List.length_append]; unfold cellsN; rw [List.map_append]; exact HO2.out), HB2.out⟩
        case measure => simp [intOf]; omega
      · have h1' : (l == 1) = false := by rw [beq_eq_false_iff_ne]; exact h1
        have HL := Lib.hid h1
        clear h1
        go_wp2_with fail
        go_roundw
        case rel => exact ⟨k + 1, by omega, by go_num, Lib.hid (by rw [HS.out, if_neg HL.out, List.append_nil]; exact HO.out.alloc _), by (repeat' (first | (with_reducible exact Below.refl _ _) | (with_reducible assumption) | (with_reducible refine Below.alloc ?_ ?_ _) | (with_reducible refine Below.setCell ?_ ?_ _) | (with_reducible refine below_row ?_ ?_ _) | (with_reducible refine Below.drew ?_) | (with_reducible refine below_drewN ?_ _) | (with_reducible refine Below.trans ?_ (Below.mono (by assumption) ?_)) | (first | exact Nat.le_refl _ | omega | (simp; done) | (simp; omega) | (exact Below.size (by assumption)))))⟩
        case measure => simp [intOf]; omega
    · have hke : k = xs.length := by omega
      have HR := Lib.hid HO.out
      rw [hke, List.take_length] at HR
      clear HO
      subst hke
      go_wp2
      go_ret
      exact ⟨_, rfl, HR.out, hb⟩
end Go.Proofs.Ytngaepgepcnhkaa
