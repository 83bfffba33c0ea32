/- The reference: Find. -/
import Derived.Test.YtngaepgepcnhkaaJ8
import Derived.Test.YtngaepgepcnhkaaJD
namespace Go.Proofs.Ytngaepgepcnhkaa
set_option linter.unusedVariables false
set_option linter.unusedSimpArgs false
open Go.RowKit

set_option maxRecDepth 100000 in
set_option maxHeartbeats 8000000 in
theorem rFind_any (A : Option Addr) (c b off : Nat) (xs : List Iss) (vi vd : Nat → Value) (d l : Int) (w : World) (hl : xs.length ≤ 1000) (hA : 0 < xs.length → A = some ⟨b, off, none⟩) (hc : IssRow w b off xs vi vd) :
    Calls Try.prog 71 #[.agg #[.slice A xs.length c], .agg #[.int .i64 d, .int .i64 l]] w (FindP xs vi vd d l w) := by
  have HA := Lib.hid hA
  have HC := Lib.hid hc
  clear hA hc
  have HD0 := Lib.hid (((Lies.made w 24 #[.slice A xs.length c]).alloc (.cells #[.int .i64 d, .int .i64 l] 26)).alloc (.cells #[.int .i64 0, .int .i64 0, .int .u8 0, .slice none 0 0, .slice none 0 0] 45))
  have HF0 := Lib.hid ((Lies.new (u := w.alloc (.cells #[.slice A xs.length c] 24)) (k := w.heap.size + 1) (t := 26) (cs := #[.int .i64 d, .int .i64 l]) (by simp)).alloc (.cells #[.int .i64 0, .int .i64 0, .int .u8 0, .slice none 0 0, .slice none 0 0] 45))
  have HR0 := Lib.hid (Lies.new (u := (w.alloc (.cells #[.slice A xs.length c] 24)).alloc (.cells #[.int .i64 d, .int .i64 l] 26)) (k := w.heap.size + 1 + 1) (t := 45) (cs := #[.int .i64 0, .int .i64 0, .int .u8 0, .slice none 0 0, .slice none 0 0]) (by simp))
  go_enter Try.func71, Try.ntmps71
  go_wp2_with fail
  go_loopw [6] (fun i wr => ∃ (k : Nat), k ≤ xs.length ∧ i = .int .i64 k ∧ Hid (∀ j : Fin xs.length, j.1 < k → ¬ isN xs d l j) ∧ Hid (Lies wr w.heap.size 24 #[.slice A xs.length c]) ∧ Hid (Lies wr (w.heap.size + 1) 26 #[.int .i64 d, .int .i64 l]) ∧ Hid (Lies wr (w.heap.size + 1 + 1) 45 #[.int .i64 0, .int .i64 0, .int .u8 0, .slice none 0 0, .slice none 0 0]) ∧ Below w.heap.size w wr) (fun i _ => xs.length - (intOf i).toNat)
  case atStart => exact ⟨0, by omega, rfl, Lib.hid (fun j hj => by omega), HD0, HF0, HR0, by (repeat' (first | (with_reducible exact Below.refl _ _) | (with_reducible assumption) | (with_reducible refine Below.alloc ?_ ?_ _) | (with_reducible refine Below.setCell ?_ ?_ _) | (with_reducible refine below_row ?_ ?_ _) | (with_reducible refine Below.drew ?_) | (with_reducible refine below_drewN ?_ _) | (with_reducible refine Below.trans ?_ (Below.mono (by assumption) ?_)) | (first | exact Nat.le_refl _ | omega | (simp; done) | (simp; omega) | (exact Below.size (by assumption)))))⟩
  case round =>
    obtain ⟨k, hk, rfl, HJ, HD, HF, HR, hb⟩ := hrel
    have hz := hb.size
    have d0 := HD.out.cell 0
    have zd := HD.out.lt
    have f0 := HF.out.cell 0
    have f1 := HF.out.cell 1
    have zf := HF.out.lt
    have zr := HR.out.lt
    by_cases hlt : k < xs.length
    · obtain rfl := HA.out (by omega)
      obtain ⟨q0, q1, q2, q3, q4, -⟩ := (HC.out.after hb) k hlt
      obtain ⟨e3, e4⟩ := HC.out.slices hlt
      have kl1 : (k : Int) < (xs.length : Int) := by omega
      have hnx : isN xs d l ⟨k, hlt⟩ = (xs[k].d = d ∧ xs[k].l = l) := rfl
      have HNX := Lib.hid hnx
      have HVI : Hid (∃ v1 v2, vi k = v1 ∧ vd k = v2) := Lib.hid ⟨_, _, rfl, rfl⟩
      obtain ⟨v1, v2, hv1, hv2⟩ := HVI.out
      have HV1 := Lib.hid hv1
      have HV2 := Lib.hid hv2
      rw [hv1] at q3 e3
      rw [hv2] at q4 e4
      obtain ⟨A1, n1, c1, rfl⟩ := e3
      obtain ⟨A2, n2, c2, rfl⟩ := e4
      have HDD : Hid (∃ dx lx kx, xs[k].d = dx ∧ xs[k].l = lx ∧ xs[k].k = kx) := Lib.hid ⟨_, _, _, rfl, rfl, rfl⟩
      obtain ⟨dx, lx, kx, hdx, hlx, hkx⟩ := HDD.out
      have HDX := Lib.hid hdx
      have HLX := Lib.hid hlx
      have HKX := Lib.hid hkx
      rw [hdx] at q0 HNX
      rw [hlx] at q1 HNX
      rw [hkx] at q2
      clear hnx hv1 hv2 HVI HDD hdx hlx hkx
      have HJN : Hid (¬ isN xs d l ⟨k, hlt⟩ → ∀ j : Fin xs.length, j.1 < k + 1 → ¬ isN xs d l j) := Lib.hid (fun hn j hj => by
        by_cases e : j.1 = k
        · have : j = ⟨k, hlt⟩ := Fin.ext e
          rw [this]; exact hn
        · exact HJ.out j (by omega))
      by_cases h1 : dx = d
      · have b1 : (dx == d) = true := by simpa using h1
        by_cases h2 : lx = l
        · have b2 : (lx == l) = true := by simpa using h2
          have HIS : Hid (isN xs d l ⟨k, hlt⟩) := Lib.hid (by rw [HNX.out]; exact ⟨h1, h2⟩)
          have r0 := HR.out.cell 0
          have r1 := HR.out.cell 1
          have r2 := HR.out.cell 2
          have r3 := HR.out.cell 3
          have r4 := HR.out.cell 4
          have m0 := HR.out.free 0
          have m1 := HR.out.free 1
          have m2 := HR.out.free 2
          have m3 := HR.out.free 3
          have m4 := HR.out.free 4
          clear h1 h2
          go_wp2_with fail
          refine bodyPost_ret (results_cell_tmp rfl _ _ (w.heap.size + 1 + 1) _ _ _ _ rfl rfl ((HR.out.five (.int .i64 dx) (.int .i64 lx) (.int .u8 kx) (.slice A1 n1 c1) (.slice A2 n2 c2)).alloc _) Try.underlying45 rfl (by kernel_rfl)) rfl ⟨.inl ⟨⟨k, hlt⟩, HIS.out, HJ.out, ?_⟩, (below_five hb (by omega) _ _ _ _ _).alloc (by simp; omega) _⟩
          show _ = Ending.returned (.tuple #[.agg #[.int .i64 (xs[k].d), .int .i64 (xs[k].l), .int .u8 (xs[k].k), vi k, vd k], .bool true])
          rw [HDX.out, HLX.out, HKX.out, HV1.out, HV2.out]
          rfl
        · have b2 : (lx == l) = false := by simpa using h2
          have HNO := Lib.hid (HJN.out (by rw [HNX.out]; exact fun h => h2 h.2))
          clear h1 h2
          go_wp2_with fail
          go_roundw
          case rel => exact ⟨k + 1, by omega, by go_num, HNO, Lib.hid (HD.out.alloc _), Lib.hid (HF.out.alloc _), Lib.hid (HR.out.alloc _), hb.alloc hb.size _⟩
          case measure => simp [intOf]; omega
      · have b1 : (dx == d) = false := by simpa using h1
        have HNO := Lib.hid (HJN.out (by rw [HNX.out]; exact fun h => h1 h.1))
        clear h1
        go_wp2_with fail
        go_roundw
        case rel => exact ⟨k + 1, by omega, by go_num, HNO, Lib.hid (HD.out.alloc _), Lib.hid (HF.out.alloc _), Lib.hid (HR.out.alloc _), hb.alloc hb.size _⟩
        case measure => simp [intOf]; omega
    · have HNO : Hid (∀ j : Fin xs.length, ¬ isN xs d l j) := Lib.hid (fun j => HJ.out j (by omega))
      have r0 := HR.out.cell 0
      have r1 := HR.out.cell 1
      have r2 := HR.out.cell 2
      have r3 := HR.out.cell 3
      have r4 := HR.out.cell 4
      have m0 := HR.out.free 0
      have m1 := HR.out.free 1
      have m2 := HR.out.free 2
      have m3 := HR.out.free 3
      have m4 := HR.out.free 4
      go_wp2_with fail
      refine bodyPost_ret (results_cell_tmp rfl _ _ (w.heap.size + 1 + 1) _ _ _ _ rfl rfl (HR.out.five (.int .i64 0) (.int .i64 0) (.int .u8 0) (.slice none 0 0) (.slice none 0 0)) Try.underlying45 rfl (by kernel_rfl)) rfl ⟨.inr ⟨HNO.out, rfl⟩, below_five hb (by omega) _ _ _ _ _⟩
end Go.Proofs.Ytngaepgepcnhkaa
