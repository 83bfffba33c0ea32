/- joined: all issues of two registers, in the program's order. -/
import Derived.Test.YtkjfceajakhlfaaUS
import Derived.Test.YtkjfceajakhlfaaVJ
namespace Go.Proofs.Ytkjfceajakhlfaa
set_option linter.unusedVariables false
set_option linter.unusedSimpArgs false
open Go.RowKit Go.BigFrame

theorem infoQ3 : (Try.prog.info? 45).map (fun i => (i.zero, i.size, i.bytes)) = some (some zIss, 5, 72) := by kernel_rfl
/-- What joined gives. -/
def JoinP (xs ys : List Iss) (w : World) (e : Ending) (w' : World) : Prop :=
  ∃ v rs, e = .returned (.agg #[v]) ∧ OwnReg w' w.heap.size v rs ∧ rs.map (·.1) = joinL xs ys ∧ Below w.heap.size w w'
set_option maxRecDepth 100000 in
set_option maxHeartbeats 16000000 in
theorem joined_any {A B : Option Addr} {c b off e b2 off2 : Nat} {xs ys : List Iss} {vi vd ui ud : Nat → Value} {w : World} (hlx : xs.length ≤ 1000) (hly : ys.length ≤ 1000) (hcx : xs.length ≤ c) (hcy : ys.length ≤ e)
    (hsx : ∀ x ∈ xs, x.items.length ≤ 1000 ∧ x.dims.length ≤ 1000) (hsy : ∀ x ∈ ys, x.items.length ≤ 1000 ∧ x.dims.length ≤ 1000) (hA : 0 < xs.length → A = some ⟨b, off, none⟩) (hB : 0 < ys.length → B = some ⟨b2, off2, none⟩) (hc : IssRow w b off xs vi vd) (hd : IssRow w b2 off2 ys ui ud) :
    Calls Try.prog 98 #[.slice A xs.length c, .slice B ys.length e] w (JoinP xs ys w) := by
  have HC := Lib.hid hc
  have HD := Lib.hid hd
  have HSX := Lib.hid hsx
  have HSY := Lib.hid hsy
  have HAX : Hid (0 < xs.length → A = some ⟨b, off + 0 * 5, none⟩) := Lib.hid (by simpa using hA)
  have HBY : Hid (0 < ys.length → B = some ⟨b2, off2 + 0 * 5, none⟩) := Lib.hid (by simpa using hB)
  clear hc hd hsx hsy hA hB
  obtain ⟨q0, hq0, hz0, hz1, hz2⟩ := info_parts infoQ3
  have HR0 := Lib.hid (Lies.made w 24 #[.slice none 0 0])
  go_enter Try.func98, Try.ntmps98
  go_wp2_with fail
  go_loopw [0, 1, 5] (fun s0 s1 s5 wr => ∃ (i j n0 : Nat) (A0 : Option Addr) (c0 m0 : Nat) (B0 : Option Addr) (e0 : Nat) (AO : Option Addr) (cO : Nat) (rs : List (Iss × Value × Value)), i ≤ xs.length ∧ j ≤ ys.length ∧ n0 + i = xs.length ∧ m0 + j = ys.length ∧ n0 ≤ c0 ∧ m0 ≤ e0 ∧ s0 = .slice A0 n0 c0 ∧ s1 = .slice B0 m0 e0 ∧ s5 = .slice AO rs.length cO ∧ Hid (0 < n0 → A0 = some ⟨b, off + i * 5, none⟩) ∧ Hid (0 < m0 → B0 = some ⟨b2, off2 + j * 5, none⟩) ∧ Hid (OwnReg wr w.heap.size (.slice AO rs.length cO) rs) ∧ Hid (rs.map (·.1) ++ joinL (xs.drop i) (ys.drop j) = joinL xs ys) ∧ Hid (Lies wr w.heap.size 24 #[.slice none 0 0]) ∧ rs.length ≤ i + j ∧ Below w.heap.size w wr) (fun s0 s1 _ _ => lenV s0 + lenV s1)
  case atStart => exact ⟨0, 0, xs.length, A, c, ys.length, B, e, none, 0, [], by omega, by omega, by omega, by omega, hcx, hcy, rfl, rfl, rfl, HAX, HBY, Lib.hid (OwnReg.nil _ _), Lib.hid rfl, HR0, by simp, by (repeat' (first | (with_reducible first | exact Below.refl _ _ | assumption | refine Below.alloc ?_ ?_ _ | refine Below.setCell ?_ ?_ _ | refine below_row ?_ ?_ _ | refine Below.drew ?_ | refine below_drewN ?_ _ | refine Below.trans ?_ (Below.mono (by assumption) ?_)) | exact Nat.le_refl _ | omega | (simp; done) | (simp; omega) | exact Below.size (by assumption)))⟩
  case round =>
    obtain ⟨i, j, n0, A0, c0, m0, B0, e0, AO, cO, rs, hi, hj, hni, hmj, hnc, hme, rfl, rfl, rfl, HA0, HB0, HO, HJ, HR, hlen, hb⟩ := hrel
    have hz := hb.size
    have zr := HR.out.lt
    by_cases hn : 0 < n0
    · have hltx : i < xs.length := by omega
      obtain rfl := HA0.out (by omega)
      obtain ⟨ATx, hslx, hatx⟩ := tail_any (c := c0) (show 0 < n0 by omega) (by omega) (rfl : some (⟨b, off + i * 5, none⟩ : Addr) = some ⟨b, off + i * 5, none⟩)
      have HTx : Hid (0 < n0 - 1 → ATx = some ⟨b, off + (i + 1) * 5, none⟩) := Lib.hid (fun h => (hatx (by omega)).trans (by rw [show off + i * 5 + 5 = off + (i + 1) * 5 by omega]))
      clear hatx
      have kx : (0 : Int) < (n0 : Int) := by omega
      have kex : ((n0 : Int) == 0) = false := by rw [beq_eq_false_iff_ne]; omega
      have HKx := Lib.hid (sCopied_v HC.out HSX.out i hltx)
      obtain ⟨⟨xA1, xn1, xc1, xe1⟩, xA2, xn2, xc2, xe2⟩ := HC.out.slices hltx
      have HWx := Lib.hid (fun W (hW : Below w.heap.size w W) => (HC.out.after hW) i hltx)
      rw [xe1, xe2] at HWx HKx
      have HLx := Lib.hid (fun W (hW : Below w.heap.size w W) => (show W.cell? ⟨b, off + i * 5, none⟩ = some (.int .i64 (xs[i].d)) ∧ W.cell? ⟨b, off + i * 5 + 1, none⟩ = some (.int .i64 (xs[i].l)) ∧ W.cell? ⟨b, off + i * 5 + 2, none⟩ = some (.int .u8 xs[i].k) ∧ W.cell? ⟨b, off + i * 5 + 3, none⟩ = some (.slice xA1 xn1 xc1) ∧ W.cell? ⟨b, off + i * 5 + 4, none⟩ = some (.slice xA2 xn2 xc2) from ⟨(HWx.out W hW).1, (HWx.out W hW).2.1, (HWx.out W hW).2.2.1, (HWx.out W hW).2.2.2.1, (HWx.out W hW).2.2.2.2.1⟩))
      clear HWx xe1 xe2
      have HNx := Lib.hid (fun W => nameOf_any xs[i].d xs[i].l xs[i].k (.slice xA1 xn1 xc1) (.slice xA2 xn2 xc2) W)
      by_cases hm : 0 < m0
      · have hlty : j < ys.length := by omega
        obtain rfl := HB0.out (by omega)
        obtain ⟨ATy, hsly, haty⟩ := tail_any (c := e0) (show 0 < m0 by omega) (by omega) (rfl : some (⟨b2, off2 + j * 5, none⟩ : Addr) = some ⟨b2, off2 + j * 5, none⟩)
        have HTy : Hid (0 < m0 - 1 → ATy = some ⟨b2, off2 + (j + 1) * 5, none⟩) := Lib.hid (fun h => (haty (by omega)).trans (by rw [show off2 + j * 5 + 5 = off2 + (j + 1) * 5 by omega]))
        clear haty
        have ky : (0 : Int) < (m0 : Int) := by omega
        have key : ((m0 : Int) == 0) = false := by rw [beq_eq_false_iff_ne]; omega
        have HKy := Lib.hid (sCopied_v HD.out HSY.out j hlty)
        obtain ⟨⟨yA1, yn1, yc1, ye1⟩, yA2, yn2, yc2, ye2⟩ := HD.out.slices hlty
        have HWy := Lib.hid (fun W (hW : Below w.heap.size w W) => (HD.out.after hW) j hlty)
        rw [ye1, ye2] at HWy HKy
        have HLy := Lib.hid (fun W (hW : Below w.heap.size w W) => (show W.cell? ⟨b2, off2 + j * 5, none⟩ = some (.int .i64 (ys[j].d)) ∧ W.cell? ⟨b2, off2 + j * 5 + 1, none⟩ = some (.int .i64 (ys[j].l)) ∧ W.cell? ⟨b2, off2 + j * 5 + 2, none⟩ = some (.int .u8 ys[j].k) ∧ W.cell? ⟨b2, off2 + j * 5 + 3, none⟩ = some (.slice yA1 yn1 yc1) ∧ W.cell? ⟨b2, off2 + j * 5 + 4, none⟩ = some (.slice yA2 yn2 yc2) from ⟨(HWy.out W hW).1, (HWy.out W hW).2.1, (HWy.out W hW).2.2.1, (HWy.out W hW).2.2.2.1, (HWy.out W hW).2.2.2.2.1⟩))
        clear HWy ye1 ye2
        have HNy := Lib.hid (fun W => nameOf_any ys[j].d ys[j].l ys[j].k (.slice yA1 yn1 yc1) (.slice yA2 yn2 yc2) W)
        by_cases hlt : ys[j].d < xs[i].d
        · have e1 : (xs[i].d == ys[j].d) = false := by rw [beq_eq_false_iff_ne]; omega

          go_wp2_with fail
          have hup : Nonempty (Up wr) := ⟨⟨wr, Below.refl _ _⟩⟩
          have ux0 : ∀ n : Up wr, n.val.cell? ⟨b, off + i * 5, none⟩ = some (.int .i64 (xs[i].d)) := fun n => (HLx.out n.val (hb.trans (n.ok.mono hb.size))).1
          have ux1 : ∀ n : Up wr, n.val.cell? ⟨b, off + i * 5 + 1, none⟩ = some (.int .i64 (xs[i].l)) := fun n => (HLx.out n.val (hb.trans (n.ok.mono hb.size))).2.1
          have ux2 : ∀ n : Up wr, n.val.cell? ⟨b, off + i * 5 + 2, none⟩ = some (.int .u8 xs[i].k) := fun n => (HLx.out n.val (hb.trans (n.ok.mono hb.size))).2.2.1
          have ux3 : ∀ n : Up wr, n.val.cell? ⟨b, off + i * 5 + 3, none⟩ = some (.slice xA1 xn1 xc1) := fun n => (HLx.out n.val (hb.trans (n.ok.mono hb.size))).2.2.2.1
          have ux4 : ∀ n : Up wr, n.val.cell? ⟨b, off + i * 5 + 4, none⟩ = some (.slice xA2 xn2 xc2) := fun n => (HLx.out n.val (hb.trans (n.ok.mono hb.size))).2.2.2.2
          have uy0 : ∀ n : Up wr, n.val.cell? ⟨b2, off2 + j * 5, none⟩ = some (.int .i64 (ys[j].d)) := fun n => (HLy.out n.val (hb.trans (n.ok.mono hb.size))).1
          have uy1 : ∀ n : Up wr, n.val.cell? ⟨b2, off2 + j * 5 + 1, none⟩ = some (.int .i64 (ys[j].l)) := fun n => (HLy.out n.val (hb.trans (n.ok.mono hb.size))).2.1
          have uy2 : ∀ n : Up wr, n.val.cell? ⟨b2, off2 + j * 5 + 2, none⟩ = some (.int .u8 ys[j].k) := fun n => (HLy.out n.val (hb.trans (n.ok.mono hb.size))).2.2.1
          have uy3 : ∀ n : Up wr, n.val.cell? ⟨b2, off2 + j * 5 + 3, none⟩ = some (.slice yA1 yn1 yc1) := fun n => (HLy.out n.val (hb.trans (n.ok.mono hb.size))).2.2.2.1
          have uy4 : ∀ n : Up wr, n.val.cell? ⟨b2, off2 + j * 5 + 4, none⟩ = some (.slice yA2 yn2 yc2) := fun n => (HLy.out n.val (hb.trans (n.ok.mono hb.size))).2.2.2.2
          refine wp_region_up (by kernel_rfl) (by kernel_rfl) ?_
          repeat (first | go_big_quiet_skip | (go_big_quiet_want; go_big_quiet_op; first | go_big_quiet_on | go_big_quiet_call ((go_at_call 83; first | exact Up.call (HNx.out _) | exact Up.call (HNy.out _)))))
          refine wpQuiet_nil ?_
          rintro w7 ⟨n7, hn7⟩
          have hb7 := n7.ok
          rw [← hn7] at hb7
          clear hn7 n7
          have hbw7 : Below w.heap.size w w7 := hb.trans (hb7.mono hb.size)
          have HO7 := Lib.hid (HO.out.after hb7)
          have HR7 := Lib.hid (HR.out.after hb7)
          clear ux0 ux1 ux2 ux3 ux4 uy0 uy1 uy2 uy3 uy4 hup

          go_wp2_with fail
          have hup : Nonempty (Up w7) := ⟨⟨w7, Below.refl _ _⟩⟩
          have ux0 : ∀ n : Up w7, n.val.cell? ⟨b, off + i * 5, none⟩ = some (.int .i64 (xs[i].d)) := fun n => (HLx.out n.val (hbw7.trans (n.ok.mono hbw7.size))).1
          have ux1 : ∀ n : Up w7, n.val.cell? ⟨b, off + i * 5 + 1, none⟩ = some (.int .i64 (xs[i].l)) := fun n => (HLx.out n.val (hbw7.trans (n.ok.mono hbw7.size))).2.1
          have ux2 : ∀ n : Up w7, n.val.cell? ⟨b, off + i * 5 + 2, none⟩ = some (.int .u8 xs[i].k) := fun n => (HLx.out n.val (hbw7.trans (n.ok.mono hbw7.size))).2.2.1
          have ux3 : ∀ n : Up w7, n.val.cell? ⟨b, off + i * 5 + 3, none⟩ = some (.slice xA1 xn1 xc1) := fun n => (HLx.out n.val (hbw7.trans (n.ok.mono hbw7.size))).2.2.2.1
          have ux4 : ∀ n : Up w7, n.val.cell? ⟨b, off + i * 5 + 4, none⟩ = some (.slice xA2 xn2 xc2) := fun n => (HLx.out n.val (hbw7.trans (n.ok.mono hbw7.size))).2.2.2.2
          have uy0 : ∀ n : Up w7, n.val.cell? ⟨b2, off2 + j * 5, none⟩ = some (.int .i64 (ys[j].d)) := fun n => (HLy.out n.val (hbw7.trans (n.ok.mono hbw7.size))).1
          have uy1 : ∀ n : Up w7, n.val.cell? ⟨b2, off2 + j * 5 + 1, none⟩ = some (.int .i64 (ys[j].l)) := fun n => (HLy.out n.val (hbw7.trans (n.ok.mono hbw7.size))).2.1
          have uy2 : ∀ n : Up w7, n.val.cell? ⟨b2, off2 + j * 5 + 2, none⟩ = some (.int .u8 ys[j].k) := fun n => (HLy.out n.val (hbw7.trans (n.ok.mono hbw7.size))).2.2.1
          have uy3 : ∀ n : Up w7, n.val.cell? ⟨b2, off2 + j * 5 + 3, none⟩ = some (.slice yA1 yn1 yc1) := fun n => (HLy.out n.val (hbw7.trans (n.ok.mono hbw7.size))).2.2.2.1
          have uy4 : ∀ n : Up w7, n.val.cell? ⟨b2, off2 + j * 5 + 4, none⟩ = some (.slice yA2 yn2 yc2) := fun n => (HLy.out n.val (hbw7.trans (n.ok.mono hbw7.size))).2.2.2.2
          refine wp_region_up (by kernel_rfl) (by kernel_rfl) ?_
          repeat (first | go_big_quiet_skip | (go_big_quiet_want; go_big_quiet_op; first | go_big_quiet_on))
          refine wpQuiet_nil ?_
          rintro w8 ⟨n8, hn8⟩
          have hb8 := n8.ok
          rw [← hn8] at hb8
          clear hn8 n8
          have hbw8 : Below w.heap.size w w8 := hbw7.trans (hb8.mono hbw7.size)
          have HO8 := Lib.hid (HO7.out.after hb8)
          have HR8 := Lib.hid (HR7.out.after hb8)
          have hs8 := hbw8.size
          clear ux0 ux1 ux2 ux3 ux4 uy0 uy1 uy2 uy3 uy4 hup

          have HJN : Hid ((rs ++ [(ys[j], Value.slice none 0 0, Value.slice none 0 0)]).map (·.1) ++ joinL (xs.drop i) (ys.drop (j + 1)) = joinL xs ys) := Lib.hid (by rw [List.map_append]; exact join_right hlty HJ.out (.inr ⟨hltx, hlt⟩))
          obtain ⟨f0, f1, f2, f3, f4⟩ := HLy.out w8 hbw8
          go_wp2_with fail
          refine (HKy.out _ (by (repeat' (first | (with_reducible first | exact Below.refl _ _ | assumption | refine Below.alloc ?_ ?_ _ | refine Below.setCell ?_ ?_ _ | refine below_row ?_ ?_ _ | refine Below.drew ?_ | refine below_drewN ?_ _ | refine Below.trans ?_ (Below.mono (by assumption) ?_)) | exact Nat.le_refl _ | omega | (simp; done) | (simp; omega) | exact Below.size (by assumption))))).mono ?_
          rintro e9 w9 ⟨v9, rfl, hown, hb9⟩
          obtain ⟨vi', vd', rfl, hk9, ho1, ho2⟩ := hown
          have hb89 : Below w8.heap.size w8 w9 := by (repeat' (first | (with_reducible first | exact Below.refl _ _ | assumption | refine Below.alloc ?_ ?_ _ | refine Below.setCell ?_ ?_ _ | refine below_row ?_ ?_ _ | refine Below.drew ?_ | refine below_drewN ?_ _ | refine Below.trans ?_ (Below.mono (by assumption) ?_)) | exact Nat.le_refl _ | omega | (simp; done) | (simp; omega) | exact Below.size (by assumption)))
          have hbw9 : Below w.heap.size w w9 := hbw8.trans (hb89.mono hs8)
          have hs9 := hbw9.size
          have HO9 := Lib.hid (HO8.out.after hb89)
          have HR9 := Lib.hid (HR8.out.after hb89)
          have HT9 : Hid (OwnT w9 w.heap.size (ys[j], vi', vd')) := Lib.hid ⟨hk9, own_less ho1 (by first | exact hs8 | omega), own_less ho2 (by first | exact hs8 | omega)⟩
          obtain ⟨A3, c3, g3, rfl, -⟩ := own_form ho1
          obtain ⟨A4, c4, g4, rfl, -⟩ := own_form ho2
          clear ho1 ho2 hb9 hk9 f0 f1 f2 f3 f4 HKy
          have zc := cellsT_len rs
          go_wp2_with (at_builtin; refine wpList_row2 rfl _ _ 22 rfl w.heap.size 45 q0 zIss 5 72 Try.underlying22 hq0 hz0 hz1 hz2 rfl (by decide) _ rs.length (cellsT rs) rfl (World.ownsRow.alloc HO9.out.1 _) (some ⟨_, 0, none⟩) 1 1 [.int .i64 (ys[j].d), .int .i64 (ys[j].l), .int .u8 ys[j].k, .slice A3 ys[j].items.length c3, .slice A4 ys[j].dims.length c4] (by rfl) (fun h => by cases h) (by rfl) (fun ad had => by injection had with had; subst had; exact World.news_of_block (Lies.made _ _ _)) (by simp [Value.oneCell']) (by unfold maxLen; omega) (by omega) (by simp; omega) ?_; intro v10 w10 ho10 hap10 hbl10 _; have hbw10 : Below w.heap.size w w10 := hbl10 w (by (repeat' (first | (with_reducible first | exact Below.refl _ _ | assumption | refine Below.alloc ?_ ?_ _ | refine Below.setCell ?_ ?_ _ | refine below_row ?_ ?_ _ | refine Below.drew ?_ | refine below_drewN ?_ _ | refine Below.trans ?_ (Below.mono (by assumption) ?_)) | exact Nat.le_refl _ | omega | (simp; done) | (simp; omega) | exact Below.size (by assumption)))) (Nat.le_refl _); have HO10 := Lib.hid (OwnReg.snoc (r := (ys[j], Value.slice A3 ys[j].items.length c3, Value.slice A4 ys[j].dims.length c4)) (fun r hr => (HO9.out.2 r hr).after ((Below.refl _ w9).alloc (Nat.le_refl _) _)) (HT9.out.after ((Below.refl _ w9).alloc (Nat.le_refl _) _)) ho10 hap10); have HR10 := Lib.hid (hap10 w.heap.size 24 #[.slice none 0 0] (by decide) (HR9.out.alloc _)); obtain ⟨A10, c10, g10, rfl, -⟩ := own_form ho10; clear ho10 hap10 hbl10)
          have HO10N : Hid (OwnReg w10 w.heap.size (.slice A10 (rs ++ [(ys[j], Value.slice A3 ys[j].items.length c3, Value.slice A4 ys[j].dims.length c4)]).length c10) (rs ++ [(ys[j], Value.slice A3 ys[j].items.length c3, Value.slice A4 ys[j].dims.length c4)])) := Lib.hid (by rw [List.length_append]; exact HO10.out)
          replace HJN : Hid ((rs ++ [(ys[j], Value.slice A3 ys[j].items.length c3, Value.slice A4 ys[j].dims.length c4)]).map (·.1) ++ joinL (xs.drop i) (ys.drop (j + 1)) = joinL xs ys) := Lib.hid (by have := HJN.out; rw [List.map_append] at this ⊢; exact this)
          go_roundw
          case rel => exact ⟨i, j + 1, _, _, c0, m0 - 1, ATy, e0 - 1, A10, c10, rs ++ [(ys[j], Value.slice A3 ys[j].items.length c3, Value.slice A4 ys[j].dims.length c4)], by omega, by omega, by omega, by omega, by omega, by omega, rfl, rfl, by simp, (Lib.hid (fun h => by first | rfl | omega)), HTy, HO10N, HJN, HR10, by simp; omega, hbw10⟩
          case measure => simp [lenV]; omega
        · by_cases hd : xs[i].d = ys[j].d
          · have e1 : (xs[i].d == ys[j].d) = true := by simpa using hd
            by_cases hl : xs[i].l = ys[j].l
            · have e2 : (xs[i].l == ys[j].l) = true := by simpa using hl
              have HJN := Lib.hid (join_skip hltx hlty HJ.out hd hl)
              clear hd hl

              go_wp2_with fail
              have hup : Nonempty (Up wr) := ⟨⟨wr, Below.refl _ _⟩⟩
              have ux0 : ∀ n : Up wr, n.val.cell? ⟨b, off + i * 5, none⟩ = some (.int .i64 (xs[i].d)) := fun n => (HLx.out n.val (hb.trans (n.ok.mono hb.size))).1
              have ux1 : ∀ n : Up wr, n.val.cell? ⟨b, off + i * 5 + 1, none⟩ = some (.int .i64 (xs[i].l)) := fun n => (HLx.out n.val (hb.trans (n.ok.mono hb.size))).2.1
              have ux2 : ∀ n : Up wr, n.val.cell? ⟨b, off + i * 5 + 2, none⟩ = some (.int .u8 xs[i].k) := fun n => (HLx.out n.val (hb.trans (n.ok.mono hb.size))).2.2.1
              have ux3 : ∀ n : Up wr, n.val.cell? ⟨b, off + i * 5 + 3, none⟩ = some (.slice xA1 xn1 xc1) := fun n => (HLx.out n.val (hb.trans (n.ok.mono hb.size))).2.2.2.1
              have ux4 : ∀ n : Up wr, n.val.cell? ⟨b, off + i * 5 + 4, none⟩ = some (.slice xA2 xn2 xc2) := fun n => (HLx.out n.val (hb.trans (n.ok.mono hb.size))).2.2.2.2
              have uy0 : ∀ n : Up wr, n.val.cell? ⟨b2, off2 + j * 5, none⟩ = some (.int .i64 (ys[j].d)) := fun n => (HLy.out n.val (hb.trans (n.ok.mono hb.size))).1
              have uy1 : ∀ n : Up wr, n.val.cell? ⟨b2, off2 + j * 5 + 1, none⟩ = some (.int .i64 (ys[j].l)) := fun n => (HLy.out n.val (hb.trans (n.ok.mono hb.size))).2.1
              have uy2 : ∀ n : Up wr, n.val.cell? ⟨b2, off2 + j * 5 + 2, none⟩ = some (.int .u8 ys[j].k) := fun n => (HLy.out n.val (hb.trans (n.ok.mono hb.size))).2.2.1
              have uy3 : ∀ n : Up wr, n.val.cell? ⟨b2, off2 + j * 5 + 3, none⟩ = some (.slice yA1 yn1 yc1) := fun n => (HLy.out n.val (hb.trans (n.ok.mono hb.size))).2.2.2.1
              have uy4 : ∀ n : Up wr, n.val.cell? ⟨b2, off2 + j * 5 + 4, none⟩ = some (.slice yA2 yn2 yc2) := fun n => (HLy.out n.val (hb.trans (n.ok.mono hb.size))).2.2.2.2
              refine wp_region_up (by kernel_rfl) (by kernel_rfl) ?_
              repeat (first | go_big_quiet_skip | (go_big_quiet_want; go_big_quiet_op; first | go_big_quiet_on | go_big_quiet_call ((go_at_call 83; first | exact Up.call (HNx.out _) | exact Up.call (HNy.out _)))))
              refine wpQuiet_nil ?_
              rintro w7 ⟨n7, hn7⟩
              have hb7 := n7.ok
              rw [← hn7] at hb7
              clear hn7 n7
              have hbw7 : Below w.heap.size w w7 := hb.trans (hb7.mono hb.size)
              have HO7 := Lib.hid (HO.out.after hb7)
              have HR7 := Lib.hid (HR.out.after hb7)
              clear ux0 ux1 ux2 ux3 ux4 uy0 uy1 uy2 uy3 uy4 hup

              go_wp2_with fail
              go_roundw
              case rel => exact ⟨i, j + 1, _, _, c0, m0 - 1, ATy, e0 - 1, AO, cO, rs, by omega, by omega, by omega, by omega, by omega, by omega, rfl, rfl, rfl, Lib.hid (fun h => by first | rfl | omega), HTy, HO7, HJN, HR7, by omega, hbw7⟩
              case measure => simp [lenV]; omega
            · have e2 : (xs[i].l == ys[j].l) = false := by rw [beq_eq_false_iff_ne]; exact hl
              have HJQ := Lib.hid (join_left hltx HJ.out (.inr ⟨hlty, hlt, by omega⟩))
              clear hd hl

              go_wp2_with fail
              have hup : Nonempty (Up wr) := ⟨⟨wr, Below.refl _ _⟩⟩
              have ux0 : ∀ n : Up wr, n.val.cell? ⟨b, off + i * 5, none⟩ = some (.int .i64 (xs[i].d)) := fun n => (HLx.out n.val (hb.trans (n.ok.mono hb.size))).1
              have ux1 : ∀ n : Up wr, n.val.cell? ⟨b, off + i * 5 + 1, none⟩ = some (.int .i64 (xs[i].l)) := fun n => (HLx.out n.val (hb.trans (n.ok.mono hb.size))).2.1
              have ux2 : ∀ n : Up wr, n.val.cell? ⟨b, off + i * 5 + 2, none⟩ = some (.int .u8 xs[i].k) := fun n => (HLx.out n.val (hb.trans (n.ok.mono hb.size))).2.2.1
              have ux3 : ∀ n : Up wr, n.val.cell? ⟨b, off + i * 5 + 3, none⟩ = some (.slice xA1 xn1 xc1) := fun n => (HLx.out n.val (hb.trans (n.ok.mono hb.size))).2.2.2.1
              have ux4 : ∀ n : Up wr, n.val.cell? ⟨b, off + i * 5 + 4, none⟩ = some (.slice xA2 xn2 xc2) := fun n => (HLx.out n.val (hb.trans (n.ok.mono hb.size))).2.2.2.2
              have uy0 : ∀ n : Up wr, n.val.cell? ⟨b2, off2 + j * 5, none⟩ = some (.int .i64 (ys[j].d)) := fun n => (HLy.out n.val (hb.trans (n.ok.mono hb.size))).1
              have uy1 : ∀ n : Up wr, n.val.cell? ⟨b2, off2 + j * 5 + 1, none⟩ = some (.int .i64 (ys[j].l)) := fun n => (HLy.out n.val (hb.trans (n.ok.mono hb.size))).2.1
              have uy2 : ∀ n : Up wr, n.val.cell? ⟨b2, off2 + j * 5 + 2, none⟩ = some (.int .u8 ys[j].k) := fun n => (HLy.out n.val (hb.trans (n.ok.mono hb.size))).2.2.1
              have uy3 : ∀ n : Up wr, n.val.cell? ⟨b2, off2 + j * 5 + 3, none⟩ = some (.slice yA1 yn1 yc1) := fun n => (HLy.out n.val (hb.trans (n.ok.mono hb.size))).2.2.2.1
              have uy4 : ∀ n : Up wr, n.val.cell? ⟨b2, off2 + j * 5 + 4, none⟩ = some (.slice yA2 yn2 yc2) := fun n => (HLy.out n.val (hb.trans (n.ok.mono hb.size))).2.2.2.2
              refine wp_region_up (by kernel_rfl) (by kernel_rfl) ?_
              repeat (first | go_big_quiet_skip | (go_big_quiet_want; go_big_quiet_op; first | go_big_quiet_on | go_big_quiet_call ((go_at_call 83; first | exact Up.call (HNx.out _) | exact Up.call (HNy.out _)))))
              refine wpQuiet_nil ?_
              rintro w7 ⟨n7, hn7⟩
              have hb7 := n7.ok
              rw [← hn7] at hb7
              clear hn7 n7
              have hbw7 : Below w.heap.size w w7 := hb.trans (hb7.mono hb.size)
              have HO7 := Lib.hid (HO.out.after hb7)
              have HR7 := Lib.hid (HR.out.after hb7)
              clear ux0 ux1 ux2 ux3 ux4 uy0 uy1 uy2 uy3 uy4 hup

              go_wp2_with fail
              have hup : Nonempty (Up w7) := ⟨⟨w7, Below.refl _ _⟩⟩
              have ux0 : ∀ n : Up w7, n.val.cell? ⟨b, off + i * 5, none⟩ = some (.int .i64 (xs[i].d)) := fun n => (HLx.out n.val (hbw7.trans (n.ok.mono hbw7.size))).1
              have ux1 : ∀ n : Up w7, n.val.cell? ⟨b, off + i * 5 + 1, none⟩ = some (.int .i64 (xs[i].l)) := fun n => (HLx.out n.val (hbw7.trans (n.ok.mono hbw7.size))).2.1
              have ux2 : ∀ n : Up w7, n.val.cell? ⟨b, off + i * 5 + 2, none⟩ = some (.int .u8 xs[i].k) := fun n => (HLx.out n.val (hbw7.trans (n.ok.mono hbw7.size))).2.2.1
              have ux3 : ∀ n : Up w7, n.val.cell? ⟨b, off + i * 5 + 3, none⟩ = some (.slice xA1 xn1 xc1) := fun n => (HLx.out n.val (hbw7.trans (n.ok.mono hbw7.size))).2.2.2.1
              have ux4 : ∀ n : Up w7, n.val.cell? ⟨b, off + i * 5 + 4, none⟩ = some (.slice xA2 xn2 xc2) := fun n => (HLx.out n.val (hbw7.trans (n.ok.mono hbw7.size))).2.2.2.2
              have uy0 : ∀ n : Up w7, n.val.cell? ⟨b2, off2 + j * 5, none⟩ = some (.int .i64 (ys[j].d)) := fun n => (HLy.out n.val (hbw7.trans (n.ok.mono hbw7.size))).1
              have uy1 : ∀ n : Up w7, n.val.cell? ⟨b2, off2 + j * 5 + 1, none⟩ = some (.int .i64 (ys[j].l)) := fun n => (HLy.out n.val (hbw7.trans (n.ok.mono hbw7.size))).2.1
              have uy2 : ∀ n : Up w7, n.val.cell? ⟨b2, off2 + j * 5 + 2, none⟩ = some (.int .u8 ys[j].k) := fun n => (HLy.out n.val (hbw7.trans (n.ok.mono hbw7.size))).2.2.1
              have uy3 : ∀ n : Up w7, n.val.cell? ⟨b2, off2 + j * 5 + 3, none⟩ = some (.slice yA1 yn1 yc1) := fun n => (HLy.out n.val (hbw7.trans (n.ok.mono hbw7.size))).2.2.2.1
              have uy4 : ∀ n : Up w7, n.val.cell? ⟨b2, off2 + j * 5 + 4, none⟩ = some (.slice yA2 yn2 yc2) := fun n => (HLy.out n.val (hbw7.trans (n.ok.mono hbw7.size))).2.2.2.2
              refine wp_region_up (by kernel_rfl) (by kernel_rfl) ?_
              repeat (first | go_big_quiet_skip | (go_big_quiet_want; go_big_quiet_op; first | go_big_quiet_on))
              refine wpQuiet_nil ?_
              rintro w8 ⟨n8, hn8⟩
              have hb8 := n8.ok
              rw [← hn8] at hb8
              clear hn8 n8
              have hbw8 : Below w.heap.size w w8 := hbw7.trans (hb8.mono hbw7.size)
              have HO8 := Lib.hid (HO7.out.after hb8)
              have HR8 := Lib.hid (HR7.out.after hb8)
              have hs8 := hbw8.size
              clear ux0 ux1 ux2 ux3 ux4 uy0 uy1 uy2 uy3 uy4 hup

              have HJN : Hid ((rs ++ [(xs[i], Value.slice none 0 0, Value.slice none 0 0)]).map (·.1) ++ joinL (xs.drop (i + 1)) (ys.drop j) = joinL xs ys) := Lib.hid (by rw [List.map_append]; exact HJQ.out)
              obtain ⟨f0, f1, f2, f3, f4⟩ := HLx.out w8 hbw8
              go_wp2_with fail
              refine (HKx.out _ (by (repeat' (first | (with_reducible first | exact Below.refl _ _ | assumption | refine Below.alloc ?_ ?_ _ | refine Below.setCell ?_ ?_ _ | refine below_row ?_ ?_ _ | refine Below.drew ?_ | refine below_drewN ?_ _ | refine Below.trans ?_ (Below.mono (by assumption) ?_)) | exact Nat.le_refl _ | omega | (simp; done) | (simp; omega) | exact Below.size (by assumption))))).mono ?_
              rintro e9 w9 ⟨v9, rfl, hown, hb9⟩
              obtain ⟨vi', vd', rfl, hk9, ho1, ho2⟩ := hown
              have hb89 : Below w8.heap.size w8 w9 := by (repeat' (first | (with_reducible first | exact Below.refl _ _ | assumption | refine Below.alloc ?_ ?_ _ | refine Below.setCell ?_ ?_ _ | refine below_row ?_ ?_ _ | refine Below.drew ?_ | refine below_drewN ?_ _ | refine Below.trans ?_ (Below.mono (by assumption) ?_)) | exact Nat.le_refl _ | omega | (simp; done) | (simp; omega) | exact Below.size (by assumption)))
              have hbw9 : Below w.heap.size w w9 := hbw8.trans (hb89.mono hs8)
              have hs9 := hbw9.size
              have HO9 := Lib.hid (HO8.out.after hb89)
              have HR9 := Lib.hid (HR8.out.after hb89)
              have HT9 : Hid (OwnT w9 w.heap.size (xs[i], vi', vd')) := Lib.hid ⟨hk9, own_less ho1 (by first | exact hs8 | omega), own_less ho2 (by first | exact hs8 | omega)⟩
              obtain ⟨A3, c3, g3, rfl, -⟩ := own_form ho1
              obtain ⟨A4, c4, g4, rfl, -⟩ := own_form ho2
              clear ho1 ho2 hb9 hk9 f0 f1 f2 f3 f4 HKx
              have zc := cellsT_len rs
              go_wp2_with (at_builtin; refine wpList_row2 rfl _ _ 22 rfl w.heap.size 45 q0 zIss 5 72 Try.underlying22 hq0 hz0 hz1 hz2 rfl (by decide) _ rs.length (cellsT rs) rfl (World.ownsRow.alloc HO9.out.1 _) (some ⟨_, 0, none⟩) 1 1 [.int .i64 (xs[i].d), .int .i64 (xs[i].l), .int .u8 xs[i].k, .slice A3 xs[i].items.length c3, .slice A4 xs[i].dims.length c4] (by rfl) (fun h => by cases h) (by rfl) (fun ad had => by injection had with had; subst had; exact World.news_of_block (Lies.made _ _ _)) (by simp [Value.oneCell']) (by unfold maxLen; omega) (by omega) (by simp; omega) ?_; intro v10 w10 ho10 hap10 hbl10 _; have hbw10 : Below w.heap.size w w10 := hbl10 w (by (repeat' (first | (with_reducible first | exact Below.refl _ _ | assumption | refine Below.alloc ?_ ?_ _ | refine Below.setCell ?_ ?_ _ | refine below_row ?_ ?_ _ | refine Below.drew ?_ | refine below_drewN ?_ _ | refine Below.trans ?_ (Below.mono (by assumption) ?_)) | exact Nat.le_refl _ | omega | (simp; done) | (simp; omega) | exact Below.size (by assumption)))) (Nat.le_refl _); have HO10 := Lib.hid (OwnReg.snoc (r := (xs[i], Value.slice A3 xs[i].items.length c3, Value.slice A4 xs[i].dims.length c4)) (fun r hr => (HO9.out.2 r hr).after ((Below.refl _ w9).alloc (Nat.le_refl _) _)) (HT9.out.after ((Below.refl _ w9).alloc (Nat.le_refl _) _)) ho10 hap10); have HR10 := Lib.hid (hap10 w.heap.size 24 #[.slice none 0 0] (by decide) (HR9.out.alloc _)); obtain ⟨A10, c10, g10, rfl, -⟩ := own_form ho10; clear ho10 hap10 hbl10)
              have HO10N : Hid (OwnReg w10 w.heap.size (.slice A10 (rs ++ [(xs[i], Value.slice A3 xs[i].items.length c3, Value.slice A4 xs[i].dims.length c4)]).length c10) (rs ++ [(xs[i], Value.slice A3 xs[i].items.length c3, Value.slice A4 xs[i].dims.length c4)])) := Lib.hid (by rw [List.length_append]; exact HO10.out)
              replace HJN : Hid ((rs ++ [(xs[i], Value.slice A3 xs[i].items.length c3, Value.slice A4 xs[i].dims.length c4)]).map (·.1) ++ joinL (xs.drop (i + 1)) (ys.drop j) = joinL xs ys) := Lib.hid (by have := HJN.out; rw [List.map_append] at this ⊢; exact this)
              go_roundw
              case rel => exact ⟨i + 1, j, n0 - 1, ATx, c0 - 1, _, _, e0, A10, c10, rs ++ [(xs[i], Value.slice A3 xs[i].items.length c3, Value.slice A4 xs[i].dims.length c4)], by omega, by omega, by omega, by omega, by omega, by omega, rfl, rfl, by simp, HTx, (Lib.hid (fun h => by first | rfl | omega)), HO10N, HJN, HR10, by simp; omega, hbw10⟩
              case measure => simp [lenV]; omega
          · have e1 : (xs[i].d == ys[j].d) = false := by rw [beq_eq_false_iff_ne]; exact hd
            have HJQ := Lib.hid (join_left hltx HJ.out (.inr ⟨hlty, hlt, by omega⟩))
            clear hd

            go_wp2_with fail
            have hup : Nonempty (Up wr) := ⟨⟨wr, Below.refl _ _⟩⟩
            have ux0 : ∀ n : Up wr, n.val.cell? ⟨b, off + i * 5, none⟩ = some (.int .i64 (xs[i].d)) := fun n => (HLx.out n.val (hb.trans (n.ok.mono hb.size))).1
            have ux1 : ∀ n : Up wr, n.val.cell? ⟨b, off + i * 5 + 1, none⟩ = some (.int .i64 (xs[i].l)) := fun n => (HLx.out n.val (hb.trans (n.ok.mono hb.size))).2.1
            have ux2 : ∀ n : Up wr, n.val.cell? ⟨b, off + i * 5 + 2, none⟩ = some (.int .u8 xs[i].k) := fun n => (HLx.out n.val (hb.trans (n.ok.mono hb.size))).2.2.1
            have ux3 : ∀ n : Up wr, n.val.cell? ⟨b, off + i * 5 + 3, none⟩ = some (.slice xA1 xn1 xc1) := fun n => (HLx.out n.val (hb.trans (n.ok.mono hb.size))).2.2.2.1
            have ux4 : ∀ n : Up wr, n.val.cell? ⟨b, off + i * 5 + 4, none⟩ = some (.slice xA2 xn2 xc2) := fun n => (HLx.out n.val (hb.trans (n.ok.mono hb.size))).2.2.2.2
            have uy0 : ∀ n : Up wr, n.val.cell? ⟨b2, off2 + j * 5, none⟩ = some (.int .i64 (ys[j].d)) := fun n => (HLy.out n.val (hb.trans (n.ok.mono hb.size))).1
            have uy1 : ∀ n : Up wr, n.val.cell? ⟨b2, off2 + j * 5 + 1, none⟩ = some (.int .i64 (ys[j].l)) := fun n => (HLy.out n.val (hb.trans (n.ok.mono hb.size))).2.1
            have uy2 : ∀ n : Up wr, n.val.cell? ⟨b2, off2 + j * 5 + 2, none⟩ = some (.int .u8 ys[j].k) := fun n => (HLy.out n.val (hb.trans (n.ok.mono hb.size))).2.2.1
            have uy3 : ∀ n : Up wr, n.val.cell? ⟨b2, off2 + j * 5 + 3, none⟩ = some (.slice yA1 yn1 yc1) := fun n => (HLy.out n.val (hb.trans (n.ok.mono hb.size))).2.2.2.1
            have uy4 : ∀ n : Up wr, n.val.cell? ⟨b2, off2 + j * 5 + 4, none⟩ = some (.slice yA2 yn2 yc2) := fun n => (HLy.out n.val (hb.trans (n.ok.mono hb.size))).2.2.2.2
            refine wp_region_up (by kernel_rfl) (by kernel_rfl) ?_
            repeat (first | go_big_quiet_skip | (go_big_quiet_want; go_big_quiet_op; first | go_big_quiet_on | go_big_quiet_call ((go_at_call 83; first | exact Up.call (HNx.out _) | exact Up.call (HNy.out _)))))
            refine wpQuiet_nil ?_
            rintro w7 ⟨n7, hn7⟩
            have hb7 := n7.ok
            rw [← hn7] at hb7
            clear hn7 n7
            have hbw7 : Below w.heap.size w w7 := hb.trans (hb7.mono hb.size)
            have HO7 := Lib.hid (HO.out.after hb7)
            have HR7 := Lib.hid (HR.out.after hb7)
            clear ux0 ux1 ux2 ux3 ux4 uy0 uy1 uy2 uy3 uy4 hup

            go_wp2_with fail
            have hup : Nonempty (Up w7) := ⟨⟨w7, Below.refl _ _⟩⟩
            have ux0 : ∀ n : Up w7, n.val.cell? ⟨b, off + i * 5, none⟩ = some (.int .i64 (xs[i].d)) := fun n => (HLx.out n.val (hbw7.trans (n.ok.mono hbw7.size))).1
            have ux1 : ∀ n : Up w7, n.val.cell? ⟨b, off + i * 5 + 1, none⟩ = some (.int .i64 (xs[i].l)) := fun n => (HLx.out n.val (hbw7.trans (n.ok.mono hbw7.size))).2.1
            have ux2 : ∀ n : Up w7, n.val.cell? ⟨b, off + i * 5 + 2, none⟩ = some (.int .u8 xs[i].k) := fun n => (HLx.out n.val (hbw7.trans (n.ok.mono hbw7.size))).2.2.1
            have ux3 : ∀ n : Up w7, n.val.cell? ⟨b, off + i * 5 + 3, none⟩ = some (.slice xA1 xn1 xc1) := fun n => (HLx.out n.val (hbw7.trans (n.ok.mono hbw7.size))).2.2.2.1
            have ux4 : ∀ n : Up w7, n.val.cell? ⟨b, off + i * 5 + 4, none⟩ = some (.slice xA2 xn2 xc2) := fun n => (HLx.out n.val (hbw7.trans (n.ok.mono hbw7.size))).2.2.2.2
            have uy0 : ∀ n : Up w7, n.val.cell? ⟨b2, off2 + j * 5, none⟩ = some (.int .i64 (ys[j].d)) := fun n => (HLy.out n.val (hbw7.trans (n.ok.mono hbw7.size))).1
            have uy1 : ∀ n : Up w7, n.val.cell? ⟨b2, off2 + j * 5 + 1, none⟩ = some (.int .i64 (ys[j].l)) := fun n => (HLy.out n.val (hbw7.trans (n.ok.mono hbw7.size))).2.1
            have uy2 : ∀ n : Up w7, n.val.cell? ⟨b2, off2 + j * 5 + 2, none⟩ = some (.int .u8 ys[j].k) := fun n => (HLy.out n.val (hbw7.trans (n.ok.mono hbw7.size))).2.2.1
            have uy3 : ∀ n : Up w7, n.val.cell? ⟨b2, off2 + j * 5 + 3, none⟩ = some (.slice yA1 yn1 yc1) := fun n => (HLy.out n.val (hbw7.trans (n.ok.mono hbw7.size))).2.2.2.1
            have uy4 : ∀ n : Up w7, n.val.cell? ⟨b2, off2 + j * 5 + 4, none⟩ = some (.slice yA2 yn2 yc2) := fun n => (HLy.out n.val (hbw7.trans (n.ok.mono hbw7.size))).2.2.2.2
            refine wp_region_up (by kernel_rfl) (by kernel_rfl) ?_
            repeat (first | go_big_quiet_skip | (go_big_quiet_want; go_big_quiet_op; first | go_big_quiet_on))
            refine wpQuiet_nil ?_
            rintro w8 ⟨n8, hn8⟩
            have hb8 := n8.ok
            rw [← hn8] at hb8
            clear hn8 n8
            have hbw8 : Below w.heap.size w w8 := hbw7.trans (hb8.mono hbw7.size)
            have HO8 := Lib.hid (HO7.out.after hb8)
            have HR8 := Lib.hid (HR7.out.after hb8)
            have hs8 := hbw8.size
            clear ux0 ux1 ux2 ux3 ux4 uy0 uy1 uy2 uy3 uy4 hup

            have HJN : Hid ((rs ++ [(xs[i], Value.slice none 0 0, Value.slice none 0 0)]).map (·.1) ++ joinL (xs.drop (i + 1)) (ys.drop j) = joinL xs ys) := Lib.hid (by rw [List.map_append]; exact HJQ.out)
            obtain ⟨f0, f1, f2, f3, f4⟩ := HLx.out w8 hbw8
            go_wp2_with fail
            refine (HKx.out _ (by (repeat' (first | (with_reducible first | exact Below.refl _ _ | assumption | refine Below.alloc ?_ ?_ _ | refine Below.setCell ?_ ?_ _ | refine below_row ?_ ?_ _ | refine Below.drew ?_ | refine below_drewN ?_ _ | refine Below.trans ?_ (Below.mono (by assumption) ?_)) | exact Nat.le_refl _ | omega | (simp; done) | (simp; omega) | exact Below.size (by assumption))))).mono ?_
            rintro e9 w9 ⟨v9, rfl, hown, hb9⟩
            obtain ⟨vi', vd', rfl, hk9, ho1, ho2⟩ := hown
            have hb89 : Below w8.heap.size w8 w9 := by (repeat' (first | (with_reducible first | exact Below.refl _ _ | assumption | refine Below.alloc ?_ ?_ _ | refine Below.setCell ?_ ?_ _ | refine below_row ?_ ?_ _ | refine Below.drew ?_ | refine below_drewN ?_ _ | refine Below.trans ?_ (Below.mono (by assumption) ?_)) | exact Nat.le_refl _ | omega | (simp; done) | (simp; omega) | exact Below.size (by assumption)))
            have hbw9 : Below w.heap.size w w9 := hbw8.trans (hb89.mono hs8)
            have hs9 := hbw9.size
            have HO9 := Lib.hid (HO8.out.after hb89)
            have HR9 := Lib.hid (HR8.out.after hb89)
            have HT9 : Hid (OwnT w9 w.heap.size (xs[i], vi', vd')) := Lib.hid ⟨hk9, own_less ho1 (by first | exact hs8 | omega), own_less ho2 (by first | exact hs8 | omega)⟩
            obtain ⟨A3, c3, g3, rfl, -⟩ := own_form ho1
            obtain ⟨A4, c4, g4, rfl, -⟩ := own_form ho2
            clear ho1 ho2 hb9 hk9 f0 f1 f2 f3 f4 HKx
            have zc := cellsT_len rs
            go_wp2_with (at_builtin; refine wpList_row2 rfl _ _ 22 rfl w.heap.size 45 q0 zIss 5 72 Try.underlying22 hq0 hz0 hz1 hz2 rfl (by decide) _ rs.length (cellsT rs) rfl (World.ownsRow.alloc HO9.out.1 _) (some ⟨_, 0, none⟩) 1 1 [.int .i64 (xs[i].d), .int .i64 (xs[i].l), .int .u8 xs[i].k, .slice A3 xs[i].items.length c3, .slice A4 xs[i].dims.length c4] (by rfl) (fun h => by cases h) (by rfl) (fun ad had => by injection had with had; subst had; exact World.news_of_block (Lies.made _ _ _)) (by simp [Value.oneCell']) (by unfold maxLen; omega) (by omega) (by simp; omega) ?_; intro v10 w10 ho10 hap10 hbl10 _; have hbw10 : Below w.heap.size w w10 := hbl10 w (by (repeat' (first | (with_reducible first | exact Below.refl _ _ | assumption | refine Below.alloc ?_ ?_ _ | refine Below.setCell ?_ ?_ _ | refine below_row ?_ ?_ _ | refine Below.drew ?_ | refine below_drewN ?_ _ | refine Below.trans ?_ (Below.mono (by assumption) ?_)) | exact Nat.le_refl _ | omega | (simp; done) | (simp; omega) | exact Below.size (by assumption)))) (Nat.le_refl _); have HO10 := Lib.hid (OwnReg.snoc (r := (xs[i], Value.slice A3 xs[i].items.length c3, Value.slice A4 xs[i].dims.length c4)) (fun r hr => (HO9.out.2 r hr).after ((Below.refl _ w9).alloc (Nat.le_refl _) _)) (HT9.out.after ((Below.refl _ w9).alloc (Nat.le_refl _) _)) ho10 hap10); have HR10 := Lib.hid (hap10 w.heap.size 24 #[.slice none 0 0] (by decide) (HR9.out.alloc _)); obtain ⟨A10, c10, g10, rfl, -⟩ := own_form ho10; clear ho10 hap10 hbl10)
            have HO10N : Hid (OwnReg w10 w.heap.size (.slice A10 (rs ++ [(xs[i], Value.slice A3 xs[i].items.length c3, Value.slice A4 xs[i].dims.length c4)]).length c10) (rs ++ [(xs[i], Value.slice A3 xs[i].items.length c3, Value.slice A4 xs[i].dims.length c4)])) := Lib.hid (by rw [List.length_append]; exact HO10.out)
            replace HJN : Hid ((rs ++ [(xs[i], Value.slice A3 xs[i].items.length c3, Value.slice A4 xs[i].dims.length c4)]).map (·.1) ++ joinL (xs.drop (i + 1)) (ys.drop j) = joinL xs ys) := Lib.hid (by have := HJN.out; rw [List.map_append] at this ⊢; exact this)
            go_roundw
            case rel => exact ⟨i + 1, j, n0 - 1, ATx, c0 - 1, _, _, e0, A10, c10, rs ++ [(xs[i], Value.slice A3 xs[i].items.length c3, Value.slice A4 xs[i].dims.length c4)], by omega, by omega, by omega, by omega, by omega, by omega, rfl, rfl, by simp, HTx, (Lib.hid (fun h => by first | rfl | omega)), HO10N, HJN, HR10, by simp; omega, hbw10⟩
            case measure => simp [lenV]; omega
      · obtain rfl : m0 = 0 := by omega

        go_wp2_with fail
        have hup : Nonempty (Up wr) := ⟨⟨wr, Below.refl _ _⟩⟩
        refine wp_region_up (by kernel_rfl) (by kernel_rfl) ?_
        repeat (first | go_big_quiet_skip | (go_big_quiet_want; go_big_quiet_op; first | go_big_quiet_on))
        refine wpQuiet_nil ?_
        rintro w7 ⟨n7, hn7⟩
        have hb7 := n7.ok
        rw [← hn7] at hb7
        clear hn7 n7
        have hbw7 : Below w.heap.size w w7 := hb.trans (hb7.mono hb.size)
        have HO7 := Lib.hid (HO.out.after hb7)
        have HR7 := Lib.hid (HR.out.after hb7)
        clear hup

        go_wp2_with fail
        have hup : Nonempty (Up w7) := ⟨⟨w7, Below.refl _ _⟩⟩
        refine wp_region_up (by kernel_rfl) (by kernel_rfl) ?_
        repeat (first | go_big_quiet_skip | (go_big_quiet_want; go_big_quiet_op; first | go_big_quiet_on))
        refine wpQuiet_nil ?_
        rintro w8 ⟨n8, hn8⟩
        have hb8 := n8.ok
        rw [← hn8] at hb8
        clear hn8 n8
        have hbw8 : Below w.heap.size w w8 := hbw7.trans (hb8.mono hbw7.size)
        have HO8 := Lib.hid (HO7.out.after hb8)
        have HR8 := Lib.hid (HR7.out.after hb8)
        have hs8 := hbw8.size
        clear hup

        have HJN : Hid ((rs ++ [(xs[i], Value.slice none 0 0, Value.slice none 0 0)]).map (·.1) ++ joinL (xs.drop (i + 1)) (ys.drop j) = joinL xs ys) := Lib.hid (by rw [List.map_append]; exact join_left hltx HJ.out (.inl (by omega)))
        obtain ⟨f0, f1, f2, f3, f4⟩ := HLx.out w8 hbw8
        go_wp2_with fail
        refine (HKx.out _ (by (repeat' (first | (with_reducible first | exact Below.refl _ _ | assumption | refine Below.alloc ?_ ?_ _ | refine Below.setCell ?_ ?_ _ | refine below_row ?_ ?_ _ | refine Below.drew ?_ | refine below_drewN ?_ _ | refine Below.trans ?_ (Below.mono (by assumption) ?_)) | exact Nat.le_refl _ | omega | (simp; done) | (simp; omega) | exact Below.size (by assumption))))).mono ?_
        rintro e9 w9 ⟨v9, rfl, hown, hb9⟩
        obtain ⟨vi', vd', rfl, hk9, ho1, ho2⟩ := hown
        have hb89 : Below w8.heap.size w8 w9 := by (repeat' (first | (with_reducible first | exact Below.refl _ _ | assumption | refine Below.alloc ?_ ?_ _ | refine Below.setCell ?_ ?_ _ | refine below_row ?_ ?_ _ | refine Below.drew ?_ | refine below_drewN ?_ _ | refine Below.trans ?_ (Below.mono (by assumption) ?_)) | exact Nat.le_refl _ | omega | (simp; done) | (simp; omega) | exact Below.size (by assumption)))
        have hbw9 : Below w.heap.size w w9 := hbw8.trans (hb89.mono hs8)
        have hs9 := hbw9.size
        have HO9 := Lib.hid (HO8.out.after hb89)
        have HR9 := Lib.hid (HR8.out.after hb89)
        have HT9 : Hid (OwnT w9 w.heap.size (xs[i], vi', vd')) := Lib.hid ⟨hk9, own_less ho1 (by first | exact hs8 | omega), own_less ho2 (by first | exact hs8 | omega)⟩
        obtain ⟨A3, c3, g3, rfl, -⟩ := own_form ho1
        obtain ⟨A4, c4, g4, rfl, -⟩ := own_form ho2
        clear ho1 ho2 hb9 hk9 f0 f1 f2 f3 f4 HKx
        have zc := cellsT_len rs
        go_wp2_with (at_builtin; refine wpList_row2 rfl _ _ 22 rfl w.heap.size 45 q0 zIss 5 72 Try.underlying22 hq0 hz0 hz1 hz2 rfl (by decide) _ rs.length (cellsT rs) rfl (World.ownsRow.alloc HO9.out.1 _) (some ⟨_, 0, none⟩) 1 1 [.int .i64 (xs[i].d), .int .i64 (xs[i].l), .int .u8 xs[i].k, .slice A3 xs[i].items.length c3, .slice A4 xs[i].dims.length c4] (by rfl) (fun h => by cases h) (by rfl) (fun ad had => by injection had with had; subst had; exact World.news_of_block (Lies.made _ _ _)) (by simp [Value.oneCell']) (by unfold maxLen; omega) (by omega) (by simp; omega) ?_; intro v10 w10 ho10 hap10 hbl10 _; have hbw10 : Below w.heap.size w w10 := hbl10 w (by (repeat' (first | (with_reducible first | exact Below.refl _ _ | assumption | refine Below.alloc ?_ ?_ _ | refine Below.setCell ?_ ?_ _ | refine below_row ?_ ?_ _ | refine Below.drew ?_ | refine below_drewN ?_ _ | refine Below.trans ?_ (Below.mono (by assumption) ?_)) | exact Nat.le_refl _ | omega | (simp; done) | (simp; omega) | exact Below.size (by assumption)))) (Nat.le_refl _); have HO10 := Lib.hid (OwnReg.snoc (r := (xs[i], Value.slice A3 xs[i].items.length c3, Value.slice A4 xs[i].dims.length c4)) (fun r hr => (HO9.out.2 r hr).after ((Below.refl _ w9).alloc (Nat.le_refl _) _)) (HT9.out.after ((Below.refl _ w9).alloc (Nat.le_refl _) _)) ho10 hap10); have HR10 := Lib.hid (hap10 w.heap.size 24 #[.slice none 0 0] (by decide) (HR9.out.alloc _)); obtain ⟨A10, c10, g10, rfl, -⟩ := own_form ho10; clear ho10 hap10 hbl10)
        have HO10N : Hid (OwnReg w10 w.heap.size (.slice A10 (rs ++ [(xs[i], Value.slice A3 xs[i].items.length c3, Value.slice A4 xs[i].dims.length c4)]).length c10) (rs ++ [(xs[i], Value.slice A3 xs[i].items.length c3, Value.slice A4 xs[i].dims.length c4)])) := Lib.hid (by rw [List.length_append]; exact HO10.out)
        replace HJN : Hid ((rs ++ [(xs[i], Value.slice A3 xs[i].items.length c3, Value.slice A4 xs[i].dims.length c4)]).map (·.1) ++ joinL (xs.drop (i + 1)) (ys.drop j) = joinL xs ys) := Lib.hid (by have := HJN.out; rw [List.map_append] at this ⊢; exact this)
        go_roundw
        case rel => exact ⟨i + 1, j, n0 - 1, ATx, c0 - 1, _, _, e0, A10, c10, rs ++ [(xs[i], Value.slice A3 xs[i].items.length c3, Value.slice A4 xs[i].dims.length c4)], by omega, by omega, by omega, by omega, by omega, by omega, rfl, rfl, by simp, HTx, (Lib.hid (fun h => by first | rfl | omega)), HO10N, HJN, HR10, by simp; omega, hbw10⟩
        case measure => simp [lenV]; omega
    · obtain rfl : n0 = 0 := by omega
      by_cases hm : 0 < m0
      · have hlty : j < ys.length := by omega
        obtain rfl := HB0.out (by omega)
        obtain ⟨ATy, hsly, haty⟩ := tail_any (c := e0) (show 0 < m0 by omega) (by omega) (rfl : some (⟨b2, off2 + j * 5, none⟩ : Addr) = some ⟨b2, off2 + j * 5, none⟩)
        have HTy : Hid (0 < m0 - 1 → ATy = some ⟨b2, off2 + (j + 1) * 5, none⟩) := Lib.hid (fun h => (haty (by omega)).trans (by rw [show off2 + j * 5 + 5 = off2 + (j + 1) * 5 by omega]))
        clear haty
        have ky : (0 : Int) < (m0 : Int) := by omega
        have key : ((m0 : Int) == 0) = false := by rw [beq_eq_false_iff_ne]; omega
        have HKy := Lib.hid (sCopied_v HD.out HSY.out j hlty)
        obtain ⟨⟨yA1, yn1, yc1, ye1⟩, yA2, yn2, yc2, ye2⟩ := HD.out.slices hlty
        have HWy := Lib.hid (fun W (hW : Below w.heap.size w W) => (HD.out.after hW) j hlty)
        rw [ye1, ye2] at HWy HKy
        have HLy := Lib.hid (fun W (hW : Below w.heap.size w W) => (show W.cell? ⟨b2, off2 + j * 5, none⟩ = some (.int .i64 (ys[j].d)) ∧ W.cell? ⟨b2, off2 + j * 5 + 1, none⟩ = some (.int .i64 (ys[j].l)) ∧ W.cell? ⟨b2, off2 + j * 5 + 2, none⟩ = some (.int .u8 ys[j].k) ∧ W.cell? ⟨b2, off2 + j * 5 + 3, none⟩ = some (.slice yA1 yn1 yc1) ∧ W.cell? ⟨b2, off2 + j * 5 + 4, none⟩ = some (.slice yA2 yn2 yc2) from ⟨(HWy.out W hW).1, (HWy.out W hW).2.1, (HWy.out W hW).2.2.1, (HWy.out W hW).2.2.2.1, (HWy.out W hW).2.2.2.2.1⟩))
        clear HWy ye1 ye2
        have HNy := Lib.hid (fun W => nameOf_any ys[j].d ys[j].l ys[j].k (.slice yA1 yn1 yc1) (.slice yA2 yn2 yc2) W)

        go_wp2_with fail
        have hup : Nonempty (Up wr) := ⟨⟨wr, Below.refl _ _⟩⟩
        refine wp_region_up (by kernel_rfl) (by kernel_rfl) ?_
        repeat (first | go_big_quiet_skip | (go_big_quiet_want; go_big_quiet_op; first | go_big_quiet_on))
        refine wpQuiet_nil ?_
        rintro w7 ⟨n7, hn7⟩
        have hb7 := n7.ok
        rw [← hn7] at hb7
        clear hn7 n7
        have hbw7 : Below w.heap.size w w7 := hb.trans (hb7.mono hb.size)
        have HO7 := Lib.hid (HO.out.after hb7)
        have HR7 := Lib.hid (HR.out.after hb7)
        clear hup

        go_wp2_with fail
        have hup : Nonempty (Up w7) := ⟨⟨w7, Below.refl _ _⟩⟩
        refine wp_region_up (by kernel_rfl) (by kernel_rfl) ?_
        repeat (first | go_big_quiet_skip | (go_big_quiet_want; go_big_quiet_op; first | go_big_quiet_on))
        refine wpQuiet_nil ?_
        rintro w8 ⟨n8, hn8⟩
        have hb8 := n8.ok
        rw [← hn8] at hb8
        clear hn8 n8
        have hbw8 : Below w.heap.size w w8 := hbw7.trans (hb8.mono hbw7.size)
        have HO8 := Lib.hid (HO7.out.after hb8)
        have HR8 := Lib.hid (HR7.out.after hb8)
        have hs8 := hbw8.size
        clear hup

        have HJN : Hid ((rs ++ [(ys[j], Value.slice none 0 0, Value.slice none 0 0)]).map (·.1) ++ joinL (xs.drop i) (ys.drop (j + 1)) = joinL xs ys) := Lib.hid (by rw [List.map_append]; exact join_right hlty HJ.out (.inl (by omega)))
        obtain ⟨f0, f1, f2, f3, f4⟩ := HLy.out w8 hbw8
        go_wp2_with fail
        refine (HKy.out _ (by (repeat' (first | (with_reducible first | exact Below.refl _ _ | assumption | refine Below.alloc ?_ ?_ _ | refine Below.setCell ?_ ?_ _ | refine below_row ?_ ?_ _ | refine Below.drew ?_ | refine below_drewN ?_ _ | refine Below.trans ?_ (Below.mono (by assumption) ?_)) | exact Nat.le_refl _ | omega | (simp; done) | (simp; omega) | exact Below.size (by assumption))))).mono ?_
        rintro e9 w9 ⟨v9, rfl, hown, hb9⟩
        obtain ⟨vi', vd', rfl, hk9, ho1, ho2⟩ := hown
        have hb89 : Below w8.heap.size w8 w9 := by (repeat' (first | (with_reducible first | exact Below.refl _ _ | assumption | refine Below.alloc ?_ ?_ _ | refine Below.setCell ?_ ?_ _ | refine below_row ?_ ?_ _ | refine Below.drew ?_ | refine below_drewN ?_ _ | refine Below.trans ?_ (Below.mono (by assumption) ?_)) | exact Nat.le_refl _ | omega | (simp; done) | (simp; omega) | exact Below.size (by assumption)))
        have hbw9 : Below w.heap.size w w9 := hbw8.trans (hb89.mono hs8)
        have hs9 := hbw9.size
        have HO9 := Lib.hid (HO8.out.after hb89)
        have HR9 := Lib.hid (HR8.out.after hb89)
        have HT9 : Hid (OwnT w9 w.heap.size (ys[j], vi', vd')) := Lib.hid ⟨hk9, own_less ho1 (by first | exact hs8 | omega), own_less ho2 (by first | exact hs8 | omega)⟩
        obtain ⟨A3, c3, g3, rfl, -⟩ := own_form ho1
        obtain ⟨A4, c4, g4, rfl, -⟩ := own_form ho2
        clear ho1 ho2 hb9 hk9 f0 f1 f2 f3 f4 HKy
        have zc := cellsT_len rs
        go_wp2_with (at_builtin; refine wpList_row2 rfl _ _ 22 rfl w.heap.size 45 q0 zIss 5 72 Try.underlying22 hq0 hz0 hz1 hz2 rfl (by decide) _ rs.length (cellsT rs) rfl (World.ownsRow.alloc HO9.out.1 _) (some ⟨_, 0, none⟩) 1 1 [.int .i64 (ys[j].d), .int .i64 (ys[j].l), .int .u8 ys[j].k, .slice A3 ys[j].items.length c3, .slice A4 ys[j].dims.length c4] (by rfl) (fun h => by cases h) (by rfl) (fun ad had => by injection had with had; subst had; exact World.news_of_block (Lies.made _ _ _)) (by simp [Value.oneCell']) (by unfold maxLen; omega) (by omega) (by simp; omega) ?_; intro v10 w10 ho10 hap10 hbl10 _; have hbw10 : Below w.heap.size w w10 := hbl10 w (by (repeat' (first | (with_reducible first | exact Below.refl _ _ | assumption | refine Below.alloc ?_ ?_ _ | refine Below.setCell ?_ ?_ _ | refine below_row ?_ ?_ _ | refine Below.drew ?_ | refine below_drewN ?_ _ | refine Below.trans ?_ (Below.mono (by assumption) ?_)) | exact Nat.le_refl _ | omega | (simp; done) | (simp; omega) | exact Below.size (by assumption)))) (Nat.le_refl _); have HO10 := Lib.hid (OwnReg.snoc (r := (ys[j], Value.slice A3 ys[j].items.length c3, Value.slice A4 ys[j].dims.length c4)) (fun r hr => (HO9.out.2 r hr).after ((Below.refl _ w9).alloc (Nat.le_refl _) _)) (HT9.out.after ((Below.refl _ w9).alloc (Nat.le_refl _) _)) ho10 hap10); have HR10 := Lib.hid (hap10 w.heap.size 24 #[.slice none 0 0] (by decide) (HR9.out.alloc _)); obtain ⟨A10, c10, g10, rfl, -⟩ := own_form ho10; clear ho10 hap10 hbl10)
        have HO10N : Hid (OwnReg w10 w.heap.size (.slice A10 (rs ++ [(ys[j], Value.slice A3 ys[j].items.length c3, Value.slice A4 ys[j].dims.length c4)]).length c10) (rs ++ [(ys[j], Value.slice A3 ys[j].items.length c3, Value.slice A4 ys[j].dims.length c4)])) := Lib.hid (by rw [List.length_append]; exact HO10.out)
        replace HJN : Hid ((rs ++ [(ys[j], Value.slice A3 ys[j].items.length c3, Value.slice A4 ys[j].dims.length c4)]).map (·.1) ++ joinL (xs.drop i) (ys.drop (j + 1)) = joinL xs ys) := Lib.hid (by have := HJN.out; rw [List.map_append] at this ⊢; exact this)
        go_roundw
        case rel => exact ⟨i, j + 1, _, _, c0, m0 - 1, ATy, e0 - 1, A10, c10, rs ++ [(ys[j], Value.slice A3 ys[j].items.length c3, Value.slice A4 ys[j].dims.length c4)], by omega, by omega, by omega, by omega, by omega, by omega, rfl, rfl, by simp, (Lib.hid (fun h => by first | rfl | omega)), HTy, HO10N, HJN, HR10, by simp; omega, hbw10⟩
        case measure => simp [lenV]; omega
      · obtain rfl : m0 = 0 := by omega
        have HDN := Lib.hid (join_done (by omega) (by omega) HJ.out)
        have HO2 := Lib.hid (HO.out.set HR.out (by decide) (by decide) (by decide) 0 (.slice AO rs.length cO))
        have fr := HR.out.free 0
        have r0 := HR.out.cell 0
        go_wp2_with fail
        exact bodyPost_ret (results_cell_row rfl _ _ (w.heap.size) _ _ (0, 0) _ rfl (HR.out.store 0 _) Try.underlying24 rfl (by kernel_rfl)) rfl ⟨_, rs, rfl, HO2.out, HDN.out, by (repeat' (first | (with_reducible first | exact Below.refl _ _ | assumption | refine Below.alloc ?_ ?_ _ | refine Below.setCell ?_ ?_ _ | refine below_row ?_ ?_ _ | refine Below.drew ?_ | refine below_drewN ?_ _ | refine Below.trans ?_ (Below.mono (by assumption) ?_)) | exact Nat.le_refl _ | omega | (simp; done) | (simp; omega) | exact Below.size (by assumption)))⟩
end Go.Proofs.Ytkjfceajakhlfaa
