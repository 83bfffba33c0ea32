/- The package's Tree, with the room of what it returns. -/
import Derived.Test.YtkjfceajakhlfaaLJ
import Derived.Test.YtkjfceajakhlfaaVG
namespace Go.Proofs.Ytkjfceajakhlfaa
set_option linter.unusedVariables false
set_option linter.unusedSimpArgs false
section
open Go.RowKit

theorem capC {A : Option Addr} {n c : Nat} (h : n ≤ c) : CapOk (.slice A n c) := by
  intro A' n' c' e
  injection e with e1 e2 e3
  omega
theorem own_cap2 {w : World} {base : Nat} {e : TypeId} {size n : Nat} {v : Value} {xs : List Value} (h : w.ownsRow base e size v n xs) : CapOk v := by
  rcases h.2 with ⟨rfl, -⟩ | ⟨g, cap, cur, rfl, -, -, hc, -⟩
  · exact capC (Nat.le_refl 0)
  · exact capC hc
def TreeC (r : List (Int × Int × Int × Int) × Int) (w : World) (e : Ending) (w' : World) : Prop := ∃ v, e = .returned (.tuple #[v, .int .i64 r.2]) ∧ BranchesAt w' v r.1 ∧ CapOk v ∧ Below w.heap.size w w'
set_option maxRecDepth 100000 in
set_option maxHeartbeats 8000000 in
theorem sTreeC_any {vI vL : Value} {xs : List Iss} {ls : List Int} {w : World} (d : Int) (h : RegAt w vI xs) (hL : IntsAt w vL ls) (hll : ls.length ≤ 9223372036854775807) :
    Calls Try.prog 34 #[.agg #[vI], vL, .int .i64 d] w (TreeC (treeE xs ls d) w) := by
  obtain ⟨A, c, b, off, vi, vd, rfl, hA, hc⟩ := h.at_.row
  have HEQ := Lib.hid (fun W (hW : Below w.heap.size w W) => equip_any A c b off vL xs ls d vi vd W (h.after hW) hll hA (hc.after hW) (hL.after hW))
  have HC := Lib.hid hc
  obtain ⟨AL, cL, rfl⟩ := hL.slice
  unfold treeE
  by_cases h0 : askE xs ls d = 0
  · obtain ⟨h1, h2, h3⟩ := askE_ok h0
    have K := kit_of h1 h2
    have HK := Lib.hid K
    have HWK := Lib.hid (fun w1 vN vD vC (hb : Below w.heap.size w w1) (hD : DeskAt w1 xs vN vD) (hC : ChosenAt w1 vC xs vi vd (numbersL xs) ls) => walk_of (A := A) (c := c) h1 h2 K hb HC.out hD hC)
    rw [if_neg (by simpa using h0)]
    unfold EquipP at HEQ
    rw [h0] at HEQ
    have HEQ2 : Hid (∀ W, Below w.heap.size w W → Calls Try.prog 73 #[.agg #[.slice A xs.length c], .slice AL ls.length cL, .int .i64 d] W fun e w' => (∃ vN vD vC, e = .returned (.tuple #[.agg #[.slice A xs.length c, vN, vD, vC], .int .i64 0]) ∧ DeskAt w' xs vN vD ∧ ChosenAt w' vC xs vi vd (numbersL xs) ls) ∧ Below W.heap.size W w') :=
      Lib.hid (fun W hW => (HEQ.out W hW).mono (fun e w' ⟨hp, hb⟩ => ⟨hp.elim (fun h => h.2) (fun h => absurd rfl h.1), hb⟩))
    have HDL : Hid (∀ w1 vN vD, DeskAt w1 xs vN vD → (∃ n A c, vN = .slice A n c) ∧ ∃ n A c, vD = .slice A n c) := Lib.hid (fun w1 vN vD hD => ⟨by obtain ⟨A, c, e⟩ := hD.1.slice; exact ⟨_, A, c, e⟩, by obtain ⟨A, c, e⟩ := hD.2.slice; exact ⟨_, A, c, e⟩⟩)
    have HRK := Lib.hid (K.le d h3)
    have HD3 := Lib.hid h3
    have htl := tree_len K 6 d h3 0 1
    have hmf : ∀ (fn : Fn) (first cap : Array Value) (w : World), (Instr.makeFunc fn first cap).run Try.prog w = .ok (.func fn first cap) w := fun _ _ _ _ => rfl
    have HTL : Hid (∃ tl, treeL xs (qOf xs (numbersL xs) ls) 6 0 d 1 = tl) := Lib.hid ⟨_, rfl⟩
    obtain ⟨tl, htle⟩ := HTL.out
    have HTE := Lib.hid htle
    rw [htle] at htl ⊢
    have htl2 : tl.length ≤ 100000 := Nat.le_trans htl (by decide)
    clear HEQ h0 h1 h2 h3 K h hL hA hc HC HTL htle htl
    generalize qOf xs (numbersL xs) ls = q at *
    generalize hr : (if 500 < tl.length then (([] : List (Int × Int × Int × Int)), (4 : Int)) else (tl, 0)) = r
    have HR := Lib.hid hr
    clear hr
    generalize numbersL xs = zs at *
    go_enter Try.func34, Try.ntmps34
    go_wp2_with fail
    refine (HEQ2.out _ (by (repeat' (first | (with_reducible first | exact Below.refl _ _ | assumption | refine Below.alloc ?_ ?_ _ | refine Below.setCell ?_ ?_ _ | refine below_row ?_ ?_ _ | refine Below.drew ?_ | refine below_drewN ?_ _ | refine Below.trans ?_ (Below.mono (by assumption) ?_)) | exact Nat.le_refl _ | omega | (simp; done) | (simp; omega) | exact Below.size (by assumption))))).mono ?_
    rintro e w1 ⟨⟨vN, vD, vC, rfl, hD, hC⟩, hb1⟩
    have s1 := hb1.size; try simp only [World.size_alloc, World.size_setCell, World.size_drew, setRow_size] at s1
    have hbw1 : Below w.heap.size w w1 := by (repeat' (first | (with_reducible first | exact Below.refl _ _ | assumption | refine Below.alloc ?_ ?_ _ | refine Below.setCell ?_ ?_ _ | refine below_row ?_ ?_ _ | refine Below.drew ?_ | refine below_drewN ?_ _ | refine Below.trans ?_ (Below.mono (by assumption) ?_)) | exact Nat.le_refl _ | omega | (simp; done) | (simp; omega) | exact Below.size (by assumption)))
    have HW := Lib.hid (HWK.out w1 vN vD vC hbw1 hD hC)
    obtain ⟨⟨nN, AN, cN, rfl⟩, nD, AD, cD, rfl⟩ := HDL.out _ _ _ hD
    obtain ⟨AC, cC, rfl⟩ := hC.slice
    clear hD hC hb1 HDL HWK HEQ2
    go_wp2_with fail
    obtain ⟨wB, hwB⟩ : ∃ W, (((w1.alloc (.cells #[.slice A xs.length c, .slice AN nN cN, .slice AD nD cD, .slice AC zs.length cC] 130)).alloc (.cells #[.slice none 0 0] 61)).alloc (.cells #[.func (.func 78) #[] #[.pointer (some ⟨w1.heap.size, 0, none⟩), .pointer (some ⟨w1.heap.size + 1, 0, none⟩), .pointer (some ⟨w1.heap.size + 1 + 1, 0, none⟩)]] 137)) = W := ⟨_, rfl⟩
    have hsB : wB.heap.size = w1.heap.size + 3 := by rw [← hwB]; simp
    have M1 : Lies wB w1.heap.size 130 #[.slice A xs.length c, .slice AN nN cN, .slice AD nD cD, .slice AC zs.length cC] := by rw [← hwB]; exact ((Lies.made _ _ _).alloc _).alloc _
    have M2 : Lies wB (w1.heap.size + 1) 61 #[.slice none 0 0] := by rw [← hwB]; exact (Lies.new (by simp)).alloc _
    have M3 : Lies wB (w1.heap.size + 1 + 1) 137 #[.func (.func 78) #[] #[.pointer (some ⟨w1.heap.size, 0, none⟩), .pointer (some ⟨w1.heap.size + 1, 0, none⟩), .pointer (some ⟨w1.heap.size + 1 + 1, 0, none⟩)]] := by rw [← hwB]; exact Lies.new (by simp)
    have hbB : Below w1.heap.size w1 wB := by rw [← hwB]; (repeat' (first | (with_reducible first | exact Below.refl _ _ | assumption | refine Below.alloc ?_ ?_ _ | refine Below.setCell ?_ ?_ _ | refine below_row ?_ ?_ _ | refine Below.drew ?_ | refine below_drewN ?_ _ | refine Below.trans ?_ (Below.mono (by assumption) ?_)) | exact Nat.le_refl _ | omega | (simp; done) | (simp; omega) | exact Below.size (by assumption)))
    have HBB := Lib.hid hbB
    have HSB := Lib.hid hsB
    have HCALL := Lib.hid (grow_any w1.heap.size (w1.heap.size + 1) (w1.heap.size + 1 + 1) (w1.heap.size + 3) HK.out HW.out (by omega) (by omega) (by omega) (by omega) (by omega) (by omega) (by omega) 6 0 d 1 wB [] none 0 HD3.out HRK.out (by omega) (by omega) (by decide) (by omega) hbB M1 M2 M3 (World.ownsRow_nil _ _ _ _))
    rw [hwB]
    clear hwB hsB M1 M2 M3 hbB
    rw [List.nil_append, HTE.out] at HCALL
    refine HCALL.out.mono ?_
    rintro e w2 ⟨⟨v, rfl⟩, ⟨A6, c6, hl6, ho6⟩, hk6⟩
    have hb12 : Below w1.heap.size w1 w2 := hk6.below HBB.out (by omega) (by omega)
    have hbw2 : Below w.heap.size w w2 := hbw1.trans (hb12.mono hbw1.size)
    have g0 := hl6.cell 0
    have zg := hl6.lt
    have HCP := Lib.hid (own_cap2 ho6)
    have HBR := Lib.hid (branches_of_own ho6)
    clear hl6 ho6 hk6 HCALL HBB HSB HW
    by_cases h5 : 500 < tl.length
    · have HR2 : Hid (r = ([], 4)) := Lib.hid (by rw [← HR.out, if_pos h5])
      have h5' : (500 : Int) < (tl.length : Int) := by omega
      go_wp2_with fail
      go_ret2
      exact ⟨.slice none 0 0, by rw [HR2.out]; rfl, by rw [HR2.out]; exact branches_nil _, capC (Nat.le_refl 0), hbw2⟩
    · have HR2 : Hid (r = (tl, 0)) := Lib.hid (by rw [← HR.out, if_neg h5])
      have h5' : ¬ (500 : Int) < (tl.length : Int) := by omega
      go_wp2_with fail
      go_ret2
      exact ⟨.slice A6 tl.length c6, by rw [HR2.out]; rfl, by rw [HR2.out]; exact HBR.out, HCP.out, hbw2⟩
  · rw [if_pos h0]
    have HEQ2 : Hid (∀ W, Below w.heap.size w W → Calls Try.prog 73 #[.agg #[.slice A xs.length c], .slice AL ls.length cL, .int .i64 d] W fun e w' => e = .returned (.tuple #[zOut, .int .i64 (askE xs ls d)]) ∧ Below W.heap.size W w') :=
      Lib.hid (fun W hW => (HEQ.out W hW).mono (fun e w' ⟨hp, hb⟩ => ⟨hp.elim (fun h => absurd h.1 h0) (fun h => h.2), hb⟩))
    have hne : (askE xs ls d != 0) = true := by simpa using h0
    clear HEQ h0 h hL hA hc HC
    generalize askE xs ls d = ae at *
    go_enter Try.func34, Try.ntmps34
    go_wp2_with fail
    refine (HEQ2.out _ (by (repeat' (first | (with_reducible first | exact Below.refl _ _ | assumption | refine Below.alloc ?_ ?_ _ | refine Below.setCell ?_ ?_ _ | refine below_row ?_ ?_ _ | refine Below.drew ?_ | refine below_drewN ?_ _ | refine Below.trans ?_ (Below.mono (by assumption) ?_)) | exact Nat.le_refl _ | omega | (simp; done) | (simp; omega) | exact Below.size (by assumption))))).mono ?_
    rintro e w1 ⟨rfl, hb1⟩
    have s1 := hb1.size; try simp only [World.size_alloc, World.size_setCell, World.size_drew, setRow_size] at s1
    go_wp2_with fail
    go_ret2
    exact ⟨_, rfl, branches_nil _, capC (Nat.le_refl 0), by (repeat' (first | (with_reducible first | exact Below.refl _ _ | assumption | refine Below.alloc ?_ ?_ _ | refine Below.setCell ?_ ?_ _ | refine below_row ?_ ?_ _ | refine Below.drew ?_ | refine below_drewN ?_ _ | refine Below.trans ?_ (Below.mono (by assumption) ?_)) | exact Nat.le_refl _ | omega | (simp; done) | (simp; omega) | exact Below.size (by assumption)))⟩
theorem tree_c {vI vL : Value} {xs : List Iss} {ls : List Int} {d : Int} {l : List (Int × Int × Int × Int)} {q : Int} {w : World} (h : RegAt w vI xs) (hL : IntsAt w vL ls) (hll : ls.length ≤ 1000) (he : treeE xs ls d = (l, q)) :
    Calls Try.prog 34 #[.agg #[vI], vL, .int .i64 d] w fun e w' => ∃ A c, e = .returned (.tuple #[.slice A l.length c, .int .i64 q]) ∧ BranchesAt w' (.slice A l.length c) l ∧ l.length ≤ c ∧ Below w.heap.size w w' := by
  have h2 := sTreeC_any d h hL (by omega)
  rw [he] at h2
  refine h2.mono ?_
  rintro e w' ⟨v, rfl, hi, hc, hb⟩
  obtain ⟨A, c, rfl⟩ := hi.slice
  exact ⟨A, c, rfl, hi, hc _ _ _ rfl, hb⟩
end
end Go.Proofs.Ytkjfceajakhlfaa
