/- Uses. -/
import Derived.Test.YtkjfceajakhlfaaLF
import Derived.Test.YtkjfceajakhlfaaLI
import Derived.Test.YtkjfceajakhlfaaK20
import Derived.Test.YtkjfceajakhlfaaLG
namespace Go.Proofs.Ytkjfceajakhlfaa
set_option linter.unusedVariables false
set_option linter.unusedSimpArgs false
open Go.RowKit Go.Shelf

theorem infoRef : (Try.prog.info? 26).map (fun i => (i.zero, i.size, i.bytes)) = some (some (.agg #[.int .i64 0, .int .i64 0]), 2, 16) := by kernel_rfl
theorem refs_of_own {w : World} {base : Nat} {v : Value} {l : List (Int × Int)} (h : w.ownsRow base 26 2 v l.length (cellsI l)) : RefsAt w v l := by
  obtain ⟨A, c, g, hv, hc⟩ := own_form h
  refine ⟨A, c, g, 0, hv, fun h0 => (hc h0).2.1, fun i hi => ?_⟩
  obtain ⟨-, -, cur, hl, hcur⟩ := hc (by omega)
  rw [Nat.zero_add, hl.cell, hl.cell, hcur _ (by omega), hcur _ (by omega)]
  exact cellsI_at hi
theorem refs_nil (w : World) : RefsAt w (.slice none 0 0) [] := ⟨none, 0, 0, 0, rfl, fun h => absurd h (by simp), fun i h => absurd h (by simp)⟩
def hasB (d : Int) (x : Iss) : Bool := x.items.any fun it => it.1 == d
/-- Where a drawing is used, among the first k issues. -/
def usesJ (xs : List Iss) (d : Int) (k : Nat) : List (Int × Int) := ((xs.take k).filter (hasB d)).map fun x => (x.d, x.l)
theorem usesJ_step {xs : List Iss} {d : Int} {k : Nat} (h : k < xs.length) : usesJ xs d (k + 1) = usesJ xs d k ++ if hasB d xs[k] then [(xs[k].d, xs[k].l)] else [] := by
  unfold usesJ
  rw [List.take_succ_eq_append_getElem h, List.filter_append, List.map_append]
  congr 1
  by_cases e : hasB d xs[k] <;> simp [e]
theorem usesJ_le (xs : List Iss) (d : Int) (k : Nat) : (usesJ xs d k).length ≤ k := by
  unfold usesJ
  rw [List.length_map]
  exact Nat.le_trans (List.length_filter_le _ _) (List.length_take_le _ _)
/-- What Uses tells. -/
def usesE (xs : List Iss) (d : Int) : List (Int × Int) × Int := if layE xs ≠ 0 then ([], layE xs) else if d ∈ numbersL xs then (usesJ xs d xs.length, 0) else ([], 6)
def UsesP (r : List (Int × Int) × Int) (w : World) (e : Ending) (w' : World) : Prop := ∃ v, e = .returned (.tuple #[v, .int .i64 r.2]) ∧ RefsAt w' v r.1 ∧ Below w.heap.size w w'
set_option maxHeartbeats 400000 in
theorem uses1_any (g : Nat) (d x c : Int) (w : World) (hg : Lies w g 3 #[.int .i64 d]) :
    Calls Try.prog 82 #[.agg #[.int .i64 x, .int .i64 c], .pointer (some ⟨g, 0, none⟩)] w fun e w' => e = .returned (.bool (x == d)) ∧ Below w.heap.size w w' := by
  have g0 := (hg.alloc (.cells #[.int .i64 x, .int .i64 c] 52)).cell 0
  have zg := hg.lt
  clear hg
  go_enter Try.func82, Try.ntmps82
  go_wp2
  go_ret
  exact ⟨rfl, by (repeat' (first | (with_reducible first | exact Below.refl _ _ | assumption | refine Below.alloc ?_ ?_ _ | refine Below.setCell ?_ ?_ _ | refine below_row ?_ ?_ _ | refine Below.drew ?_ | refine below_drewN ?_ _ | refine Below.trans ?_ (Below.mono (by assumption) ?_)) | exact Nat.le_refl _ | omega | (simp; done) | (simp; omega) | exact Below.size (by assumption)))⟩
theorem enter_u1 : ∀ (args : Array Value) (W : World), (callFunc 82 args).run Try.prog W = .ok (.enter 82 args) W := enters_of Try.func82 (by kernel_rfl) rfl

set_option maxRecDepth 100000 in
set_option maxHeartbeats 8000000 in
theorem sUses_any {vI : Value} {xs : List Iss} {w : World} (d : Int) (h : RegAt w vI xs) : Calls Try.prog 38 #[.agg #[vI], .int .i64 d] w (UsesP (usesE xs d) w) := by
  have HRG := Lib.hid (fun W (hW : Below w.heap.size w W) => h.after hW)
  obtain ⟨A, c, b, off, vi, vd, rfl, hA, hc⟩ := h.at_.row
  have hlen := h.len
  have HA := Lib.hid hA
  have HC := Lib.hid hc
  have HSM := Lib.hid (fun x hx => (h.small x hx).1)
  obtain ⟨i0, hi0, hz0, hz1, hz2⟩ := info_parts infoRef
  have HN0 := Lib.hid ((Lies.new (u := w.alloc (.cells #[.slice A xs.length c] 24)) (k := w.heap.size + 1) (t := 3) (cs := #[.int .i64 d]) (by simp)))
  clear h hA hc
  unfold usesE
  by_cases h0 : layE xs = 0
  · have HL := Lib.hid (fun W hW => lay_yes (HRG.out W hW) h0)
    obtain ⟨-, h2, h3, -, -, -⟩ := layE_ok h0
    have HST := Lib.hid (numbers_strict h2)
    have hz20 : (numbersL xs).length ≤ 1000 := by omega
    rw [if_neg (by simpa using h0)]
    clear h0 h2 h3 HRG
    unfold DeskAt at HL
    generalize chainsL xs (numbersL xs) = cs at *
    generalize hr : (if d ∈ numbersL xs then (usesJ xs d xs.length, (0 : Int)) else ([], 6)) = r
    have HR := Lib.hid hr
    clear hr
    generalize numbersL xs = zs at *
    go_enter Try.func38, Try.ntmps38
    go_wp2_with fail
    refine (HL.out _ (by (repeat' (first | (with_reducible first | exact Below.refl _ _ | assumption | refine Below.alloc ?_ ?_ _ | refine Below.setCell ?_ ?_ _ | refine below_row ?_ ?_ _ | refine Below.drew ?_ | refine below_drewN ?_ _ | refine Below.trans ?_ (Below.mono (by assumption) ?_)) | exact Nat.le_refl _ | omega | (simp; done) | (simp; omega) | exact Below.size (by assumption))))).mono ?_
    rintro e w1 ⟨⟨vN, vD, rfl, hN, hD⟩, hb1⟩
    have s1 := hb1.size; try simp only [World.size_alloc, World.size_setCell, World.size_drew, setRow_size] at s1
    have HN1 := Lib.hid (HN0.out.after hb1)
    have HI1 := Lib.hid (fun W (hW : Below w1.heap.size w1 W) => hN.after hW)
    obtain ⟨AN, cN, rfl⟩ := hN.slice
    obtain ⟨AD, cD, rfl⟩ := hD.slice
    have LD1 := Lib.hid (Lies.made w1 118 #[.slice A xs.length c, .slice AN zs.length cN, .slice AD cs.length cD])
    have n0 := HN1.out.cell 0
    have zn := HN1.out.lt
    have hbw1 : Below w.heap.size w w1 := by (repeat' (first | (with_reducible first | exact Below.refl _ _ | assumption | refine Below.alloc ?_ ?_ _ | refine Below.setCell ?_ ?_ _ | refine below_row ?_ ?_ _ | refine Below.drew ?_ | refine below_drewN ?_ _ | refine Below.trans ?_ (Below.mono (by assumption) ?_)) | exact Nat.le_refl _ | omega | (simp; done) | (simp; omega) | exact Below.size (by assumption)))
    have hs1 := hbw1.size
    have HP := Lib.hid (fun W (hW : Below w1.heap.size w1 W) => place_v (.slice A xs.length c) (.slice AD cs.length cD) d (HI1.out W hW) HST.out hz20)
    clear hN hD hb1 HL HN0
    unfold PlaceAt at HP
    by_cases hd : d ∈ zs
    · have HRR : Hid (r = (usesJ xs d xs.length, 0)) := Lib.hid (by rw [← HR.out, if_pos hd])
      have hdd : decide (d ∈ zs) = true := decide_eq_true hd
      rw [hdd] at HP
      clear hd hdd HR
      go_wp2_with fail
      refine (HP.out _ (by (repeat' (first | (with_reducible first | exact Below.refl _ _ | assumption | refine Below.alloc ?_ ?_ _ | refine Below.setCell ?_ ?_ _ | refine below_row ?_ ?_ _ | refine Below.drew ?_ | refine below_drewN ?_ _ | refine Below.trans ?_ (Below.mono (by assumption) ?_)) | exact Nat.le_refl _ | omega | (simp; done) | (simp; omega) | exact Below.size (by assumption))))).mono ?_
      rintro e w2 ⟨p, -, -, -, rfl, hb2⟩
      have s2 := hb2.size; try simp only [World.size_alloc, World.size_setCell, World.size_drew, setRow_size] at s2
      have LD2 := Lib.hid (LD1.out.after hb2)
      have HN2 := Lib.hid ((HN1.out.alloc _).after hb2)
      have e0 := LD2.out.cell 0
      have ze := LD2.out.lt
      have hbw2 : Below w.heap.size w w2 := by (repeat' (first | (with_reducible first | exact Below.refl _ _ | assumption | refine Below.alloc ?_ ?_ _ | refine Below.setCell ?_ ?_ _ | refine below_row ?_ ?_ _ | refine Below.drew ?_ | refine below_drewN ?_ _ | refine Below.trans ?_ (Below.mono (by assumption) ?_)) | exact Nat.le_refl _ | omega | (simp; done) | (simp; omega) | exact Below.size (by assumption)))
      have hs2 := hbw2.size
      clear hb2 n0 zn
      go_wp2_with fail
      go_loopw [10, 33] (fun v i wr => ∃ (k : Nat) (AO : Option Addr) (cO : Nat), k ≤ xs.length ∧ i = .int .i64 k ∧ v = .slice AO (usesJ xs d k).length cO ∧ Hid (wr.ownsRow w2.heap.size 26 2 (.slice AO (usesJ xs d k).length cO) (usesJ xs d k).length (cellsI (usesJ xs d k))) ∧ Below w2.heap.size w2 wr) (fun _ i _ => xs.length - (intOf i).toNat)
      case atStart => exact ⟨0, none, 0, by omega, rfl, rfl, Lib.hid (World.ownsRow_nil _ _ _ _), Below.refl _ _⟩
      case round =>
        obtain ⟨k, AO, cO, hk, rfl, rfl, HO, hb⟩ := hrel
        have hzz := hb.size
        have hle := usesJ_le xs d k
        have hbwr : Below w.heap.size w wr := hbw2.trans (hb.mono hs2)
        by_cases hlt : k < xs.length
        · obtain rfl := HA.out (by omega)
          obtain ⟨q0, q1, q2, q3, q4, -, hit, -⟩ := (HC.out.after hbwr) k hlt
          obtain ⟨e3, e4⟩ := HC.out.slices hlt
          have hsm := HSM.out xs[k] (List.getElem_mem hlt)
          have HST2 := Lib.hid (usesJ_step (d := d) hlt)
          have kl1 : (k : Int) < (xs.length : Int) := by omega
          have hN3 := HN2.out.after hb
          have n3 := hN3.cell 0
          have zn3 := hN3.lt
          have HHB : Hid (hasB d xs[k] = xs[k].items.any fun it => it.1 == d) := Lib.hid rfl
          generalize vd k = ve at *
          obtain ⟨A2, n2, c2, rfl⟩ := e4
          obtain ⟨Ai, ci, bi, oi, hvi, hAi, hci⟩ := hit
          rw [hvi] at q3
          have HCF : Hid (∀ W', Below wr.heap.size wr W' → Calls Try.prog 81 #[.slice Ai xs[k].items.length ci, .func (.func 82) #[] #[.pointer (some ⟨w.heap.size + 1, 0, none⟩)]] W' fun e w' => e = .returned (.bool (xs[k].items.any fun it => it.1 == d)) ∧ Below W'.heap.size W' w') :=
            Lib.hid (fun W' hW' => hasI_any 82 #[.pointer (some ⟨w.heap.size + 1, 0, none⟩)] (fun it => it.1 == d) Ai ci bi oi xs[k].items W' hAi hsm (fun i hi => ⟨cell_keep hW' (hci i hi).1, cell_keep hW' (hci i hi).2⟩) enter_u1
              (fun it hit W2 hW2 => uses1_any (w.heap.size + 1) d it.1 it.2 W2 ((hN3.after hW').after hW2)))
          rw [← HHB.out] at HCF
          have hmf : ∀ (fn : Fn) (first cap : Array Value) (w : World), (Instr.makeFunc fn first cap).run Try.prog w = .ok (.func fn first cap) w := fun _ _ _ _ => rfl
          clear hvi hAi hci hN3 e3 HHB
          generalize hasB d xs[k] = hh at *
          generalize xs[k].items.length = il at *
          generalize xs[k].d = dx at *
          generalize xs[k].l = lx at *
          generalize xs[k].k = kx at *
          generalize usesJ xs d k = uj at *
          have zc := cellsI_len uj
          go_wp2_with fail
          refine (HCF.out _ (by (repeat' (first | (with_reducible first | exact Below.refl _ _ | assumption | refine Below.alloc ?_ ?_ _ | refine Below.setCell ?_ ?_ _ | refine below_row ?_ ?_ _ | refine Below.drew ?_ | refine below_drewN ?_ _ | refine Below.trans ?_ (Below.mono (by assumption) ?_)) | exact Nat.le_refl _ | omega | (simp; done) | (simp; omega) | exact Below.size (by assumption))))).mono ?_
          rintro e w3 ⟨rfl, hb3⟩
          have s3 := hb3.size; try simp only [World.size_alloc, World.size_setCell, World.size_drew, setRow_size] at s3
          have HX3 := Lib.hid ((Lies.made wr 45 #[.int .i64 dx, .int .i64 lx, .int .u8 kx, .slice Ai il ci, .slice A2 n2 c2]).after hb3)
          have HO3 := Lib.hid (own_after (HO.out.alloc _) hb3)
          have hb23 : Below w2.heap.size w2 w3 := (hb.alloc hzz _).trans (hb3.mono (by simp; omega))
          have x0 := HX3.out.cell 0
          have x1 := HX3.out.cell 1
          have x2 := HX3.out.cell 2
          have x3 := HX3.out.cell 3
          have x4 := HX3.out.cell 4
          have zx := HX3.out.lt
          have hs23 := hb23.size
          clear hb3 q0 q1 q2 q3 q4 n3 zn3
          cases hh
          · have HST3 : Hid (usesJ xs d (k + 1) = uj) := Lib.hid (by rw [HST2.out]; simp)
            go_wp2_with fail
            go_roundw
            case rel => exact ⟨k + 1, AO, cO, by omega, by go_num, by rw [HST3.out], Lib.hid (by rw [HST3.out]; exact HO3.out), hb23⟩
            case measure => simp [intOf]; omega
          · have HST3 : Hid (usesJ xs d (k + 1) = uj ++ [(dx, lx)]) := Lib.hid (by rw [HST2.out]; simp)
            have HCI : Hid (cellsI uj ++ [.int .i64 dx, .int .i64 lx] = cellsI (uj ++ [(dx, lx)])) := Lib.hid (by simp [cellsI])
            go_wp2_with fail
            refine (nameOf_any _ _ _ _ _ _).mono ?_
            rintro e w4 ⟨rfl, hb4⟩
            have s4 := hb4.size; try simp only [World.size_alloc, World.size_setCell, World.size_drew, setRow_size] at s4
            have HO4 := Lib.hid (own_after HO3.out hb4)
            have hb24 : Below w2.heap.size w2 w4 := hb23.trans (hb4.mono hs23)
            have hs24 := hb24.size
            clear hb4 x0 x1 x2 x3 x4
            go_wp2_with (at_builtin; refine wpList_append_own _ rfl _ _ 69 rfl w2.heap.size 26 i0 (.agg #[.int .i64 0, .int .i64 0]) 2 16 Try.underlying69 hi0 hz0 hz1 hz2 rfl (by decide) _ _ _ rfl (HO4.out.alloc _) ⟨_, 0, none⟩ 1 1 [.int .i64 dx, .int .i64 lx] rfl rfl (World.news_of_block (cs := #[.int .i64 dx, .int .i64 lx]) (t := 26) (fr := (0, 0)) (Lies.new (by simp))) (by simp [Value.oneCell']) (by unfold maxLen; omega) (by omega) (by simp; omega) ?_; intro v' w5 hown' hgrow _; have HB5 := Lib.hid (below_own (w0 := w2) (B := w2.heap.size) (by (repeat' (first | (with_reducible first | exact Below.refl _ _ | assumption | refine Below.alloc ?_ ?_ _ | refine Below.setCell ?_ ?_ _ | refine below_row ?_ ?_ _ | refine Below.drew ?_ | refine below_drewN ?_ _ | refine Below.trans ?_ (Below.mono (by assumption) ?_)) | exact Nat.le_refl _ | omega | (simp; done) | (simp; omega) | exact Below.size (by assumption)))) (HO4.out.alloc _) hgrow (Nat.le_refl _) (by simp; omega)); rw [HCI.out] at hown'; have HO5 := Lib.hid hown'; obtain ⟨A5, c5, g5, rfl, -⟩ := own_form hown'; clear hown' hgrow)
            go_roundw
            case rel => exact ⟨k + 1, A5, c5, by omega, by go_num, by rw [HST3.out]; simp, Lib.hid (by rw [HST3.out]; simpa using HO5.out), HB5.out⟩
            case measure => simp [intOf]; omega
        · have hke : k = xs.length := by omega
          have HRE := Lib.hid (refs_of_own HO.out)
          have HR2 := Lib.hid HRR.out
          subst hke
          have kl0 : ¬ (xs.length : Int) < (xs.length : Int) := by omega
          go_wp2_with fail
          go_ret2
          exact ⟨.slice AO (usesJ xs d xs.length).length cO, by rw [HR2.out]; rfl, by rw [HR2.out]; exact HRE.out, hbwr⟩
    · have HRR : Hid (r = ([], 6)) := Lib.hid (by rw [← HR.out, if_neg hd])
      have hdd : decide (d ∈ zs) = false := decide_eq_false hd
      rw [hdd] at HP
      clear hd hdd HR
      go_wp2_with fail
      refine (HP.out _ (by (repeat' (first | (with_reducible first | exact Below.refl _ _ | assumption | refine Below.alloc ?_ ?_ _ | refine Below.setCell ?_ ?_ _ | refine below_row ?_ ?_ _ | refine Below.drew ?_ | refine below_drewN ?_ _ | refine Below.trans ?_ (Below.mono (by assumption) ?_)) | exact Nat.le_refl _ | omega | (simp; done) | (simp; omega) | exact Below.size (by assumption))))).mono ?_
      rintro e w2 ⟨p, -, -, -, rfl, hb2⟩
      have s2 := hb2.size; try simp only [World.size_alloc, World.size_setCell, World.size_drew, setRow_size] at s2
      have hbw2 : Below w.heap.size w w2 := by (repeat' (first | (with_reducible first | exact Below.refl _ _ | assumption | refine Below.alloc ?_ ?_ _ | refine Below.setCell ?_ ?_ _ | refine below_row ?_ ?_ _ | refine Below.drew ?_ | refine below_drewN ?_ _ | refine Below.trans ?_ (Below.mono (by assumption) ?_)) | exact Nat.le_refl _ | omega | (simp; done) | (simp; omega) | exact Below.size (by assumption)))
      go_wp2_with fail
      go_ret2
      exact ⟨.slice none 0 0, by rw [HRR.out]; rfl, by rw [HRR.out]; exact refs_nil _, hbw2⟩
  · have HL := Lib.hid (fun W hW => lay_err (HRG.out W hW) h0)
    rw [if_pos h0]
    have hne : (layE xs != 0) = true := by simpa using h0
    clear h0
    generalize layE xs = ee at *
    go_enter Try.func38, Try.ntmps38
    go_wp2_with fail
    refine (HL.out _ (by (repeat' (first | (with_reducible first | exact Below.refl _ _ | assumption | refine Below.alloc ?_ ?_ _ | refine Below.setCell ?_ ?_ _ | refine below_row ?_ ?_ _ | refine Below.drew ?_ | refine below_drewN ?_ _ | refine Below.trans ?_ (Below.mono (by assumption) ?_)) | exact Nat.le_refl _ | omega | (simp; done) | (simp; omega) | exact Below.size (by assumption))))).mono ?_
    rintro e w1 ⟨rfl, hb1⟩
    have s1 := hb1.size; try simp only [World.size_alloc, World.size_setCell, World.size_drew, setRow_size] at s1
    go_wp2_with fail
    go_ret2
    exact ⟨_, rfl, refs_nil _, by (repeat' (first | (with_reducible first | exact Below.refl _ _ | assumption | refine Below.alloc ?_ ?_ _ | refine Below.setCell ?_ ?_ _ | refine below_row ?_ ?_ _ | refine Below.drew ?_ | refine below_drewN ?_ _ | refine Below.trans ?_ (Below.mono (by assumption) ?_)) | exact Nat.le_refl _ | omega | (simp; done) | (simp; omega) | exact Below.size (by assumption)))⟩
end Go.Proofs.Ytkjfceajakhlfaa
