/- The walks of package size: the number of a word. -/
import Derived.Test.YtjejjeomknkglaaDoorT2
import Derived.IntWalk
namespace Go.Proofs.YtjejjeomknkglaaDoor
set_option linter.unusedVariables false
set_option linter.unusedSimpArgs false
open Go.RowKit

theorem hasPrefix_minus (l : List UInt8) : Lib.hasPrefix l [45] = decide (l.head? = some 45) := by
  cases l with
  | nil => rfl
  | cons c l => 
    simp only [Lib.hasPrefix, List.isPrefixOf, List.head?_cons, Option.some.injEq, Bool.and_true]
    rw [Bool.eq_iff_iff, beq_iff_eq, decide_eq_true_iff]; exact eq_comm
/-- What number comes to: a number, or a panic. -/
def NumR (r : Option Int) (w : World) (e : Ending) (w' : World) : Prop :=
  (match r with | some v => e = .returned (.int .i64 v) | none => e = .panicked [{ v := .iface 57 (.agg #[]), recovered := false }]) ∧ Below w.heap.size w w'
theorem NumR.yes {r : Option Int} {v : Int} {w w' : World} (hr : r = some v) (hb : Below w.heap.size w w') : NumR r w (.returned (.int .i64 v)) w' := by subst hr; exact ⟨rfl, hb⟩
theorem NumR.no {r : Option Int} {w w' : World} (hr : r = none) (hb : Below w.heap.size w w') : NumR r w (.panicked [{ v := .iface 57 (.agg #[]), recovered := false }]) w' := by subst hr; exact ⟨rfl, hb⟩

theorem numGo_skip {most s : Int} {c : UInt8} {cs : List UInt8} (h : c.toNat = 43 ∨ c.toNat = 45 ∨ c.toNat = 46) : numGo most s (c :: cs) = numGo most s cs := by
  have h' : c = 43 ∨ c = 45 ∨ c = 46 := by
    rcases h with h | h | h
    · exact .inl (UInt8.toNat_inj.1 h)
    · exact .inr (.inl (UInt8.toNat_inj.1 h))
    · exact .inr (.inr (UInt8.toNat_inj.1 h))
  rw [numGo, if_pos h']
theorem numGo_wrong {most s : Int} {c : UInt8} {cs : List UInt8} (h : ¬ (c.toNat = 43 ∨ c.toNat = 45 ∨ c.toNat = 46)) (h2 : c.toNat < 48 ∨ 57 < c.toNat ∨ most < s) : numGo most s (c :: cs) = none := by
  have h' : ¬ (c = 43 ∨ c = 45 ∨ c = 46) := by
    rintro (rfl | rfl | rfl) <;> simp at h
  have h2' : c < 48 ∨ 57 < c ∨ most < s := by
    rcases h2 with h2 | h2 | h2
    · exact .inl (UInt8.lt_iff_toNat_lt.2 h2)
    · exact .inr (.inl (UInt8.lt_iff_toNat_lt.2 h2))
    · exact .inr (.inr h2)
  rw [numGo, if_neg h', if_pos h2']
theorem numGo_digit {most s : Int} {c : UInt8} {cs : List UInt8} (h1 : 48 ≤ c.toNat) (h2 : c.toNat ≤ 57) (h3 : s ≤ most) : numGo most s (c :: cs) = numGo most (s * 10 + ((c.toNat : Int) - 48)) cs := by
  have h' : ¬ (c = 43 ∨ c = 45 ∨ c = 46) := by
    rintro (rfl | rfl | rfl) <;> simp at h1
  have h2' : ¬ (c < 48 ∨ 57 < c ∨ most < s) := by
    rintro (h | h | h)
    · have := UInt8.lt_iff_toNat_lt.1 h; simp at this; omega
    · have := UInt8.lt_iff_toNat_lt.1 h; simp at this; omega
    · omega
  rw [numGo, if_neg h', if_neg h2']

theorem body_panic {P : Program} {fn : Func} {R : Ending → World → Prop} {a : Act} {w : World} {ch : List PanicEntry} (hd : a.defers = []) (h : R (.panicked ch) w) : bodyPost P fn R (.panic ch) a w := ⟨hd, h⟩
set_option maxHeartbeats 4000000 in
theorem number_any (un st pl : Int) (m : ByteArray) (b1 b2 : Nat) (W : ByteArray) (w : World) (hst : st = 100 ∨ st = 254) (hl : W.size ≤ 1000000) :
    Calls Tryd.prog 52 #[.agg #[.int .u8 un, .int .i64 st, .int .i64 pl, .string m, .func (.func 57) #[] #[.pointer (some ⟨b1, 0, none⟩)], .func (.func 58) #[] #[.pointer (some ⟨b1, 0, none⟩)], .func (.func 59) #[] #[.pointer (some ⟨b2, 0, none⟩), .pointer (some ⟨b1, 0, none⟩)]], .string W] w (NumR (numL st W.data.toList) w) := by
  have h0 : (0 : Int) < st := by omega
  have hmost : 0 ≤ 1000000000 / st ∧ 1000000000 / st ≤ 10000000 := by rcases hst with rfl | rfl <;> omega
  have HMO := Lib.hid hmost
  clear hmost
  have HSZ : Hid (W.size = W.data.toList.length) := Lib.hid (Lib.size_eq W)
  go_enter Tryd.func52, Tryd.ntmps52
  go_wp2_with fail
  go_step3
  go_wp2_with fail
  go_step3
  go_wp2_with fail
  generalize hM : 1000000000 / st = most at *
  have HM := Lib.hid hM
  clear hM
  obtain ⟨m0, m1⟩ := HMO.out
  clear HMO
  go_loop [6, 7, 15] (fun s wr i => ∃ (k : Nat) (x : Int), k ≤ W.size ∧ i = .int .i64 k ∧ s = .int .i64 x ∧ wr = .bool false ∧ 0 ≤ x ∧ x ≤ 1000000000 ∧ Hid (numGo most x (W.data.toList.drop k) = numGo most 0 W.data.toList)) (fun _ _ i => W.size - (intOf i).toNat)
  case atStart => exact ⟨0, 0, by omega, rfl, rfl, rfl, by omega, by omega, Lib.hid rfl⟩
  case round =>
    obtain ⟨k, x, hk, rfl, rfl, rfl, x0, x1, HG⟩ := hrel
    by_cases hlt : k < W.size
    · have hkl : k < W.data.toList.length := by rw [← HSZ.out]; exact hlt
      have hdrop : W.data.toList.drop k = W[k] :: W.data.toList.drop (k + 1) := List.drop_eq_getElem_cons hkl
      have hG := HG.out
      rw [hdrop] at hG
      have hstep := Lib.hid hG
      clear hG hdrop HG
      have y256 : W[k].toNat < 256 := W[k].toNat_lt
      have hc : (W[k].toNat = 43) ∨ (W[k].toNat = 45) ∨ (W[k].toNat = 46) ∨ ((¬ W[k].toNat = 43 ∧ ¬ W[k].toNat = 45 ∧ ¬ W[k].toNat = 46) ∧ W[k].toNat < 48) ∨ (48 ≤ W[k].toNat ∧ 57 < W[k].toNat) ∨ (48 ≤ W[k].toNat ∧ W[k].toNat ≤ 57 ∧ most < x) ∨ (48 ≤ W[k].toNat ∧ W[k].toNat ≤ 57 ∧ x ≤ most) := by omega
      rcases hc with h | h | h | ⟨⟨n1, n2, n3⟩, h⟩ | ⟨h1, h2⟩ | ⟨h1, h2, h3⟩ | ⟨h1, h2, h3⟩
      · have e : (W[k].toNat : Int) = 43 := by omega
        have H := Lib.hid h
        clear h
        go_wp2
        go_round
        case rel => exact ⟨k + 1, x, by omega, by go_num, rfl, rfl, x0, x1, Lib.hid (by rw [← hstep.out]; exact (numGo_skip (.inl H.out)).symm)⟩
        case measure => simp [intOf]; omega
      · have e : (W[k].toNat : Int) = 45 := by omega
        have H := Lib.hid h
        clear h
        go_wp2
        go_round
        case rel => exact ⟨k + 1, x, by omega, by go_num, rfl, rfl, x0, x1, Lib.hid (by rw [← hstep.out]; exact (numGo_skip (.inr (.inl H.out))).symm)⟩
        case measure => simp [intOf]; omega
      · have e : (W[k].toNat : Int) = 46 := by omega
        have H := Lib.hid h
        clear h
        go_wp2
        go_round
        case rel => exact ⟨k + 1, x, by omega, by go_num, rfl, rfl, x0, x1, Lib.hid (by rw [← hstep.out]; exact (numGo_skip (.inr (.inr H.out))).symm)⟩
        case measure => simp [intOf]; omega
      · have m1' : ¬ (W[k].toNat : Int) = 43 := by omega
        have m2' : ¬ (W[k].toNat : Int) = 45 := by omega
        have m3' : ¬ (W[k].toNat : Int) = 46 := by omega
        have q1' : ((W[k].toNat : Int) == 43) = false := by rw [beq_eq_false_iff_ne]; exact m1'
        have q2' : ((W[k].toNat : Int) == 45) = false := by rw [beq_eq_false_iff_ne]; exact m2'
        have q3' : ((W[k].toNat : Int) == 46) = false := by rw [beq_eq_false_iff_ne]; exact m3'
        have m4' : (W[k].toNat : Int) < 48 := by omega
        have H := Lib.hid (And.intro n1 (And.intro n2 (And.intro n3 h)))
        clear n1 n2 n3 h
        go_wp2
        exact body_panic rfl (NumR.no (by unfold numL; rw [HM.out, ← hstep.out, numGo_wrong (by have := H.out; omega) (by have := H.out; omega)]; rfl) (by (repeat' (first | (with_reducible exact Below.refl _ _) | (with_reducible assumption) | (with_reducible refine Below.alloc ?_ ?_ _) | (with_reducible refine Below.setCell ?_ ?_ _) | (with_reducible refine below_row ?_ ?_ _) | (with_reducible refine Below.drew ?_) | (with_reducible refine below_drewN ?_ _) | (with_reducible refine Below.trans ?_ (Below.mono (by assumption) ?_)) | (first | exact Nat.le_refl _ | omega | (simp; done) | (simp; omega))))))
      · have m1' : ¬ (W[k].toNat : Int) = 43 := by omega
        have m2' : ¬ (W[k].toNat : Int) = 45 := by omega
        have m3' : ¬ (W[k].toNat : Int) = 46 := by omega
        have q1' : ((W[k].toNat : Int) == 43) = false := by rw [beq_eq_false_iff_ne]; exact m1'
        have q2' : ((W[k].toNat : Int) == 45) = false := by rw [beq_eq_false_iff_ne]; exact m2'
        have q3' : ((W[k].toNat : Int) == 46) = false := by rw [beq_eq_false_iff_ne]; exact m3'
        have m4' : ¬ (W[k].toNat : Int) < 48 := by omega
        have m5' : (57 : Int) < (W[k].toNat : Int) := by omega
        have H := Lib.hid (And.intro h1 h2)
        clear h1 h2
        go_wp2
        exact body_panic rfl (NumR.no (by unfold numL; rw [HM.out, ← hstep.out, numGo_wrong (by have := H.out; omega) (by have := H.out; omega)]; rfl) (by (repeat' (first | (with_reducible exact Below.refl _ _) | (with_reducible assumption) | (with_reducible refine Below.alloc ?_ ?_ _) | (with_reducible refine Below.setCell ?_ ?_ _) | (with_reducible refine below_row ?_ ?_ _) | (with_reducible refine Below.drew ?_) | (with_reducible refine below_drewN ?_ _) | (with_reducible refine Below.trans ?_ (Below.mono (by assumption) ?_)) | (first | exact Nat.le_refl _ | omega | (simp; done) | (simp; omega))))))
      · have m1' : ¬ (W[k].toNat : Int) = 43 := by omega
        have m2' : ¬ (W[k].toNat : Int) = 45 := by omega
        have m3' : ¬ (W[k].toNat : Int) = 46 := by omega
        have q1' : ((W[k].toNat : Int) == 43) = false := by rw [beq_eq_false_iff_ne]; exact m1'
        have q2' : ((W[k].toNat : Int) == 45) = false := by rw [beq_eq_false_iff_ne]; exact m2'
        have q3' : ((W[k].toNat : Int) == 46) = false := by rw [beq_eq_false_iff_ne]; exact m3'
        have m4' : ¬ (W[k].toNat : Int) < 48 := by omega
        have m5' : ¬ (57 : Int) < (W[k].toNat : Int) := by omega
        have H := Lib.hid (And.intro h1 h2)
        clear h1 h2
        go_wp2
        exact body_panic rfl (NumR.no (by unfold numL; rw [HM.out, ← hstep.out, numGo_wrong (by have := H.out; omega) (.inr (.inr h3))]; rfl) (by (repeat' (first | (with_reducible exact Below.refl _ _) | (with_reducible assumption) | (with_reducible refine Below.alloc ?_ ?_ _) | (with_reducible refine Below.setCell ?_ ?_ _) | (with_reducible refine below_row ?_ ?_ _) | (with_reducible refine Below.drew ?_) | (with_reducible refine below_drewN ?_ _) | (with_reducible refine Below.trans ?_ (Below.mono (by assumption) ?_)) | (first | exact Nat.le_refl _ | omega | (simp; done) | (simp; omega))))))
      · have m1' : ¬ (W[k].toNat : Int) = 43 := by omega
        have m2' : ¬ (W[k].toNat : Int) = 45 := by omega
        have m3' : ¬ (W[k].toNat : Int) = 46 := by omega
        have q1' : ((W[k].toNat : Int) == 43) = false := by rw [beq_eq_false_iff_ne]; exact m1'
        have q2' : ((W[k].toNat : Int) == 45) = false := by rw [beq_eq_false_iff_ne]; exact m2'
        have q3' : ((W[k].toNat : Int) == 46) = false := by rw [beq_eq_false_iff_ne]; exact m3'
        have m4' : ¬ (W[k].toNat : Int) < 48 := by omega
        have m5' : ¬ (57 : Int) < (W[k].toNat : Int) := by omega
        have m6' : ¬ most < x := by omega
        have m7' : (48 : Int) ≤ (W[k].toNat : Int) := by omega
        have m8' : (W[k].toNat : Int) ≤ 57 := by omega
        have H := Lib.hid (And.intro h1 h2)
        clear h1 h2
        go_wp2
        go_round
        case rel => exact ⟨k + 1, x * 10 + ((W[k].toNat : Int) - 48), by omega, by go_num, rfl, rfl, by omega, by omega, Lib.hid (by rw [← hstep.out]; exact (numGo_digit H.out.1 H.out.2 h3).symm)⟩
        case measure => simp [intOf]; omega
    · have hke : k = W.size := by omega
      have hG := HG.out
      rw [hke, show W.data.toList.drop W.size = [] by rw [HSZ.out, List.drop_length]] at hG
      have HE := Lib.hid (show numGo most 0 W.data.toList = some x from hG.symm)
      clear hG HG
      subst hke
      have hbd : -1000000000 ≤ x ∧ x ≤ 1000000000 := by omega
      have k1 : IntKind.i64.wrap (x * st) = x * st := IntWalk.i64_in _ (by rcases hst with rfl | rfl <;> omega)
      have k2 : IntKind.i64.wrap (-x * st) = -x * st := IntWalk.i64_in _ (by rcases hst with rfl | rfl <;> omega)
      by_cases hp : W.data.toList.head? = some 45
      · have HV := Lib.hid (show numL st W.data.toList = some (-x * st) by unfold numL; rw [HM.out, HE.out, Option.map_some, if_pos hp])
        have HP := Lib.hid (show Lib.hasPrefix W.data.toList (⟨#[45]⟩ : ByteArray).data.toList = true from (hasPrefix_minus W.data.toList).trans (decide_eq_true hp))
        clear hp hst
        go_wp2_with fail
        refine (Tryd.strings_HasPrefix W _ _).mono ?_
        rw [HP.out]
        rintro e w1 ⟨rfl, rfl⟩
        go_wp2
        go_ret
        exact NumR.yes HV.out (by (repeat' (first | (with_reducible exact Below.refl _ _) | (with_reducible assumption) | (with_reducible refine Below.alloc ?_ ?_ _) | (with_reducible refine Below.setCell ?_ ?_ _) | (with_reducible refine below_row ?_ ?_ _) | (with_reducible refine Below.drew ?_) | (with_reducible refine below_drewN ?_ _) | (with_reducible refine Below.trans ?_ (Below.mono (by assumption) ?_)) | (first | exact Nat.le_refl _ | omega | (simp; done) | (simp; omega)))))
      · have HV := Lib.hid (show numL st W.data.toList = some (x * st) by unfold numL; rw [HM.out, HE.out, Option.map_some, if_neg hp])
        have HP := Lib.hid (show Lib.hasPrefix W.data.toList (⟨#[45]⟩ : ByteArray).data.toList = false from (hasPrefix_minus W.data.toList).trans (decide_eq_false hp))
        clear hp hst
        go_wp2_with fail
        refine (Tryd.strings_HasPrefix W _ _).mono ?_
        rw [HP.out]
        rintro e w1 ⟨rfl, rfl⟩
        go_wp2
        go_ret
        exact NumR.yes HV.out (by (repeat' (first | (with_reducible exact Below.refl _ _) | (with_reducible assumption) | (with_reducible refine Below.alloc ?_ ?_ _) | (with_reducible refine Below.setCell ?_ ?_ _) | (with_reducible refine below_row ?_ ?_ _) | (with_reducible refine Below.drew ?_) | (with_reducible refine below_drewN ?_ _) | (with_reducible refine Below.trans ?_ (Below.mono (by assumption) ?_)) | (first | exact Nat.le_refl _ | omega | (simp; done) | (simp; omega)))))
end Go.Proofs.YtjejjeomknkglaaDoor
