/- The reference: the number of a text's digits; its words. -/
import Derived.Test.YtjejjeomknkglaaDoorQ0
import Derived.Test.YtjejjeomknkglaaDoorR1
import Derived.Laws.OwnMore
import Derived.Deep.AppendLies
import Derived.Deep.RegionHeld3
namespace Go.Proofs.YtjejjeomknkglaaDoor
set_option linter.unusedVariables false
set_option linter.unusedSimpArgs false
open Go.RowKit Go.Sort

theorem valGo_no {s : Int} {c : UInt8} {cs : List UInt8} (h : ¬ (48 ≤ c.toNat ∧ c.toNat ≤ 57 ∧ s < 1000000000)) : valGo s (c :: cs) = valGo s cs := by rw [valGo, if_neg h]
theorem valGo_yes {s : Int} {c : UInt8} {cs : List UInt8} (h : 48 ≤ c.toNat ∧ c.toNat ≤ 57 ∧ s < 1000000000) : valGo s (c :: cs) = valGo (10 * s + ((c.toNat : Int) - 48)) cs := by rw [valGo, if_pos h]
set_option maxHeartbeats 2000000 in
theorem rvalue_any (W : ByteArray) (w : World) (hl : W.size ≤ 100) :
    Calls Tryd.prog 26 #[.string W] w fun e w' => e = .returned (.int .i64 (valL W.data.toList)) ∧ w' = w := by
  have HSZ : Hid (W.size = W.data.toList.length) := Lib.hid (Lib.size_eq W)
  have HV : Hid (valL W.data.toList = if W.data.toList.head? = some 45 then -valGo 0 W.data.toList else valGo 0 W.data.toList) := Lib.hid rfl
  generalize valL W.data.toList = V at *
  go_enter Tryd.func26, Tryd.ntmps26
  go_wp2_with fail
  go_loop [3, 4] (fun s i => ∃ (k : Nat) (x : Int), k ≤ W.size ∧ i = .int .i64 k ∧ s = .int .i64 x ∧ 0 ≤ x ∧ x < 10000000000 ∧ Hid (valGo x (W.data.toList.drop k) = valGo 0 W.data.toList)) (fun _ i => W.size - (intOf i).toNat)
  case atStart => exact ⟨0, 0, by omega, rfl, rfl, by omega, by omega, Lib.hid rfl⟩
  case round =>
    obtain ⟨k, x, hk, rfl, rfl, x0, x1, HG⟩ := hrel
    by_cases hlt : k < W.size
    · have hkl : k < W.data.toList.length := by rw [← HSZ.out]; exact hlt
      have hdrop : W.data.toList.drop k = W[k] :: W.data.toList.drop (k + 1) := List.drop_eq_getElem_cons hkl
      have hG := HG.out
      rw [hdrop] at hG
      have hstep := Lib.hid hG
      clear hG hdrop HG
      have y256 : W[k].toNat < 256 := W[k].toNat_lt
      have hc : (W[k].toNat < 48) ∨ (48 ≤ W[k].toNat ∧ 57 < W[k].toNat) ∨ (48 ≤ W[k].toNat ∧ W[k].toNat ≤ 57 ∧ 1000000000 ≤ x) ∨ (48 ≤ W[k].toNat ∧ W[k].toNat ≤ 57 ∧ x < 1000000000) := by omega
      rcases hc with h | ⟨h1, h2⟩ | ⟨h1, h2, h3⟩ | ⟨h1, h2, h3⟩
      · have m4' : (W[k].toNat : Int) < 48 := by omega
        have HN := Lib.hid (valGo_no (cs := W.data.toList.drop (k + 1)) (s := x) (c := W[k]) (by omega))
        clear h
        go_wp2
        go_round
        case rel => exact ⟨k + 1, x, by omega, by go_num, rfl, x0, x1, Lib.hid (by rw [← hstep.out]; exact HN.out.symm)⟩
        case measure => simp [intOf]; omega
      · have m4' : ¬ (W[k].toNat : Int) < 48 := by omega
        have m5' : (57 : Int) < (W[k].toNat : Int) := by omega
        have HN := Lib.hid (valGo_no (cs := W.data.toList.drop (k + 1)) (s := x) (c := W[k]) (by omega))
        clear h1 h2
        go_wp2
        go_round
        case rel => exact ⟨k + 1, x, by omega, by go_num, rfl, x0, x1, Lib.hid (by rw [← hstep.out]; exact HN.out.symm)⟩
        case measure => simp [intOf]; omega
      · have m4' : ¬ (W[k].toNat : Int) < 48 := by omega
        have m5' : ¬ (57 : Int) < (W[k].toNat : Int) := by omega
        have HN := Lib.hid (valGo_no (cs := W.data.toList.drop (k + 1)) (s := x) (c := W[k]) (by omega))
        clear h1 h2
        go_wp2
        go_round
        case rel => exact ⟨k + 1, x, by omega, by go_num, rfl, x0, x1, Lib.hid (by rw [← hstep.out]; exact HN.out.symm)⟩
        case measure => simp [intOf]; omega
      · have m4' : ¬ (W[k].toNat : Int) < 48 := by omega
        have m5' : ¬ (57 : Int) < (W[k].toNat : Int) := by omega
        have m7' : (48 : Int) ≤ (W[k].toNat : Int) := by omega
        have m8' : (W[k].toNat : Int) ≤ 57 := by omega
        have HN := Lib.hid (valGo_yes (cs := W.data.toList.drop (k + 1)) (s := x) (c := W[k]) ⟨h1, h2, h3⟩)
        clear h1 h2
        go_wp2
        go_round
        case rel => exact ⟨k + 1, 10 * x + ((W[k].toNat : Int) - 48), by omega, by go_num, rfl, by omega, by omega, Lib.hid (by rw [← hstep.out]; exact HN.out.symm)⟩
        case measure => simp [intOf]; omega
    · have hke : k = W.size := by omega
      have hG := HG.out
      rw [hke, show W.data.toList.drop W.size = [] by rw [HSZ.out, List.drop_length]] at hG
      have HE := Lib.hid (show valGo 0 W.data.toList = x from hG.symm)
      clear hG HG
      subst hke
      by_cases h0 : W.size = 0
      · have hV : V = x := by
          rw [HV.out, HE.out, if_neg]
          intro h
          have := HSZ.out
          cases e : W.data.toList with
          | nil => rw [e] at h; cases h
          | cons c l => rw [e] at this; simp at this; omega
        have HVV := Lib.hid hV
        clear hV
        go_wp2
        go_ret
        exact ⟨ret_int HVV.out.symm, rfl⟩
      · have hp0 : 0 < W.size := by omega
        have hhd : W.data.toList.head? = some W[0] := by
          have := HSZ.out
          cases e : W.data.toList with
          | nil => rw [e] at this; exact absurd this (by simp only [List.length_nil]; omega)
          | cons c l =>
            have e2 : W[0] = W.data.toList[0]'(by rw [e]; simp) := rfl
            rw [e2]; simp [e]
        by_cases hm : W[0].toNat = 45
        · have hm' : W[0] = 45 := UInt8.toNat_inj.1 hm
          have HVV := Lib.hid (show V = -x by rw [HV.out, HE.out, hhd, hm', if_pos rfl])
          have e : (W[0].toNat : Int) = 45 := by omega
          clear hhd hm'
          go_wp2
          go_ret
          exact ⟨ret_int HVV.out.symm, rfl⟩
        · have HVV := Lib.hid (show V = x by
            rw [HV.out, HE.out, hhd, if_neg]
            intro h
            apply hm
            have : W[0] = 45 := by simpa using h
            rw [this]; rfl)
          have e : ((W[0].toNat : Int) == 45) = false := by rw [beq_eq_false_iff_ne]; omega
          have e' : ¬ (W[0].toNat : Int) = 45 := by omega
          clear hhd
          go_wp2
          go_ret
          exact ⟨ret_int HVV.out.symm, rfl⟩
end Go.Proofs.YtjejjeomknkglaaDoor
