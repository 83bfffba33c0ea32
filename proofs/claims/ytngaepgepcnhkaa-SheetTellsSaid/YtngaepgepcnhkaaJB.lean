/- complete; all. -/
import Derived.Test.YtngaepgepcnhkaaJ6
namespace Go.Proofs.Ytngaepgepcnhkaa
set_option linter.unusedVariables false
set_option linter.unusedSimpArgs false
open Go.RowKit

def completeB (xs : List Iss) (zs : List Int) : Bool := xs.all fun x => x.items.all fun it => decide (it.1 ∈ zs)
theorem completeB_no {xs : List Iss} {zs : List Int} {k j : Nat} (hk : k < xs.length) (hj : j < xs[k].items.length) (h : decide (xs[k].items[j].1 ∈ zs) = false) : completeB xs zs = false := by
  unfold completeB
  rw [List.all_eq_false]
  refine ⟨xs[k], List.getElem_mem hk, ?_⟩
  rw [Bool.not_eq_true, List.all_eq_false]
  exact ⟨xs[k].items[j], List.getElem_mem hj, by rw [h]; simp⟩
theorem completeB_yes {xs : List Iss} {zs : List Int} (h : ∀ k (hk : k < xs.length) j (hj : j < xs[k].items.length), decide (xs[k].items[j].1 ∈ zs) = true) : completeB xs zs = true := by
  unfold completeB
  rw [List.all_eq_true]
  intro x hx
  obtain ⟨k, hk, rfl⟩ := List.getElem_of_mem hx
  rw [List.all_eq_true]
  intro y hy
  obtain ⟨j, hj, rfl⟩ := List.getElem_of_mem hy
  exact h k hk j hj

set_option maxHeartbeats 4000000 in
theorem complete_any (A B : Option Addr) (c b off cN bN oN : Nat) (vD : Value) (xs : List Iss) (zs : List Int) (vi vd : Nat → Value) (w : World) (hl : xs.length ≤ 1000) (hli : ∀ x ∈ xs, x.items.length ≤ 1000) (hlz : zs.length ≤ 1000) (hs : zs.Pairwise (· < ·)) (hA : 0 < xs.length → A = some ⟨b, off, none⟩) (hc : IssRow w b off xs vi vd)
    (hB : 0 < zs.length → B = some ⟨bN, oN, none⟩) (hz : ∀ i (h : i < zs.length), w.cell? ⟨bN, oN + i, none⟩ = some (.int .i64 (zs[i]))) :
    Calls Try.prog 107 #[.agg #[.slice A xs.length c, .slice B zs.length cN, vD]] w fun e w' => e = .returned (.bool (completeB xs zs)) ∧ Below w.heap.size w w' := by
  have HC := Lib.hid hc
  have HA := Lib.hid hA
  have HLI := Lib.hid hli
  have HP : Hid (∀ t W, Below w.heap.size w W → Calls Try.prog 72 #[.agg #[.slice A xs.length c, .slice B zs.length cN, vD], .int .i64 t] W (PlaceAt zs t W)) :=
    Lib.hid (fun t W hW => place_any _ vD B cN bN oN zs t W hs hB hlz (fun i h => cell_keep hW (hz i h)))
  clear hc hA hs hB hz hli
  go_enter Try.func107, Try.ntmps107
  have HD0 := Lib.hid (Lies.made w 118 #[.slice A xs.length c, .slice B zs.length cN, vD])
  go_wp2_with fail
  go_loopw [13] (fun i wr => ∃ (k : Nat), k ≤ xs.length ∧ i = .int .i64 k ∧ Hid (∀ p (hp : p < xs.length), p < k → ∀ j (hj : j < xs[p].items.length), decide (xs[p].items[j].1 ∈ zs) = true) ∧ Hid (Lies wr w.heap.size 118 #[.slice A xs.length c, .slice B zs.length cN, vD]) ∧ Below w.heap.size w wr) (fun i _ => xs.length - (intOf i).toNat)
  case atStart => exact ⟨0, by omega, rfl, Lib.hid (fun p hp h => by omega), HD0, by (repeat' (first | (with_reducible exact Below.refl _ _) | (with_reducible assumption) | (with_reducible refine Below.alloc ?_ ?_ _) | (with_reducible refine Below.setCell ?_ ?_ _) | (with_reducible refine below_row ?_ ?_ _) | (with_reducible refine Below.drew ?_) | (with_reducible refine below_drewN ?_ _) | (with_reducible refine Below.trans ?_ (Below.mono (by assumption) ?_)) | (first | exact Nat.le_refl _ | omega | (simp; done) | (simp; omega) | (exact Below.size (by assumption)))))⟩
  case round =>
    obtain ⟨k, hk, rfl, HK, HD, hb⟩ := hrel
    have hzz := hb.size
    by_cases hlt : k < xs.length
    · obtain rfl := HA.out (by omega)
      obtain ⟨q0, q1, q2, q3, q4, -, hit, -⟩ := (HC.out.after hb) k hlt
      have hit0 := (HC.out k hlt).2.2.2.2.2.2.1
      obtain ⟨e3, e4⟩ := HC.out.slices hlt
      generalize vd k = ve at *
      obtain ⟨A2, n2, c2, rfl⟩ := e4
      obtain ⟨Ai, ci, bi, oi, hvi, hAi, hci⟩ := hit0
      have hli := HLI.out xs[k] (List.getElem_mem hlt)
      rw [hvi] at q3
      have HCI := Lib.hid hci
      have HAI := Lib.hid hAi
      clear hci hAi hit hvi e3
      obtain ⟨il, hil⟩ : ∃ il, xs[k].items = il := ⟨_, rfl⟩
      have HIL := Lib.hid hil
      rw [hil] at q3 HCI HAI hli
      clear hil
      generalize xs[k].d = d at *
      generalize xs[k].l = l at *
      generalize xs[k].k = kk at *
      obtain ⟨wo, rfl⟩ : ∃ wo : World, wo = wr := ⟨_, rfl⟩
      go_wp2_with fail
      have HD1 := Lib.hid (HD.out.alloc (.cells #[.int .i64 d, .int .i64 l, .int .u8 kk, .slice Ai il.length ci, .slice A2 n2 c2] 45))
      go_loopw [20] (fun i wr => ∃ (j : Nat), j ≤ il.length ∧ i = .int .i64 j ∧ Hid (∀ p (hp : p < il.length), p < j → decide (il[p].1 ∈ zs) = true) ∧ Hid (Lies wr w.heap.size 118 #[.slice (some ⟨b, off, none⟩) xs.length c, .slice B zs.length cN, vD]) ∧ Below w.heap.size w wr) (fun i _ => il.length - (intOf i).toNat)
      case atStart => exact ⟨0, by omega, rfl, Lib.hid (fun p hp h => by omega), HD1, by (repeat' (first | (with_reducible exact Below.refl _ _) | (with_reducible assumption) | (with_reducible refine Below.alloc ?_ ?_ _) | (with_reducible refine Below.setCell ?_ ?_ _) | (with_reducible refine below_row ?_ ?_ _) | (with_reducible refine Below.drew ?_) | (with_reducible refine below_drewN ?_ _) | (with_reducible refine Below.trans ?_ (Below.mono (by assumption) ?_)) | (first | exact Nat.le_refl _ | omega | (simp; done) | (simp; omega) | (exact Below.size (by assumption)))))⟩
      case round =>
        obtain ⟨j, hj, rfl, HJ, HD2, hb2⟩ := hrel
        have hz2 := hb2.size
        by_cases hlt2 : j < il.length
        · obtain rfl := HAI.out (by omega)
          obtain ⟨y0, y1⟩ := HCI.out j hlt2
          have t0 := cell_keep hb2 y0
          have t1 := cell_keep hb2 y1
          clear y0 y1
          have HXJ : Hid (∃ e, il[j] = e) := Lib.hid ⟨_, rfl⟩
          obtain ⟨e, he⟩ := HXJ.out
          have HE := Lib.hid he
          rw [he] at t0 t1
          clear he HXJ
          obtain ⟨e1, e2⟩ := e
          simp only at t0 t1
          have HPE := Lib.hid (fun W hW => HP.out e1 W hW)
          have h0 := HD2.out.cell 0
          have h1 := HD2.out.cell 1
          have h2 := HD2.out.cell 2
          have hd := HD2.out.lt
          obtain ⟨r, hr⟩ : ∃ r, decide (e1 ∈ zs) = r := ⟨_, rfl⟩
          have HR := Lib.hid hr
          unfold PlaceAt at HPE
          rw [hr] at HPE
          clear hr
          go_wp2_with fail
          refine (HPE.out _ (by (repeat' (first | (with_reducible exact Below.refl _ _) | (with_reducible assumption) | (with_reducible refine Below.alloc ?_ ?_ _) | (with_reducible refine Below.setCell ?_ ?_ _) | (with_reducible refine below_row ?_ ?_ _) | (with_reducible refine Below.drew ?_) | (with_reducible refine below_drewN ?_ _) | (with_reducible refine Below.trans ?_ (Below.mono (by assumption) ?_)) | (first | exact Nat.le_refl _ | omega | (simp; done) | (simp; omega) | (exact Below.size (by assumption))))))).mono ?_
          rintro e w1 ⟨p, -, -, -, rfl, hb3⟩
          have HD3 := Lib.hid ((HD2.out.alloc (.cells #[.int .i64 e1, .int .i64 e2] 52)).after hb3)
          have hb4 : Below w.heap.size w w1 := by (repeat' (first | (with_reducible exact Below.refl _ _) | (with_reducible assumption) | (with_reducible refine Below.alloc ?_ ?_ _) | (with_reducible refine Below.setCell ?_ ?_ _) | (with_reducible refine below_row ?_ ?_ _) | (with_reducible refine Below.drew ?_) | (with_reducible refine below_drewN ?_ _) | (with_reducible refine Below.trans ?_ (Below.mono (by assumption) ?_)) | (first | exact Nat.le_refl _ | omega | (simp; done) | (simp; omega) | (exact Below.size (by assumption)))))
          clear hb3 h0 h1 h2
          cases r
          · go_wp2_with fail
            go_ret
            refine ⟨ret_bool (completeB_no hlt (j := j) (by rw [HIL.out]; exact hlt2) ?_).symm, hb4⟩
            have := HR.out
            simp only [HIL.out, HE.out]
            exact this
          · go_wp2_with fail
            go_roundw
            case rel =>
              refine ⟨j + 1, by omega, by go_num, Lib.hid (fun p hp h => ?_), HD3, hb4⟩
              by_cases e : p = j
              · subst e; rw [HE.out]; exact HR.out
              · exact HJ.out p hp (by omega)
            case measure => simp [intOf]; omega
        · go_wp2_with fail
          go_roundw
          case rel =>
            refine ⟨k + 1, by omega, by go_num, Lib.hid (fun p hp h => ?_), HD2, hb2⟩
            by_cases e : p = k
            · subst e
              intro j' hj'
              have hjl : j' < il.length := by rw [← HIL.out]; exact hj'
              have := HJ.out j' hjl (by omega)
              simp only [HIL.out]
              exact this
            · exact HK.out p hp (by omega)
          case measure => simp [intOf]; omega
    · have HR := Lib.hid (completeB_yes (xs := xs) (zs := zs) (fun p hp => HK.out p hp (by omega)))
      go_wp2
      go_ret
      exact ⟨ret_bool HR.out.symm, hb⟩
set_option maxHeartbeats 2000000 in
theorem all_any (vI vD : Value) (A : Option Addr) (c b off : Nat) (l : List Int) (w : World) (hA : 0 < l.length → A = some ⟨b, off, none⟩) (hl : l.length ≤ 1000) (hw : ∀ x ∈ l, NIn x) (hc : ∀ i (h : i < l.length), w.cell? ⟨b, off + i, none⟩ = some (.int .i64 (l[i]))) :
    Calls Try.prog 85 #[.agg #[vI, .slice A l.length c, vD]] w fun e w' => e = .returned (.map (some (w.heap.size + 1))) ∧ BMap w' (w.heap.size + 1) l.length (fun d => decide (d ∈ l)) ∧ Below w.heap.size w w' := by
  have HC := Lib.hid hc
  have HA := Lib.hid hA
  have HW := Lib.hid hw
  clear hc hA hw
  have hmm := @run_makeMap Try.prog
  have HM0 : Hid (BMap ((w.alloc (.cells #[vI, .slice A l.length c, vD] 118)).alloc (.map #[] 0)) (w.heap.size + 1) 0 (fun _ => false)) := Lib.hid (by have := BMap.made (w.alloc (.cells #[vI, .slice A l.length c, vD] 118)); simpa using this)
  go_enter Try.func85, Try.ntmps85
  go_wp2_with fail
  go_loopw [10] (fun i wr => ∃ (k : Nat), k ≤ l.length ∧ i = .int .i64 k ∧ Hid (BMap wr (w.heap.size + 1) k (fun d => decide (d ∈ l.take k))) ∧ Below w.heap.size w wr) (fun i _ => l.length - (intOf i).toNat)
  case atStart => exact ⟨0, by omega, rfl, Lib.hid (HM0.out.ext (fun x _ => by simp)), by (repeat' (first | (with_reducible exact Below.refl _ _) | (with_reducible assumption) | (with_reducible refine Below.alloc ?_ ?_ _) | (with_reducible refine Below.setCell ?_ ?_ _) | (with_reducible refine below_row ?_ ?_ _) | (with_reducible refine Below.drew ?_) | (with_reducible refine below_drewN ?_ _) | (with_reducible refine Below.trans ?_ (Below.mono (by assumption) ?_)) | (first | exact Nat.le_refl _ | omega | (simp; done) | (simp; omega) | (exact Below.size (by assumption)))))⟩
  case round =>
    obtain ⟨k, hk, rfl, HM, hb⟩ := hrel
    have hz := hb.size
    by_cases hlt : k < l.length
    · obtain rfl := HA.out (by omega)
      have r0 := cell_keep hb (HC.out k hlt)
      have hN := HW.out l[k] (List.getElem_mem hlt)
      obtain ⟨w2, hrun, hm2, ht⟩ := HM.out.put (by omega) hN true
      have HT := Lib.hid (show ∀ x, NIn x → (if x = l[k] then true else decide (x ∈ l.take k)) = decide (x ∈ l.take (k + 1)) from fun x _ => by
        have hm : x ∈ l.take (k + 1) ↔ x ∈ l.take k ∨ x = l[k] := by
          rw [List.take_succ_eq_append_getElem hlt]; simp only [List.mem_append, List.mem_singleton]
        by_cases e : x = l[k]
        · rw [if_pos e]; exact (decide_eq_true (hm.2 (.inr e))).symm
        · rw [if_neg e, decide_eq_decide, hm]; exact ⟨.inl, fun h => h.resolve_right e⟩)
      have HM2 := Lib.hid hm2
      have HB2 := Lib.hid (turned_below ht (Nat.le_succ _) w hb hb.size)
      clear hm2 ht
      generalize l[k] = x at *
      go_wp2
      go_roundw
      case rel => exact ⟨k + 1, by omega, by go_num, Lib.hid (HM2.out.ext HT.out), HB2.out⟩
      case measure => simp [intOf]; omega
    · have hke : k = l.length := by omega
      have HR := Lib.hid HM.out
      rw [hke, List.take_length] at HR
      clear HM
      subst hke
      go_wp2
      go_ret
      exact ⟨rfl, HR.out, hb⟩
end Go.Proofs.Ytngaepgepcnhkaa
