/- The reference: a text's words. -/
import Derived.Test.YtjejjeomknkglaaDoorQ2
import Derived.StillTailTactics
namespace Go.Proofs.YtjejjeomknkglaaDoor
set_option linter.unusedVariables false
set_option linter.unusedSimpArgs false
open Go.RowKit Go.Sort

theorem Tryd.infoStr : (Tryd.prog.info? 9).map (fun i => (i.zero, i.size, i.bytes)) = some (some (.string ⟨#[]⟩), 1, 16) := by kernel_rfl
def strs (l : List (List UInt8)) : List Value := l.map fun x => .string (bs x)
theorem strs_len (l : List (List UInt8)) : (strs l).length = l.length := by simp [strs]
theorem strs_snoc (l : List (List UInt8)) (x : List UInt8) : strs (l ++ [x]) = strs l ++ [.string (bs x)] := by simp [strs]
theorem strs_set (D : List (List UInt8)) (x y : List UInt8) : (strs (D ++ [x])).set D.length (.string (bs y)) = strs (D ++ [y]) := by
  rw [strs_snoc, strs_snoc, List.set_append_right _ _ (by rw [strs_len]; exact Nat.le_refl _), strs_len, Nat.sub_self, List.set_cons_zero]
theorem one_cut (W : ByteArray) (k : Nat) (h : k < W.size) : W.extract k (k + 1) = bs [W[k]] := by
  have hl : k < W.data.toList.length := by rw [← Lib.size_eq W]; exact h
  apply ByteArray.ext
  apply Array.ext'
  rw [ByteArray.data_extract, Array.toList_extract]
  show List.extract W.data.toList k (k + 1) = [W[k]]
  rw [List.extract_eq_take_drop, Nat.add_sub_cancel_left, List.drop_eq_getElem_cons hl]
  rfl
set_option maxRecDepth 100000 in
set_option maxHeartbeats 2000000 in
theorem rwords_any (W : ByteArray) (w : World) (hl : W.size ≤ 80) :
    Calls Tryd.prog 25 #[.string W] w fun e w' => ∃ g cap, e = .returned (.slice (some ⟨g, 0, none⟩) (wordsL [] W.data.toList).length cap) ∧
      w'.ownsRow w.heap.size 9 1 (.slice (some ⟨g, 0, none⟩) (wordsL [] W.data.toList).length cap) (wordsL [] W.data.toList).length (strs (wordsL [] W.data.toList)) ∧ Below w.heap.size w w' := by
  have HSZ : Hid (W.size = W.data.toList.length) := Lib.hid (Lib.size_eq W)
  obtain ⟨i0, hi, hz0, hz1, hz2⟩ := info_parts Tryd.infoStr
  go_enter Tryd.func25, Tryd.ntmps25
  go_wp2_with fail
  go_loopw [3, 4] (fun v i wr => ∃ (k g cap n : Nat) (D : List (List UInt8)) (cur : List UInt8), k ≤ W.size ∧ i = .int .i64 k ∧ v = .slice (some ⟨g, 0, none⟩) n cap ∧ Hid (n = D.length + 1) ∧
      wr.ownsRow w.heap.size 9 1 (.slice (some ⟨g, 0, none⟩) n cap) n (strs (D ++ [cur])) ∧ w.heap.size ≤ g ∧ g < wr.heap.size ∧ D.length ≤ k ∧ cur.length ≤ k ∧ Hid (D ++ wordsL cur (W.data.toList.drop k) = wordsL [] W.data.toList) ∧ Below w.heap.size w wr) (fun _ i _ => W.size - (intOf i).toNat)
  case atStart =>
    exact ⟨0, w.heap.size, 1, 1, [], [], by omega, rfl, rfl, Lib.hid rfl, World.ownsRow_lit w #[.string ⟨#[]⟩] 1 (Nat.le_refl _) (by decide) rfl, Nat.le_refl _, by simp, by simp, by simp, Lib.hid rfl, by (repeat' (first | (with_reducible exact Below.refl _ _) | (with_reducible assumption) | (with_reducible refine Below.alloc ?_ ?_ _) | (with_reducible refine Below.setCell ?_ ?_ _) | (with_reducible refine below_row ?_ ?_ _) | (with_reducible refine Below.drew ?_) | (with_reducible refine below_drewN ?_ _) | (with_reducible refine Below.trans ?_ (Below.mono (by assumption) ?_)) | (first | exact Nat.le_refl _ | omega | (simp; done) | (simp; omega))))⟩
  case round =>
    obtain ⟨k, g, cap, n, D, cur, hk, rfl, rfl, HN, hown, hg, hgl, hDk, hck, HG, hb⟩ := hrel
    have hz := hb.size
    by_cases hlt : k < W.size
    · have hkl : k < W.data.toList.length := by rw [← HSZ.out]; exact hlt
      have hdrop : W.data.toList.drop k = W[k] :: W.data.toList.drop (k + 1) := List.drop_eq_getElem_cons hkl
      have hG := HG.out
      rw [hdrop, wordsL] at hG
      have y256 : W[k].toNat < 256 := W[k].toNat_lt
      by_cases hc : W[k].toNat = 32
      · have hc' : W[k] = 32 := UInt8.toNat_inj.1 hc
        rw [if_pos hc'] at hG
        have HGG := Lib.hid hG
        have e : (W[k].toNat : Int) = 32 := by omega
        clear hG hdrop hc' HG
        have HO := Lib.hid hown
        clear hown
        have el : (D ++ [cur]).length = D.length + 1 := by simp
        go_wp2_with (at_builtin; refine wpList_append_lies _ rfl _ _ 61 rfl w.heap.size 9 i0 (.string ⟨#[]⟩) 1 16 Tryd.underlying61 hi hz0 hz1 hz2 rfl (by decide) _ n _ rfl (HO.out.alloc _) ⟨wr.heap.size, 0, none⟩ 1 1 [.string ⟨#[]⟩] rfl rfl (World.news_of_block (cs := #[.string ⟨#[]⟩]) (t := 9) (fr := (0, 0)) (Lies.new rfl)) (by simp [Value.oneCell']) (by decide) (by have := HN.out; unfold maxLen; omega) (by have := HN.out; omega) (by simp; omega) _ rfl ?_; intro g' cap' w2 hown2 hgrow2 hat2 hlt2)
        go_roundw
        case rel =>
          refine ⟨k + 1, g', cap', n + 1, D ++ [cur], [], by omega, by go_num, rfl, Lib.hid (by rw [el, HN.out]), by rw [strs_snoc]; exact hown2, (hown2.lt g' rfl).1, hlt2, by rw [el]; omega, Nat.zero_le _, Lib.hid (by rw [← HGG.out, List.append_assoc]; rfl), ?_⟩
          exact Below.grown (hb.alloc (by omega) _) hgrow2 (by simp; omega) (fun r e => (HO.out.lt r e).1)
        case measure => simp [intOf]; omega
      · have hc' : ¬ W[k] = 32 := fun h => hc (by rw [h]; rfl)
        rw [if_neg hc'] at hG
        have HGG := Lib.hid hG
        have e : ¬ (W[k].toNat : Int) = 32 := by omega
        have e' : ((W[k].toNat : Int) == 32) = false := by rw [beq_eq_false_iff_ne]; omega
        clear hG hdrop hc' HG
        have c0 := hown.cellAt D.length (by have := HN.out; omega)
        have f0 := hown.frozenAt D.length
        rw [strs_snoc, List.getElem?_append_right (by rw [strs_len]; exact Nat.le_refl _), strs_len, Nat.sub_self, List.getElem?_cons_zero] at c0
        have HS := Lib.hid ((hown.drew.stored D.length (.string (bs (cur ++ [W[k]])))).1)
        rw [strs_set] at HS
        have HDK := Lib.hid hDk
        have HO := Lib.hid hown
        clear hown
        have hcut := one_cut W k hlt
        have kw : IntKind.i64.wrap ((k : Int) + 1) = (k : Int) + 1 := IntWalk.i64_in _ (by omega)
        have hadd := add_ok (bs cur) (bs [W[k]]) (by rw [bs_size, bs_size]; simp; omega)
        rw [bs_append] at hadd
        have kk : (k : Int) + 1 ≤ (W.size : Int) := by omega
        have kt : ((k : Int) + 1).toNat = k + 1 := by omega
        have n80 : n ≤ 81 := by have := HN.out; omega
        obtain ⟨m, hm⟩ : ∃ m, D.length = m := ⟨_, rfl⟩
        rw [hm] at c0 f0 HS
        have HM := Lib.hid hm
        have nm : n = m + 1 := by rw [← hm]; exact HN.out
        have mlt : m < n := by omega
        have mz : (n : Int) - 1 = (m : Int) := by omega
        have kd : IntKind.i64.wrap (m : Int) = m := IntWalk.i64_in _ (by omega)
        clear hc hm hDk nm
        have hcl : ∀ W', (Instr.slice 9 (.string W) (some (.int .i64 (k : Int))) (some (.int .i64 ((k : Int) + 1))) none).run Tryd.prog W' = .ok (.string (bs [W[k]])) W' := fun W' => by
          rw [run_slice_string W' 9 W .i64 .i64 _ _ Tryd.underlying9 (by omega) (by omega) (by omega), kt, Int.toNat_natCast, hcut]
        have bcur : (bs cur).size ≤ 80 := by rw [bs_size]; omega
        go_wp2_with fail
        go_still_tail 13, (by kernel_rfl)
        go_wp2
        go_roundw
        case rel =>
          refine ⟨k + 1, g, cap, n, D, cur ++ [W[k]], by omega, by go_num, rfl, HN, HS.out, hg, Nat.lt_of_lt_of_eq hgl (World.size_setCell wr.drew _ _).symm, by have := HDK.out; omega, by simp; omega, HGG, ?_⟩
          exact Below.setCell (Below.drew hb) hg _
        case measure => simp [intOf]; omega
    · have hke : k = W.size := by omega
      have hG := HG.out
      rw [hke, show W.data.toList.drop W.size = [] by rw [HSZ.out, List.drop_length], wordsL] at hG
      have HF := Lib.hid hG
      have HO := Lib.hid hown
      clear hG HG hown
      subst hke
      go_wp2
      go_ret
      have hn : n = (wordsL [] W.data.toList).length := by rw [← HF.out, HN.out]; simp
      refine ⟨g, cap, by rw [← hn]; rfl, ?_, hb⟩
      rw [← hn, ← HF.out]
      exact HO.out
end Go.Proofs.YtjejjeomknkglaaDoor
