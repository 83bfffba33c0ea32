/- SheetParts: the law's body. -/
import Derived.Test.YtdhandkddbgadaaLK
import Derived.Test.YtdhandkddbgadaaLH
import Derived.Test.YtdhandkddbgadaaLG
import Derived.Test.YtdhandkddbgadaaLC
namespace Go.Proofs.Ytdhandkddbgadaa
set_option linter.unusedVariables false
set_option linter.unusedSimpArgs false
open Go.RowKit

theorem expl_len (xs : List Iss) (ls : List Int) (d : Int) : (explL xs ls d).length ≤ 20 := by
  unfold explL
  split
  · rename_i h
    have := (layE_ok (askE_ok h).1).2.2.1
    unfold partsL
    rw [List.length_map]
    exact Nat.le_trans (List.length_filter_le _ _) this
  · simp
theorem treeE_len (xs : List Iss) (ls : List Int) (d : Int) : (treeE xs ls d).1.length ≤ 500 := by
  unfold treeE
  split
  · simp
  · split
    · simp
    · simp only; omega
theorem own_emptyN (u : World) (base k : Nat) (hk : k = u.heap.size) (hb : base ≤ k) : (u.alloc (.cells #[] 3)).ownsRow base 3 1 (.slice (some ⟨k, 0, none⟩) 0 0) 0 [] := by
  subst hk
  exact World.ownsRow_made (base := base) (e := 3) (size := 1) u #[] 0 hb (by decide) rfl
/-- How a copy of a list of numbers begins, and ends: mine lies in memory of its own. -/
theorem news_ints {w : World} {v : Value} {l : List Int} (h : IntsAt w v l) (hn : NilOk v) : ∃ A c, v = .slice A l.length c ∧ (A = none → l.length = 0 ∧ c = 0 ∧ cellsN l = []) ∧ (∀ ad, A = some ad → ∀ W, Below w.heap.size w W → ∀ j u, (cellsN l)[j]? = some u → W.cell? (ad.add j) = some u) := by
  obtain ⟨A, c, b, off, rfl, hA, hc⟩ := h
  refine ⟨A, c, rfl, fun e => ?_, fun ad e W hW j u hu => ?_⟩
  · subst e
    have h0 : l.length = 0 := by
      by_cases h : 0 < l.length
      · exact absurd (hA h) (by simp)
      · omega
    obtain rfl : l = [] := List.length_eq_zero_iff.1 h0
    exact ⟨rfl, hn _ _ rfl, rfl⟩
  · obtain ⟨hj, he⟩ := List.getElem?_eq_some_iff.1 hu
    have hj2 : j < l.length := by simpa using hj
    have h1 := hA (by omega)
    rw [e] at h1
    injection h1 with h1
    subst h1
    have h2 := cell_keep hW (hc j hj2)
    have h3 : (⟨b, off, none⟩ : Addr).add j = ⟨b, off + j, none⟩ := by unfold Addr.add; split <;> simp_all
    rw [h3, h2, ← he]
    simp [cellsN]

/-- A row grows by another one's cells, nil or not, empty or not. -/
theorem wpList_row {ops : Array Oper} {rest : List Oper} {o : Oper} {a : Act} {w : World} {Q : Exit → Act → World → Prop} (hgd : o.guard = none) (s x : Operand) (t : TypeId)
    (ho : o.op = .call { callee := .builtin .append, args := #[s, x], argTypes := #[t, t] })
    (base : Nat) (e : TypeId) (i : TypeInfo) (z : Value) (size bytes : Nat) (ht : Try.prog.underlying t = some (.slice e)) (hi : Try.prog.info? e = some i) (hz : i.zero = some z)
    (hsize : i.size = size) (hby : i.bytes = bytes) (hzs : z.cells.size = size) (hsz : 0 < size)
    (v : Value) (n : Nat) (xs : List Value) (hs : a.eval s = v) (hown : w.ownsRow base e size v n xs)
    (A : Option Addr) (m c : Nat) (news : List Value) (hx : a.eval x = .slice A m c) (hN : A = none → m = 0 ∧ c = 0 ∧ news = []) (hl : news.length = m * size) (hnews : ∀ ad, A = some ad → ∀ j u, news[j]? = some u → w.cell? (ad.add j) = some u) (h1 : ∀ u ∈ news, u.oneCell' = true)
    (h63 : n + m ≤ maxLen) (hbytes : (n + m) * bytes ≤ 140737488355328) (hbase : base ≤ w.heap.size)
    (h : ∀ v' w', w'.ownsRow base e size v' (n + m) (xs ++ news) → (∀ g t cs, t ≠ e → Lies w g t cs → Lies w' g t cs) → (∀ w0, Below base w0 w → base ≤ w0.heap.size → Below base w0 w') → wpList Try.prog ops Q rest (a.put o.dst v') w') :
    wpList Try.prog ops Q (o :: rest) a w := by
  refine wpList_plain hgd fun K hK => ?_
  cases A with
  | none =>
    obtain ⟨rfl, rfl, rfl⟩ := hN rfl
    have hrun := run_append_owned_none (P := Try.prog) (w := w) base t o.type e i size ht hi v n xs hown
    unfold Oper.wp
    simp [execOp, ho, resolve, invoke, builtin, hs, hx, hrun, Result.andThen]
    exact hK _ _ (h v w (by simpa using hown) (fun _ _ _ _ h => h) (fun _ h _ => h))
  | some ad =>
    obtain ⟨v', w', hr, h2, h3, -⟩ := run_append_own_at (P := Try.prog) w base t o.type e i z size bytes ht hi hz hsize hby hzs hsz v n xs hown ad m c news hl (hnews ad rfl) h1 h63 hbytes hbase
    unfold Oper.wp execOp
    simp only [ho, resolve, invoke, builtin, Sem.run_bind, Sem.run_pure, Result.andThen_ok, List.map_toArray, List.map_cons, List.map_nil, hs, hx, hr]
    exact hK _ _ (h v' w' h2 (fun g t cs he hl => lies_apart hl hown he h3) (fun w0 hb hB => below_grown hb hB hown h3))

set_option maxRecDepth 100000 in
set_option maxHeartbeats 8000000 in
theorem parts_great (A : Option Addr) (c b off : Nat) (xs : List Iss) (vi vd : Nat → Value) (ls : List Int) (vL : Value) (d : Int) (w : World) (hm : xs.length ≤ 9223372036854775807) (hm2 : ∀ x ∈ xs, x.items.length ≤ 9223372036854775807 ∧ x.dims.length ≤ 9223372036854775807) (hA : 0 < xs.length → A = some ⟨b, off, none⟩) (hc : IssRow w b off xs vi vd) (hL : IntsAt w vL ls) (hll : ls.length ≤ 9223372036854775807) (hg : greatB xs = true ∨ 80 < ls.length) :
    Calls Try.prog 4 #[.agg #[.slice A xs.length c], vL, .int .i64 d] w fun e w' => e = .returned (.bool true) ∧ Below w.heap.size w w' := by
  have HG := Lib.hid (fun W (hW : Below w.heap.size w W) => rGreat_any A c b off xs vi vd W hm hm2 hA (hc.after hW))
  obtain ⟨AL, cL, rfl⟩ := hL.slice
  by_cases hgb : greatB xs = true
  · rw [hgb] at HG
    clear hA hc hm2 hg hgb hL
    go_enter Try.func4, Try.ntmps4
    go_wp2_with fail
    refine (HG.out _ (by (repeat' (first | (with_reducible exact Below.refl _ _) | (with_reducible assumption) | (with_reducible refine Below.alloc ?_ ?_ _) | (with_reducible refine Below.setCell ?_ ?_ _) | (with_reducible refine below_row ?_ ?_ _) | (with_reducible refine Below.drew ?_) | (with_reducible refine below_drewN ?_ _) | (with_reducible refine Below.trans ?_ (Below.mono (by assumption) ?_)) | (first | exact Nat.le_refl _ | omega | (simp; done) | (simp; omega) | (exact Below.size (by assumption))))))).mono ?_
    rintro e w1 ⟨rfl, hb1⟩
    have s1 := hb1.size; try simp only [World.size_alloc, World.size_setCell, World.size_drew, setRow_size] at s1
    go_wp2
    go_ret
    exact ⟨rfl, by (repeat' (first | (with_reducible exact Below.refl _ _) | (with_reducible assumption) | (with_reducible refine Below.alloc ?_ ?_ _) | (with_reducible refine Below.setCell ?_ ?_ _) | (with_reducible refine below_row ?_ ?_ _) | (with_reducible refine Below.drew ?_) | (with_reducible refine below_drewN ?_ _) | (with_reducible refine Below.trans ?_ (Below.mono (by assumption) ?_)) | (first | exact Nat.le_refl _ | omega | (simp; done) | (simp; omega) | (exact Below.size (by assumption)))))⟩
  · have h8 : 80 < ls.length := hg.resolve_left hgb
    have h8' : (80 : Int) < (ls.length : Int) := by omega
    rw [Bool.not_eq_true] at hgb
    rw [hgb] at HG
    clear hA hc hm2 hg hgb hL
    go_enter Try.func4, Try.ntmps4
    go_wp2_with fail
    refine (HG.out _ (by (repeat' (first | (with_reducible exact Below.refl _ _) | (with_reducible assumption) | (with_reducible refine Below.alloc ?_ ?_ _) | (with_reducible refine Below.setCell ?_ ?_ _) | (with_reducible refine below_row ?_ ?_ _) | (with_reducible refine Below.drew ?_) | (with_reducible refine below_drewN ?_ _) | (with_reducible refine Below.trans ?_ (Below.mono (by assumption) ?_)) | (first | exact Nat.le_refl _ | omega | (simp; done) | (simp; omega) | (exact Below.size (by assumption))))))).mono ?_
    rintro e w1 ⟨rfl, hb1⟩
    have s1 := hb1.size; try simp only [World.size_alloc, World.size_setCell, World.size_drew, setRow_size] at s1
    go_wp2
    go_ret
    exact ⟨rfl, by (repeat' (first | (with_reducible exact Below.refl _ _) | (with_reducible assumption) | (with_reducible refine Below.alloc ?_ ?_ _) | (with_reducible refine Below.setCell ?_ ?_ _) | (with_reducible refine below_row ?_ ?_ _) | (with_reducible refine Below.drew ?_) | (with_reducible refine below_drewN ?_ _) | (with_reducible refine Below.trans ?_ (Below.mono (by assumption) ?_)) | (first | exact Nat.le_refl _ | omega | (simp; done) | (simp; omega) | (exact Below.size (by assumption)))))⟩

set_option maxRecDepth 100000 in
set_option maxHeartbeats 16000000 in
theorem parts_small (A : Option Addr) (c b off : Nat) (xs : List Iss) (vi vd : Nat → Value) (ls : List Int) (vL : Value) (d : Int) (w : World) (hm : xs.length ≤ 9223372036854775807) (hm2 : ∀ x ∈ xs, x.items.length ≤ 9223372036854775807 ∧ x.dims.length ≤ 9223372036854775807) (hA : 0 < xs.length → A = some ⟨b, off, none⟩) (hc : IssRow w b off xs vi vd) (hL : IntsAt w vL ls) (hn : NilOk vL) (hg : greatB xs = false) (h8 : ls.length ≤ 80) :
    Calls Try.prog 4 #[.agg #[.slice A xs.length c], vL, .int .i64 d] w fun e w' => e = .returned (.bool true) ∧ Below w.heap.size w w' := by
  have HG := Lib.hid (fun W (hW : Below w.heap.size w W) => rGreat_any A c b off xs vi vd W hm hm2 hA (hc.after hW))
  rw [hg] at HG
  obtain ⟨hlen, hsml⟩ := great_no hg
  have hr : RegAt w (.slice A xs.length c) xs := ⟨⟨A, c, b, off, rfl, hA, fun i hi => ⟨vi i, vd i, hc i hi⟩⟩, by omega, fun x hx => ⟨by have := (hsml x hx).1; omega, by have := (hsml x hx).2; omega⟩⟩
  have HRR := Lib.hid hr
  have HTW := Lib.hid (fun W (hW : Below w.heap.size w W) => rTwin_any (hr.after hW))
  have HLW := Lib.hid (fun W (hW : Below w.heap.size w W) => hL.after hW)
  have HRE := Lib.hid (fun W (hW : Below w.heap.size w W) => rExplode_any d (hr.after hW) (hL.after hW) (by omega))
  have HRT := Lib.hid (fun W (hW : Below w.heap.size w W) => rTree_any d (hr.after hW) (hL.after hW) (by omega))
  have HSE := Lib.hid (fun W vI vM (h1 : RegAt W vI xs) (h2 : IntsAt W vM ls) => sExplode_any d h1 h2 (by omega))
  have HST := Lib.hid (fun W vI vM (h1 : RegAt W vI xs) (h2 : IntsAt W vM ls) => sTree_any d h1 h2 (by omega))
  have hel := expl_len xs ls d
  have htl := treeE_len xs ls d
  obtain ⟨AL, cL, rfl, hnone, hnews⟩ := news_ints hL hn
  have HNONE := Lib.hid hnone
  have HNEWS := Lib.hid hnews
  obtain ⟨i0, hi0, hz0, hz1, hz2⟩ := info_parts infoN
  have HD0 := Lib.hid (Lies.made w 24 #[.slice A xs.length c])
  clear hA hc hm2 hg hr hsml hL hn hnone hnews
  generalize explL xs ls d = el at *
  generalize treeE xs ls d = te at *
  obtain ⟨tl, te2⟩ := te
  generalize askE xs ls d = ae at *
  simp only at htl
  have h8' : ¬ (80 : Int) < (ls.length : Int) := by omega
  go_enter Try.func4, Try.ntmps4
  go_wp2_with fail
  refine (HG.out _ (by (repeat' (first | (with_reducible exact Below.refl _ _) | (with_reducible assumption) | (with_reducible refine Below.alloc ?_ ?_ _) | (with_reducible refine Below.setCell ?_ ?_ _) | (with_reducible refine below_row ?_ ?_ _) | (with_reducible refine Below.drew ?_) | (with_reducible refine below_drewN ?_ _) | (with_reducible refine Below.trans ?_ (Below.mono (by assumption) ?_)) | (first | exact Nat.le_refl _ | omega | (simp; done) | (simp; omega) | (exact Below.size (by assumption))))))).mono ?_
  rintro e w1 ⟨rfl, hb1⟩
  have s1 := hb1.size; try simp only [World.size_alloc, World.size_setCell, World.size_drew, setRow_size] at s1
  have HD1 := Lib.hid (HD0.out.after hb1)
  have d1 := HD1.out.cell 0
  have zd1 := HD1.out.lt
  have hbw1 : Below w.heap.size w w1 := by (repeat' (first | (with_reducible exact Below.refl _ _) | (with_reducible assumption) | (with_reducible refine Below.alloc ?_ ?_ _) | (with_reducible refine Below.setCell ?_ ?_ _) | (with_reducible refine below_row ?_ ?_ _) | (with_reducible refine Below.drew ?_) | (with_reducible refine below_drewN ?_ _) | (with_reducible refine Below.trans ?_ (Below.mono (by assumption) ?_)) | (first | exact Nat.le_refl _ | omega | (simp; done) | (simp; omega) | (exact Below.size (by assumption)))))
  clear hb1 HG HD0
  go_wp2_with fail
  refine (HTW.out _ (by (repeat' (first | (with_reducible exact Below.refl _ _) | (with_reducible assumption) | (with_reducible refine Below.alloc ?_ ?_ _) | (with_reducible refine Below.setCell ?_ ?_ _) | (with_reducible refine below_row ?_ ?_ _) | (with_reducible refine Below.drew ?_) | (with_reducible refine below_drewN ?_ _) | (with_reducible refine Below.trans ?_ (Below.mono (by assumption) ?_)) | (first | exact Nat.le_refl _ | omega | (simp; done) | (simp; omega) | (exact Below.size (by assumption))))))).mono ?_
  rintro e w2 ⟨v2, rfl, hown, hb2⟩
  have s2 := hb2.size; try simp only [World.size_alloc, World.size_setCell, World.size_drew, setRow_size] at s2
  have HO := Lib.hid (fun W (hW : Below w2.heap.size w2 W) => hown.after hW)
  obtain ⟨A2, c2, rfl⟩ := hown.slice
  have HD2 := Lib.hid (HD1.out.after hb2)
  have hbw2 : Below w.heap.size w w2 := by (repeat' (first | (with_reducible exact Below.refl _ _) | (with_reducible assumption) | (with_reducible refine Below.alloc ?_ ?_ _) | (with_reducible refine Below.setCell ?_ ?_ _) | (with_reducible refine below_row ?_ ?_ _) | (with_reducible refine Below.drew ?_) | (with_reducible refine below_drewN ?_ _) | (with_reducible refine Below.trans ?_ (Below.mono (by assumption) ?_)) | (first | exact Nat.le_refl _ | omega | (simp; done) | (simp; omega) | (exact Below.size (by assumption)))))
  have hs2 := hbw2.size
  clear hb2 HTW HD1 d1 zd1 hown
  have HBW := Lib.hid hbw2
  go_wp2_with (at_builtin; refine wpList_row rfl _ _ 29 rfl w2.heap.size 3 i0 (.int .i64 0) 1 8 Try.underlying29 hi0 hz0 hz1 hz2 rfl (by decide) _ 0 [] rfl (own_emptyN w2 w2.heap.size w2.heap.size rfl (Nat.le_refl _)) AL ls.length cL (cellsN ls) rfl HNONE.out (by simp [cellsN]) (fun ad e => HNEWS.out ad e _ (by (repeat' (first | (with_reducible exact Below.refl _ _) | (with_reducible assumption) | (with_reducible refine Below.alloc ?_ ?_ _) | (with_reducible refine Below.setCell ?_ ?_ _) | (with_reducible refine below_row ?_ ?_ _) | (with_reducible refine Below.drew ?_) | (with_reducible refine below_drewN ?_ _) | (with_reducible refine Below.trans ?_ (Below.mono (by assumption) ?_)) | (first | exact Nat.le_refl _ | omega | (simp; done) | (simp; omega) | (exact Below.size (by assumption))))))) (by intro u hu; obtain ⟨x, -, rfl⟩ := List.mem_map.1 hu; rfl) (by unfold maxLen; omega) (by omega) (by simp) ?_; intro v3 w3 ho3 hap3 hbl3; have HB3 : Hid (Below w2.heap.size w2 w3) := Lib.hid (hbl3 w2 (by (repeat' (first | (with_reducible exact Below.refl _ _) | (with_reducible assumption) | (with_reducible refine Below.alloc ?_ ?_ _) | (with_reducible refine Below.setCell ?_ ?_ _) | (with_reducible refine below_row ?_ ?_ _) | (with_reducible refine Below.drew ?_) | (with_reducible refine below_drewN ?_ _) | (with_reducible refine Below.trans ?_ (Below.mono (by assumption) ?_)) | (first | exact Nat.le_refl _ | omega | (simp; done) | (simp; omega) | (exact Below.size (by assumption)))))) (Nat.le_refl _)); have HD3 := Lib.hid (hap3 _ _ _ (by decide) (HD2.out.alloc _)); rw [Nat.zero_add, List.nil_append] at ho3; have HM3 := Lib.hid (ints_of_own ho3); obtain ⟨A3, c3, g3, rfl, -⟩ := own_form ho3; clear ho3 hap3 hbl3)
  have hbw3 : Below w.heap.size w w3 := HBW.out.trans (HB3.out.mono hs2)
  have hs3 := hbw3.size
  have HO3 := Lib.hid (fun W (hW : Below w3.heap.size w3 W) => HO.out W (HB3.out.trans (hW.mono HB3.out.size)))
  have HM3W := Lib.hid (fun W (hW : Below w3.heap.size w3 W) => HM3.out.after hW)
  have HT3 := Lib.hid (Lies.made w3 24 #[.slice A2 xs.length c2])
  have HD3A := Lib.hid (HD3.out.alloc (.cells #[.slice A2 xs.length c2] 24))
  clear HBW HB3 HO HM3 HD3 HD2 hbw2 hs2 s2
  refine (HSE.out _ _ _ (HO3.out _ (by (repeat' (first | (with_reducible exact Below.refl _ _) | (with_reducible assumption) | (with_reducible refine Below.alloc ?_ ?_ _) | (with_reducible refine Below.setCell ?_ ?_ _) | (with_reducible refine below_row ?_ ?_ _) | (with_reducible refine Below.drew ?_) | (with_reducible refine below_drewN ?_ _) | (with_reducible refine Below.trans ?_ (Below.mono (by assumption) ?_)) | (first | exact Nat.le_refl _ | omega | (simp; done) | (simp; omega) | (exact Below.size (by assumption))))))) (HM3W.out _ (by (repeat' (first | (with_reducible exact Below.refl _ _) | (with_reducible assumption) | (with_reducible refine Below.alloc ?_ ?_ _) | (with_reducible refine Below.setCell ?_ ?_ _) | (with_reducible refine below_row ?_ ?_ _) | (with_reducible refine Below.drew ?_) | (with_reducible refine below_drewN ?_ _) | (with_reducible refine Below.trans ?_ (Below.mono (by assumption) ?_)) | (first | exact Nat.le_refl _ | omega | (simp; done) | (simp; omega) | (exact Below.size (by assumption)))))))).mono ?_
  rintro e w4 ⟨v4, rfl, hi4, hb4⟩
  have s4 := hb4.size; try simp only [World.size_alloc, World.size_setCell, World.size_drew, setRow_size] at s4
  have HI4 := Lib.hid (fun W (hW : Below w4.heap.size w4 W) => hi4.after hW)
  obtain ⟨A4, c4, b4, o4, rfl, -⟩ := hi4
  have HD4 := Lib.hid (HD3A.out.after hb4)
  have HT4 := Lib.hid (HT3.out.after hb4)
  have d4 := HD4.out.cell 0
  have t4 := HT4.out.cell 0
  have zd4 := HD4.out.lt
  have zt4 := HT4.out.lt
  have hq4 : Below w3.heap.size w3 w4 := by (repeat' (first | (with_reducible exact Below.refl _ _) | (with_reducible assumption) | (with_reducible refine Below.alloc ?_ ?_ _) | (with_reducible refine Below.setCell ?_ ?_ _) | (with_reducible refine below_row ?_ ?_ _) | (with_reducible refine Below.drew ?_) | (with_reducible refine below_drewN ?_ _) | (with_reducible refine Below.trans ?_ (Below.mono (by assumption) ?_)) | (first | exact Nat.le_refl _ | omega | (simp; done) | (simp; omega) | (exact Below.size (by assumption)))))
  have hbw4 : Below w.heap.size w w4 := by (repeat' (first | (with_reducible exact Below.refl _ _) | (with_reducible assumption) | (with_reducible refine Below.alloc ?_ ?_ _) | (with_reducible refine Below.setCell ?_ ?_ _) | (with_reducible refine below_row ?_ ?_ _) | (with_reducible refine Below.drew ?_) | (with_reducible refine below_drewN ?_ _) | (with_reducible refine Below.trans ?_ (Below.mono (by assumption) ?_)) | (first | exact Nat.le_refl _ | omega | (simp; done) | (simp; omega) | (exact Below.size (by assumption)))))
  clear hb4 HSE HD3A HT3
  go_wp2_with fail
  refine (HRE.out _ (by (repeat' (first | (with_reducible exact Below.refl _ _) | (with_reducible assumption) | (with_reducible refine Below.alloc ?_ ?_ _) | (with_reducible refine Below.setCell ?_ ?_ _) | (with_reducible refine below_row ?_ ?_ _) | (with_reducible refine Below.drew ?_) | (with_reducible refine below_drewN ?_ _) | (with_reducible refine Below.trans ?_ (Below.mono (by assumption) ?_)) | (first | exact Nat.le_refl _ | omega | (simp; done) | (simp; omega) | (exact Below.size (by assumption))))))).mono ?_
  rintro e w5 ⟨v5, rfl, hi5, hb5⟩
  have s5 := hb5.size; try simp only [World.size_alloc, World.size_setCell, World.size_drew, setRow_size] at s5
  have hb45 : Below w4.heap.size w4 w5 := hb5
  have HSI := Lib.hid (fun W (hW : Below w5.heap.size w5 W) => rSameItems_v ((HI4.out w5 hb45).after hW) (hi5.after hW) (by omega) (by omega))
  rw [decide_eq_true rfl] at HSI
  obtain ⟨A5, c5, b5, o5, rfl, -⟩ := hi5
  have HD5 := Lib.hid (HD4.out.after hb5)
  have HT5 := Lib.hid (HT4.out.after hb5)
  have d5 := HD5.out.cell 0
  have t5 := HT5.out.cell 0
  have zd5 := HD5.out.lt
  have zt5 := HT5.out.lt
  have hq5 : Below w3.heap.size w3 w5 := hq4.trans (hb5.mono hq4.size)
  have hbw5 : Below w.heap.size w w5 := hbw4.trans (hb5.mono hbw4.size)
  clear hb5 hb45 HRE HI4 HD4 HT4 d4 t4 zd4 zt4 hq4 hbw4
  go_wp2_with fail
  refine (HST.out _ _ _ (HO3.out _ (by (repeat' (first | (with_reducible exact Below.refl _ _) | (with_reducible assumption) | (with_reducible refine Below.alloc ?_ ?_ _) | (with_reducible refine Below.setCell ?_ ?_ _) | (with_reducible refine below_row ?_ ?_ _) | (with_reducible refine Below.drew ?_) | (with_reducible refine below_drewN ?_ _) | (with_reducible refine Below.trans ?_ (Below.mono (by assumption) ?_)) | (first | exact Nat.le_refl _ | omega | (simp; done) | (simp; omega) | (exact Below.size (by assumption))))))) (HM3W.out _ (by (repeat' (first | (with_reducible exact Below.refl _ _) | (with_reducible assumption) | (with_reducible refine Below.alloc ?_ ?_ _) | (with_reducible refine Below.setCell ?_ ?_ _) | (with_reducible refine below_row ?_ ?_ _) | (with_reducible refine Below.drew ?_) | (with_reducible refine below_drewN ?_ _) | (with_reducible refine Below.trans ?_ (Below.mono (by assumption) ?_)) | (first | exact Nat.le_refl _ | omega | (simp; done) | (simp; omega) | (exact Below.size (by assumption)))))))).mono ?_
  rintro e w6 ⟨v6, rfl, hi6, hb6⟩
  have s6 := hb6.size; try simp only [World.size_alloc, World.size_setCell, World.size_drew, setRow_size] at s6
  have HI6 := Lib.hid (fun W (hW : Below w6.heap.size w6 W) => hi6.after hW)
  obtain ⟨A6, c6, b6, o6, rfl, -⟩ := hi6
  have HD6 := Lib.hid (HD5.out.after hb6)
  have HT6 := Lib.hid (HT5.out.after hb6)
  have d6 := HD6.out.cell 0
  have t6 := HT6.out.cell 0
  have zd6 := HD6.out.lt
  have zt6 := HT6.out.lt
  have hq56 : Below w5.heap.size w5 w6 := hb6
  have hq6 : Below w3.heap.size w3 w6 := hq5.trans (hb6.mono hq5.size)
  have hbw6 : Below w.heap.size w w6 := hbw5.trans (hb6.mono hbw5.size)
  clear hb6 HST HD5 HT5 d5 t5 zd5 zt5 hq5 hbw5
  go_wp2_with fail
  refine (HRT.out _ (by (repeat' (first | (with_reducible exact Below.refl _ _) | (with_reducible assumption) | (with_reducible refine Below.alloc ?_ ?_ _) | (with_reducible refine Below.setCell ?_ ?_ _) | (with_reducible refine below_row ?_ ?_ _) | (with_reducible refine Below.drew ?_) | (with_reducible refine below_drewN ?_ _) | (with_reducible refine Below.trans ?_ (Below.mono (by assumption) ?_)) | (first | exact Nat.le_refl _ | omega | (simp; done) | (simp; omega) | (exact Below.size (by assumption))))))).mono ?_
  rintro e w7 ⟨v7, rfl, hi7, hb7⟩
  have s7 := hb7.size; try simp only [World.size_alloc, World.size_setCell, World.size_drew, setRow_size] at s7
  have hb67 : Below w6.heap.size w6 w7 := hb7
  have HSB := Lib.hid (fun W (hW : Below w7.heap.size w7 W) => rSameBranches_v ((HI6.out w7 hb67).after hW) (hi7.after hW) (Nat.le_trans htl (by decide)) (Nat.le_trans htl (by decide)))
  rw [decide_eq_true rfl] at HSB
  obtain ⟨A7, c7, b7, o7, rfl, -⟩ := hi7
  have HD7 := Lib.hid (HD6.out.after hb7)
  have HT7 := Lib.hid (HT6.out.after hb7)
  have d7 := HD7.out.cell 0
  have t7 := HT7.out.cell 0
  have zd7 := HD7.out.lt
  have zt7 := HT7.out.lt
  have hq57 : Below w5.heap.size w5 w7 := hq56.trans (hb7.mono hq56.size)
  have hq7 : Below w3.heap.size w3 w7 := hq6.trans (hb7.mono hq6.size)
  have hbw7 : Below w.heap.size w w7 := hbw6.trans (hb7.mono hbw6.size)
  have b1 : (ae == ae) = true := by simp
  have b2 : (te2 == te2) = true := by simp
  clear hb7 hb67 HRT HI6 HD6 HT6 d6 t6 zd6 zt6 hq6 hbw6 hq56
  go_wp2_with fail
  refine (HSI.out _ hq57).mono ?_
  rintro e w8 ⟨rfl, hb8⟩
  have s8 := hb8.size; try simp only [World.size_alloc, World.size_setCell, World.size_drew, setRow_size] at s8
  have HD8 := Lib.hid (HD7.out.after hb8)
  have HT8 := Lib.hid (HT7.out.after hb8)
  have hq78 : Below w7.heap.size w7 w8 := hb8
  have hq8 : Below w3.heap.size w3 w8 := hq7.trans (hb8.mono hq7.size)
  have hbw8 : Below w.heap.size w w8 := hbw7.trans (hb8.mono hbw7.size)
  clear hb8 HSI HD7 HT7 d7 t7 zd7 zt7 hq57
  go_wp2_with fail
  refine (HSB.out _ hq78).mono ?_
  rintro e w9 ⟨rfl, hb9⟩
  have s9 := hb9.size; try simp only [World.size_alloc, World.size_setCell, World.size_drew, setRow_size] at s9
  have HD9 := Lib.hid (HD8.out.after hb9)
  have HT9 := Lib.hid (HT8.out.after hb9)
  have d9 := HD9.out.cell 0
  have t9 := HT9.out.cell 0
  have zd9 := HD9.out.lt
  have zt9 := HT9.out.lt
  have hq9 : Below w3.heap.size w3 w9 := hq8.trans (hb9.mono hq8.size)
  have hbw9 : Below w.heap.size w w9 := hbw8.trans (hb9.mono hbw8.size)
  have HSS := Lib.hid (rSame_v (HO3.out w9 hq9) (HRR.out.after hbw9))
  rw [decide_eq_true rfl] at HSS
  clear hb9 HSB HD8 HT8 hq7 hbw7 hq8 hbw8 hq78
  go_wp2_with fail
  refine HSS.out.mono ?_
  rintro e w10 ⟨rfl, hb10⟩
  have s10 := hb10.size; try simp only [World.size_alloc, World.size_setCell, World.size_drew, setRow_size] at s10
  have hq10 : Below w3.heap.size w3 w10 := hq9.trans (hb10.mono hq9.size)
  have hbw10 : Below w.heap.size w w10 := hbw9.trans (hb10.mono hbw9.size)
  have HSN := Lib.hid (rSameInts_v (HM3W.out w10 hq10) (HLW.out w10 hbw10) (by omega) (by omega))
  rw [decide_eq_true rfl] at HSN
  clear hb10 HSS
  go_wp2_with fail
  refine HSN.out.mono ?_
  rintro e w11 ⟨rfl, hb11⟩
  have hbw11 : Below w.heap.size w w11 := hbw10.trans (hb11.mono hbw10.size)
  go_wp2_with fail
  go_ret
  exact ⟨rfl, hbw11⟩
end Go.Proofs.Ytdhandkddbgadaa
