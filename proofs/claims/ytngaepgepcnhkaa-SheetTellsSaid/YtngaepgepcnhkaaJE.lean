/- chains. -/
import Derived.Test.YtngaepgepcnhkaaJ7
import Derived.Test.YtngaepgepcnhkaaJB
import Derived.Test.YtngaepgepcnhkaaJA
import Derived.Laws.OwnMore
namespace Go.Proofs.Ytngaepgepcnhkaa
set_option linter.unusedVariables false
set_option linter.unusedSimpArgs false
open Go.RowKit

/-- A row of numbers. -/
def rowN (l : List Int) : Array Value := (l.map fun x => .int .i64 x).toArray
theorem rowN_at {l : List Int} {i : Nat} (h : i < l.length) : (rowN l)[i]? = some (.int .i64 (l[i])) := by simp [rowN, h]
theorem rowN_set (l : List Int) (i : Nat) (x : Int) : (rowN l).setIfInBounds i (.int .i64 x) = rowN (l.set i x) := by
  simp [rowN, List.map_set]
theorem makeN (n : Nat) (hn : n ≤ 1000) (W : World) : (Instr.makeSlice 29 (.int .i64 n) (.int .i64 n)).run Try.prog W = .ok (.slice (some ⟨W.heap.size, 0, none⟩) n n) (W.alloc (.cells (rowN (List.replicate n 0)) 3)) := by
  obtain ⟨i0, hi, hz0, hz1, hz2⟩ := info_parts infoN
  have h := run_make (P := Try.prog) W 29 3 i0 (.int .i64 0) Try.underlying29 hi hz0 .i64 .i64 (n : Int) (n : Int) (by omega) (Int.le_refl _) (by rw [hz2]; omega) (by omega)
  rw [h, hz1]
  have e : madeCells (Value.int .i64 0).cells ((n : Int).toNat * 1) = rowN (List.replicate n 0) := by
    apply Array.toList_inj.1
    rw [show (Value.int .i64 0).cells = #[Value.int .i64 0] from rfl, toList_madeCells_one]
    simp [rowN]
  rw [e]
  simp
theorem Lies.ints {w : World} {g : Nat} {l : List Int} (h : Lies w g 3 (rowN l)) : ∀ i (h : i < l.length), w.cell? ⟨g, 0 + i, none⟩ = some (.int .i64 (l[i])) := fun i hi => by
  rw [Nat.zero_add, h.cell, rowN_at hi]

/-- Which drawings wait after k rounds; how long their chains are known to be. -/
def waitW (xs : List Iss) (zs : List Int) : Nat → Int → Bool
  | 0, d => decide (d ∈ zs)
  | k + 1, d => waitW xs zs k d && needB xs d (waitW xs zs k)
def goesW (xs : List Iss) (zs : List Int) (k : Nat) (d : Int) : Bool := waitW xs zs k d && !needB xs d (waitW xs zs k)
def depW (xs : List Iss) (zs : List Int) : Nat → Int → Int
  | 0, _ => 0
  | k + 1, d => if goesW xs zs k d then (k : Int) + 1 else depW xs zs k d
def chainsL (xs : List Iss) (zs : List Int) : List Int := zs.map (depW xs zs zs.length)
def mixL (xs : List Iss) (zs : List Int) (k j : Nat) : List Int := (zs.take j).map (depW xs zs (k + 1)) ++ (zs.drop j).map (depW xs zs k)
theorem mixL_len (xs : List Iss) (zs : List Int) (k j : Nat) : (mixL xs zs k j).length = zs.length := by
  unfold mixL; rw [List.length_append, List.length_map, List.length_map, ← List.length_append, List.take_append_drop]
theorem mixL_zero (xs : List Iss) (zs : List Int) (k : Nat) : mixL xs zs k 0 = zs.map (depW xs zs k) := by simp [mixL]
theorem mixL_end (xs : List Iss) (zs : List Int) (k : Nat) : mixL xs zs k zs.length = zs.map (depW xs zs (k + 1)) := by simp [mixL]
theorem mixL_goes {xs : List Iss} {zs : List Int} {k j : Nat} (h : j < zs.length) (hg : goesW xs zs k zs[j] = true) : (mixL xs zs k j).set j ((k : Int) + 1) = mixL xs zs k (j + 1) := by
  unfold mixL
  have hl : ((zs.take j).map (depW xs zs (k + 1))).length = j := by simp; omega
  rw [List.set_append_right _ _ (by omega), hl, Nat.sub_self, List.drop_eq_getElem_cons h, List.map_cons, List.set_cons_zero, List.take_succ_eq_append_getElem h, List.map_append, List.append_assoc]
  simp [depW, hg]
theorem mixL_stays {xs : List Iss} {zs : List Int} {k j : Nat} (h : j < zs.length) (hg : goesW xs zs k zs[j] = false) : mixL xs zs k j = mixL xs zs k (j + 1) := by
  unfold mixL
  rw [List.drop_eq_getElem_cons h, List.map_cons, List.take_succ_eq_append_getElem h, List.map_append, List.append_assoc]
  simp [depW, hg]
def goneL (xs : List Iss) (zs : List Int) (k j : Nat) : List Int := (zs.take j).filter (goesW xs zs k)
theorem goneL_step {xs : List Iss} {zs : List Int} {k j : Nat} (h : j < zs.length) : goneL xs zs k (j + 1) = goneL xs zs k j ++ if goesW xs zs k zs[j] then [zs[j]] else [] := by
  unfold goneL
  rw [List.take_succ_eq_append_getElem h, List.filter_append]
  congr 1
  by_cases e : goesW xs zs k zs[j] = true
  · simp [e]
  · simp [e]
theorem goneL_le (xs : List Iss) (zs : List Int) (k j : Nat) : (goneL xs zs k j).length ≤ j := by
  unfold goneL; exact Nat.le_trans (List.length_filter_le _ _) (List.length_take_le _ _)
theorem wait_next {xs : List Iss} {zs : List Int} {k : Nat} (x : Int) : (waitW xs zs k x && !decide (x ∈ goneL xs zs k zs.length)) = waitW xs zs (k + 1) x := by
  have hz : ∀ k, waitW xs zs k x = true → x ∈ zs := by
    intro k
    induction k with
    | zero => intro h; simpa [waitW] using h
    | succ k ih => intro h; rw [waitW, Bool.and_eq_true] at h; exact ih h.1
  unfold goneL
  rw [List.take_length, waitW]
  cases hw : waitW xs zs k x
  · rfl
  · have hm := hz k hw
    simp only [Bool.true_and, List.mem_filter, goesW, hw]
    cases needB xs x (waitW xs zs k) <;> simp [hm]
/-- The drawings that wait while those that are reached go. -/
def lessW (xs : List Iss) (zs : List Int) (k j : Nat) (x : Int) : Bool := waitW xs zs k x && !decide (x ∈ (goneL xs zs k zs.length).take j)
theorem lessW_zero (xs : List Iss) (zs : List Int) (k : Nat) (x : Int) : lessW xs zs k 0 x = waitW xs zs k x := by simp [lessW]
theorem lessW_step {xs : List Iss} {zs : List Int} {k j : Nat} (h : j < (goneL xs zs k zs.length).length) (x : Int) : (if x = (goneL xs zs k zs.length)[j] then false else lessW xs zs k j x) = lessW xs zs k (j + 1) x := by
  unfold lessW
  have hm : x ∈ (goneL xs zs k zs.length).take (j + 1) ↔ x ∈ (goneL xs zs k zs.length).take j ∨ x = (goneL xs zs k zs.length)[j] := by
    rw [List.take_succ_eq_append_getElem h]; simp only [List.mem_append, List.mem_singleton]
  by_cases e : x = (goneL xs zs k zs.length)[j]
  · rw [if_pos e, decide_eq_true (hm.2 (.inr e))]; simp
  · rw [if_neg e]
    congr 2
    rw [decide_eq_decide, hm]
    exact ⟨.inl, fun h => h.resolve_right e⟩

set_option maxRecDepth 100000 in
set_option maxHeartbeats 8000000 in
theorem chains_any (A B : Option Addr) (c b off cN bN oN : Nat) (vD : Value) (xs : List Iss) (zs : List Int) (vi vd : Nat → Value) (w : World) (hl : xs.length ≤ 1000) (hlz : zs.length ≤ 1000) (hs : xs.Pairwise (fun x y => x.d ≤ y.d)) (hA : 0 < xs.length → A = some ⟨b, off, none⟩) (hc : IssRow w b off xs vi vd)
    (hit : ∀ x ∈ xs, x.items.length ≤ 1000 ∧ ∀ it ∈ x.items, NIn it.1) (hzn : ∀ x ∈ zs, NIn x) (hB : 0 < zs.length → B = some ⟨bN, oN, none⟩) (hz : ∀ i (h : i < zs.length), w.cell? ⟨bN, oN + i, none⟩ = some (.int .i64 (zs[i]))) :
    Calls Try.prog 108 #[.agg #[.slice A xs.length c, .slice B zs.length cN, vD]] w fun e w' => e = .returned (.slice (some ⟨w.heap.size + 1, 0, none⟩) zs.length zs.length) ∧ Lies w' (w.heap.size + 1) 3 (rowN (chainsL xs zs)) ∧ Below w.heap.size w w' := by
  have HN : Hid (∀ d m n S W, Below w.heap.size w W → BMap W m n S → Calls Try.prog 127 #[.agg #[.slice A xs.length c, .slice B zs.length cN, vD], .int .i64 d, .map (some m)] W fun e w' => e = .returned (.bool (needB xs d S)) ∧ Below W.heap.size W w') :=
    Lib.hid (fun d m n S W hW hm => needs_any A c b off _ vD xs vi vd d m n S W hl hs hA (hc.after hW) hit hm)
  have HAL := Lib.hid (fun W (hW : Below w.heap.size w W) => all_any (.slice A xs.length c) vD B cN bN oN zs W hB hlz hzn (fun i h => cell_keep hW (hz i h)))
  have HB := Lib.hid hB
  have HZ := Lib.hid hz
  have HZN := Lib.hid hzn
  clear hs hA hc hit hB hz hzn
  have hmk := makeN zs.length hlz
  obtain ⟨i0, hi, iz0, iz1, iz2⟩ := info_parts infoN
  go_enter Try.func108, Try.ntmps108
  go_wp2_with fail
  refine (HAL.out _ (by (repeat' (first | (with_reducible exact Below.refl _ _) | (with_reducible assumption) | (with_reducible refine Below.alloc ?_ ?_ _) | (with_reducible refine Below.setCell ?_ ?_ _) | (with_reducible refine below_row ?_ ?_ _) | (with_reducible refine Below.drew ?_) | (with_reducible refine below_drewN ?_ _) | (with_reducible refine Below.trans ?_ (Below.mono (by assumption) ?_)) | (first | exact Nat.le_refl _ | omega | (simp; done) | (simp; omega) | (exact Below.size (by assumption))))))).mono ?_
  rintro e w1 ⟨rfl, hm1, hb1⟩
  have s1 := hb1.size; try simp only [World.size_alloc, World.size_setCell, World.size_drew, setRow_size] at s1
  have HD := Lib.hid (((Lies.made w 118 #[.slice A xs.length c, .slice B zs.length cN, vD]).alloc (.cells (rowN (List.replicate zs.length 0)) 3)).after hb1)
  have HG := Lib.hid ((Lies.new (u := w.alloc (.cells #[.slice A xs.length c, .slice B zs.length cN, vD] 118)) (k := w.heap.size + 1) (t := 3) (cs := rowN (List.replicate zs.length 0)) (by simp)).after hb1)
  simp only [World.size_alloc] at hm1
  have HM := Lib.hid hm1
  have hbw : Below w.heap.size w w1 := by (repeat' (first | (with_reducible exact Below.refl _ _) | (with_reducible assumption) | (with_reducible refine Below.alloc ?_ ?_ _) | (with_reducible refine Below.setCell ?_ ?_ _) | (with_reducible refine below_row ?_ ?_ _) | (with_reducible refine Below.drew ?_) | (with_reducible refine below_drewN ?_ _) | (with_reducible refine Below.trans ?_ (Below.mono (by assumption) ?_)) | (first | exact Nat.le_refl _ | omega | (simp; done) | (simp; omega) | (exact Below.size (by assumption)))))
  have d1 := HD.out.cell 1
  have zd := HD.out.lt
  clear hm1 hb1
  go_wp2_with fail
  clear d1
  go_loopw [20] (fun i wr => ∃ (k : Nat), k ≤ zs.length ∧ i = .int .i64 k ∧ Hid (Lies wr (w.heap.size + 1) 3 (rowN (zs.map (depW xs zs k)))) ∧ Hid (BMap wr (w.heap.size + 1 + 1 + 1) zs.length (waitW xs zs k)) ∧ Hid (Lies wr w.heap.size 118 #[.slice A xs.length c, .slice B zs.length cN, vD]) ∧ Below w.heap.size w wr) (fun i _ => zs.length - (intOf i).toNat)
  case atStart => exact ⟨0, by omega, rfl, Lib.hid (by have := HG.out; rwa [show List.replicate zs.length (0 : Int) = zs.map (depW xs zs 0) from by rw [List.map_eq_replicate_iff.2]; intro x _; rfl] at this), Lib.hid (HM.out), HD, hbw⟩
  case round =>
    obtain ⟨k, hk, rfl, HGk, HMk, HDk, hb⟩ := hrel
    have hzz := hb.size
    by_cases hlt : k < zs.length
    · obtain rfl := HB.out (by omega)
      have d1 := HDk.out.cell 1
      have zd := HDk.out.lt
      have zg := HGk.out.lt
      have zm := HMk.out.lt
      obtain ⟨wo, rfl⟩ : ∃ wo : World, wo = wr := ⟨_, rfl⟩
      go_wp2_with fail
      clear d1
      go_loopw [6, 26] (fun v i wr => ∃ (j : Nat), j ≤ zs.length ∧ i = .int .i64 j ∧ Hid (wr.ownsRow wo.heap.size 3 1 v (goneL xs zs k j).length (cellsN (goneL xs zs k j))) ∧ Hid (Lies wr (w.heap.size + 1) 3 (rowN (mixL xs zs k j))) ∧ Hid (BMap wr (w.heap.size + 1 + 1 + 1) zs.length (waitW xs zs k)) ∧ Hid (Lies wr w.heap.size 118 #[.slice A xs.length c, .slice (some ⟨bN, oN, none⟩) zs.length cN, vD]) ∧ Below w.heap.size w wr ∧ wo.heap.size ≤ wr.heap.size) (fun _ i _ => zs.length - (intOf i).toNat)
      case atStart => exact ⟨0, by omega, rfl, Lib.hid (World.ownsRow_nil _ _ _ _), Lib.hid (by rw [mixL_zero]; exact HGk.out), HMk, HDk, hb, Nat.le_refl _⟩
      case round =>
        obtain ⟨j, hj, rfl, HO, HX, HM2, HD2, hb2, hz2⟩ := hrel
        by_cases hjt : j < zs.length
        · have r0 := cell_keep hb2 (HZ.out j hjt)
          have hN := HZN.out zs[j] (List.getElem_mem hjt)
          have HGO := Lib.hid (goneL_step (xs := xs) (k := k) hjt)
          have HMG := Lib.hid (mixL_goes (xs := xs) (k := k) hjt)
          have HMS := Lib.hid (mixL_stays (xs := xs) (k := k) hjt)
          have hlen := goneL_le xs zs k j
          have hmx : j < (mixL xs zs k j).length := by rw [mixL_len]; exact hjt
          have HML := Lib.hid hmx
          clear hmx
          have hlook := HM2.out.look hN
          have d0 := HD2.out.cell 0
          have d1 := HD2.out.cell 1
          have d2 := HD2.out.cell 2
          have zd2 := HD2.out.lt
          have zg2 := HX.out.lt
          have zm2 := HM2.out.lt
          have hgw : goesW xs zs k zs[j] = (waitW xs zs k zs[j] && !needB xs zs[j] (waitW xs zs k)) := rfl
          have HND := Lib.hid (fun W hW hm => HN.out zs[j] (w.heap.size + 1 + 1 + 1) zs.length (waitW xs zs k) W hW hm)
          have HGW := Lib.hid hgw
          clear hgw hN
          generalize zs[j] = d at *
          generalize goesW xs zs k d = gg at *
          generalize waitW xs zs k d = ww at *
          generalize needB xs d (waitW xs zs k) = nn at *
          generalize goneL xs zs k j = gl at *
          cases ww
          · have HG0 : Hid (gg = false) := Lib.hid (by rw [HGW.out]; rfl)
            go_wp2
            go_roundw
            case rel => exact ⟨j + 1, by omega, by go_num, Lib.hid (by rw [HGO.out, HG0.out]; simpa using HO.out), Lib.hid (by rw [← HMS.out HG0.out]; exact HX.out), HM2, HD2, hb2, hz2⟩
            case measure => simp [intOf]; omega
          · go_wp2_with fail
            refine (HND.out _ hb2 HM2.out).mono ?_
            rintro e w2 ⟨rfl, hb3⟩
            have HO3 := Lib.hid (own_after HO.out hb3)
            have HX3 := Lib.hid (HX.out.after hb3)
            have HM3 := Lib.hid (HM2.out.after hb3)
            have HD3 := Lib.hid (HD2.out.after hb3)
            have hb4 : Below w.heap.size w w2 := by (repeat' (first | (with_reducible exact Below.refl _ _) | (with_reducible assumption) | (with_reducible refine Below.alloc ?_ ?_ _) | (with_reducible refine Below.setCell ?_ ?_ _) | (with_reducible refine below_row ?_ ?_ _) | (with_reducible refine Below.drew ?_) | (with_reducible refine below_drewN ?_ _) | (with_reducible refine Below.trans ?_ (Below.mono (by assumption) ?_)) | (first | exact Nat.le_refl _ | omega | (simp; done) | (simp; omega) | (exact Below.size (by assumption)))))
            have hz4 : wo.heap.size ≤ w2.heap.size := Nat.le_trans hz2 hb3.size
            clear hb3 d0 d1 d2 hlook
            cases nn
            · have HG0 : Hid (gg = true) := Lib.hid (by rw [HGW.out]; rfl)
              have g0 : w2.cell? ⟨w.heap.size + 1, j, none⟩ = some (.int .i64 ((mixL xs zs k j)[j]'HML.out)) := (HX3.out.cell j).trans (rowN_at HML.out)
              generalize (mixL xs zs k j)[j]'HML.out = old at *
              have f0 := HX3.out.free j
              have zg3 := HX3.out.lt
              have hwk : IntKind.i64.wrap ((k : Int) + 1) = (k : Int) + 1 := IntWalk.i64_in _ (by omega)
              have zm3 := HM3.out.lt
              go_wp2_with (at_builtin; go_loud (refine wpList_append_own _ rfl _ _ 29 rfl wo.heap.size 3 i0 (.int .i64 0) 1 8 Try.underlying29 hi iz0 iz1 iz2 rfl (by decide) _ _ _ rfl ((own_put HO3.out (by show w.heap.size + 1 < wo.heap.size; exact zg) _).alloc _) ⟨w2.heap.size, 0, none⟩ 1 1 [.int .i64 d] rfl rfl (World.news_of_block (cs := #[.int .i64 d]) (t := 3) (fr := (0, 0)) (Lies.new (by simp))) (by simp [Value.oneCell']) (by unfold maxLen; omega) (by omega) (by simp; omega) ?_; intro v' w3 hown' hgrow _; have HOW := Lib.hid ((own_put HO3.out (p := ⟨w.heap.size + 1, j, none⟩) (by show w.heap.size + 1 < wo.heap.size; exact zg) (.int .i64 ((k : Int) + 1))).alloc (.cells #[.int .i64 d] 3)); have HB5 := Lib.hid (below_own (w0 := w) (B := w.heap.size) (by (repeat' (first | (with_reducible exact Below.refl _ _) | (with_reducible assumption) | (with_reducible refine Below.alloc ?_ ?_ _) | (with_reducible refine Below.setCell ?_ ?_ _) | (with_reducible refine below_row ?_ ?_ _) | (with_reducible refine Below.drew ?_) | (with_reducible refine below_drewN ?_ _) | (with_reducible refine Below.trans ?_ (Below.mono (by assumption) ?_)) | (first | exact Nat.le_refl _ | omega | (simp; done) | (simp; omega) | (exact Below.size (by assumption)))))) HOW.out hgrow (by omega) (by simp; omega)); have HX5 := Lib.hid (lies_below ((HX3.out.store j (.int .i64 ((k : Int) + 1))).alloc (.cells #[.int .i64 d] 3)) HOW.out hgrow zg); have HD5 := Lib.hid (lies_below ((HD3.out.other (p := ⟨w.heap.size + 1, j, none⟩) (by show w.heap.size ≠ w.heap.size + 1; omega) (.int .i64 ((k : Int) + 1))).alloc (.cells #[.int .i64 d] 3)) HOW.out hgrow zd); have HM5 := Lib.hid (((HM3.out.set (p := ⟨w.heap.size + 1, j, none⟩) (by show w.heap.size + 1 + 1 + 1 ≠ w.heap.size + 1; omega) (.int .i64 ((k : Int) + 1))).alloc (.cells #[.int .i64 d] 3)).kept (hgrow.block _ (by simp; omega) (fun e => by have := (HOW.out.lt _ e.symm).1; omega))); have hz5 : wo.heap.size ≤ w3.heap.size := (by have := hgrow.size; simp at this; omega); have HO5 := Lib.hid hown'; clear hown' hgrow HOW))
              go_roundw
              case rel => exact ⟨j + 1, by omega, by go_num, Lib.hid (by rw [HGO.out, HG0.out, if_pos rfl, List.length_append]; unfold cellsN; rw [List.map_append]; exact HO5.out), Lib.hid (by rw [← HMG.out HG0.out, ← rowN_set]; exact HX5.out), HM5, HD5, HB5.out, hz5⟩
              case measure => simp [intOf]; omega
            · have HG0 : Hid (gg = false) := Lib.hid (by rw [HGW.out]; rfl)
              go_wp2
              go_roundw
              case rel => exact ⟨j + 1, by omega, by go_num, Lib.hid (by rw [HGO.out, HG0.out]; simpa using HO3.out), Lib.hid (by rw [← HMS.out HG0.out]; exact HX3.out), HM3, HD3, hb4, hz4⟩
              case measure => simp [intOf]; omega
        · have hje : j = zs.length := by omega
          subst hje
          have HX3 : Hid (Lies wr (w.heap.size + 1) 3 (rowN (zs.map (depW xs zs (k + 1))))) := Lib.hid (by rw [← mixL_end]; exact HX.out)
          obtain ⟨A6, c6, g6, rfl, -⟩ := own_form HO.out
          have hgl := goneL_le xs zs k zs.length
          have HGN : Hid (∀ x ∈ goneL xs zs k zs.length, NIn x) := Lib.hid (fun x hx => HZN.out x (List.mem_of_mem_take (List.mem_filter.1 hx).1))
          clear HX
          obtain ⟨wp, rfl⟩ : ∃ wp : World, wp = wr := ⟨_, rfl⟩
          go_wp2_with fail
          go_loopw [53] (fun i wr => ∃ (j : Nat), j ≤ (goneL xs zs k zs.length).length ∧ i = .int .i64 j ∧ Hid (wr.ownsRow wo.heap.size 3 1 (.slice A6 (goneL xs zs k zs.length).length c6) (goneL xs zs k zs.length).length (cellsN (goneL xs zs k zs.length))) ∧ Hid (Lies wr (w.heap.size + 1) 3 (rowN (zs.map (depW xs zs (k + 1))))) ∧ Hid (BMap wr (w.heap.size + 1 + 1 + 1) zs.length (lessW xs zs k j)) ∧ Hid (Lies wr w.heap.size 118 #[.slice A xs.length c, .slice (some ⟨bN, oN, none⟩) zs.length cN, vD]) ∧ Below w.heap.size w wr) (fun i _ => (goneL xs zs k zs.length).length - (intOf i).toNat)
          case atStart => exact ⟨0, by omega, rfl, HO, HX3, Lib.hid (HM2.out.ext (fun x _ => (lessW_zero _ _ _ x).symm)), HD2, hb2⟩
          case round =>
            obtain ⟨j, hj, rfl, HO7, HX7, HM7, HD7, hb7⟩ := hrel
            have HLS := Lib.hid (fun h x => lessW_step (xs := xs) (zs := zs) (k := k) (j := j) h x)
            have HWN := Lib.hid (fun x => wait_next (xs := xs) (zs := zs) (k := k) x)
            by_cases hjt : j < (goneL xs zs k zs.length).length
            · obtain ⟨A8, c8, b8, o8, hv8, hA8, hc8⟩ := ints_of_own HO7.out
              obtain rfl := hA8 (by omega)
              simp only [Value.slice.injEq, true_and] at hv8
              obtain ⟨rfl, rfl⟩ := hv8
              have r0 := hc8 j hjt
              have hN := HGN.out _ (List.getElem_mem hjt)
              obtain ⟨w9, hrun, hm9, ht9⟩ := HM7.out.del hN 0
              have HM9 := Lib.hid (hm9.ext (fun x _ => HLS.out hjt x))
              have HB9 := Lib.hid (turned_below ht9 (by omega) w hb7 hb7.size)
              have HX9 := Lib.hid (HX7.out.turned1 ht9 (by omega))
              have HD9 := Lib.hid (HD7.out.turned1 ht9 (by omega))
              have HO9 := Lib.hid (own_at HO7.out (fun g hg => turned_other ht9 (by have := (HO7.out.lt g hg).1; omega)))
              clear hm9 ht9 hc8
              generalize (goneL xs zs k zs.length)[j] = d at *
              go_wp2
              go_roundw
              case rel => exact ⟨j + 1, by omega, by go_num, HO9, HX9, HM9, HD9, HB9.out⟩
              case measure => simp [intOf]; omega
            · have hje : j = (goneL xs zs k zs.length).length := by omega
              have HM9 : Hid (BMap wr (w.heap.size + 1 + 1 + 1) zs.length (waitW xs zs (k + 1))) := Lib.hid (HM7.out.ext (fun x _ => by rw [← HWN.out]; unfold lessW; rw [hje, List.take_length]))
              clear HM7
              subst hje
              go_wp2
              go_roundw
              case rel => exact ⟨k + 1, by omega, by go_num, HX7, HM9, HD7, hb7⟩
              case measure => simp [intOf]; omega
    · have hke : k = zs.length := by omega
      have HR : Hid (Lies wr (w.heap.size + 1) 3 (rowN (chainsL xs zs))) := Lib.hid (by unfold chainsL; have := HGk.out; rwa [hke] at this)
      clear HGk
      subst hke
      go_wp2
      go_ret
      exact ⟨rfl, HR.out, hb⟩
end Go.Proofs.Ytngaepgepcnhkaa
