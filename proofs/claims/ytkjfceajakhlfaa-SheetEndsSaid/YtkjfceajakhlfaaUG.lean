/- counts. -/
import Derived.Test.YtkjfceajakhlfaaUE
import Derived.Test.YtkjfceajakhlfaaLJ
namespace Go.Proofs.Ytkjfceajakhlfaa
set_option linter.unusedVariables false
set_option linter.unusedSimpArgs false
open Go.RowKit

/-- Counts, laid one behind the other. -/
def putL (l : List (Int × Int)) (S : Int → Int) : Int → Int := l.foldl (fun S it => fun y => if y = it.1 then it.2 else S y) S
theorem putL_step {l : List (Int × Int)} {S : Int → Int} {j : Nat} (h : j < l.length) : putL (l.take (j + 1)) S = fun y => if y = l[j].1 then l[j].2 else putL (l.take j) S y := by
  unfold putL
  rw [List.take_succ_eq_append_getElem h, List.foldl_append]; rfl
theorem putL_count : ∀ {l : List (Int × Int)} {S : Int → Int}, l.Pairwise (fun a b => a.1 < b.1) → ∀ y, putL l S y = if y ∈ l.map (·.1) then countI l y else S y
  | [], S, _, y => by simp [putL]
  | it :: r, S, h, y => by
    obtain ⟨h1, h2⟩ := List.pairwise_cons.1 h
    show putL r (fun y => if y = it.1 then it.2 else S y) y = _
    rw [putL_count h2, List.map_cons, countI]
    by_cases e : y ∈ r.map (·.1)
    · obtain ⟨x, hx, rfl⟩ := List.mem_map.1 e
      have := h1 x hx
      rw [if_pos e, if_pos (List.mem_cons_of_mem _ e), if_neg (by omega)]
    · rw [if_neg e]
      by_cases e2 : y = it.1
      · subst e2; rw [if_pos rfl, if_pos (by simp), if_pos rfl]
      · rw [if_neg e2, if_neg (by simp [e2]; intro a b; exact e (List.mem_map.2 ⟨(y, a), b, rfl⟩))]
theorem countI_none {l : List (Int × Int)} {y : Int} (h : y ∉ l.map (·.1)) : countI l y = 0 :=
  countI_no (fun p hp e => h (List.mem_map.2 ⟨l[p], List.getElem_mem hp, e⟩))
theorem putL_end {l : List (Int × Int)} (h : l.Pairwise (fun a b => a.1 < b.1)) (y : Int) : putL l (fun _ => 0) y = countI l y := by
  rw [putL_count h]
  split
  · rfl
  · rename_i e; exact (countI_none e).symm
theorem itemsB_pair {d : Int} : ∀ {l : List (Int × Int)} {last : Int}, itemsB d last l = true → l.Pairwise (fun a b => a.1 < b.1)
  | [], _, _ => List.Pairwise.nil
  | it :: r, last, h => by
    rw [itemsB] at h
    split at h
    · cases h
    · exact List.Pairwise.cons (fun x hx => itemsB_low h x hx) (itemsB_pair h)
/-- What a valid register says of items. -/
theorem right_items {xs : List Iss} (h2 : rightB zeroI xs = true) (h4 : completeB xs (numbersL xs) = true) {x : Iss} (hx : x ∈ xs) : x.items.length ≤ 8 ∧ x.items.Pairwise (fun a b => a.1 < b.1) ∧ ∀ it ∈ x.items, it.1 ∈ numbersL xs ∧ 1 ≤ it.2 ∧ it.2 ≤ 20 := by
  obtain ⟨-, hm, -⟩ := right_named h2 x hx
  unfold madeB at hm
  by_cases e : x.k = 1
  · rw [if_pos e, Bool.and_eq_true] at hm
    have h9 := hm.1
    unfold inB at h9
    simp at h9
    exact ⟨by omega, itemsB_pair hm.2, fun it hit => ⟨complete_mem h4 x hx it hit, itemsB_bounds hm.2 it hit⟩⟩
  · rw [if_neg e, decide_eq_true_eq] at hm
    rw [List.length_eq_zero_iff.1 hm]
    exact ⟨by simp, List.Pairwise.nil, fun it hit => by cases hit⟩
theorem place_at {zs : List Int} {d : Int} {r : Nat} (hs : zs.Pairwise (· < ·)) (hd : d ∈ zs) (hr2 : ∀ i (h : i < zs.length), i < r → zs[i] < d) (hr3 : ∀ i (h : i < zs.length), r ≤ i → d ≤ zs[i]) : ∃ hp : r < zs.length, zs[r] = d := by
  obtain ⟨p, hp, hpe⟩ := List.getElem_of_mem hd
  have : r = p := by
    by_cases h1 : r < p
    · have h2 := hr3 r (by omega) (Nat.le_refl _)
      have h3 := List.pairwise_iff_getElem.1 hs r p (by omega) hp h1
      omega
    · by_cases h2 : p < r
      · have := hr2 p hp h2; omega
      · omega
  subst this
  exact ⟨hp, hpe⟩

set_option maxRecDepth 100000 in
set_option maxHeartbeats 8000000 in
theorem counts_any (vI vD : Value) {vN : Value} (x : Iss) (vi vd : Value) (zs : List Int) (w : World) (hI : ∃ A n c, vI = .slice A n c) (hDs : ∃ A n c, vD = .slice A n c) (hN : IntsAt w vN zs) (hs : zs.Pairwise (· < ·)) (hlz : zs.length ≤ 1000) (hl : x.items.length ≤ 8) (hp : x.items.Pairwise (fun a b => a.1 < b.1)) (hit : ∀ it ∈ x.items, it.1 ∈ zs ∧ 1 ≤ it.2 ∧ it.2 ≤ 20) (hi : ItemsAt w vi x.items) (hd : ∃ A n c, vd = .slice A n c) :
    Calls Try.prog 88 #[.agg #[vI, vN, vD], .agg #[.int .i64 x.d, .int .i64 x.l, .int .u8 x.k, vi, vd]] w fun e w' => ∃ g, e = .returned (.slice (some ⟨g, 0, none⟩) zs.length zs.length) ∧ Lies w' g 3 (rowN (zs.map (countI x.items))) ∧ Below w.heap.size w w' := by
  obtain ⟨dx, lx, kx, il, dl⟩ := x
  simp only at hl hp hit hi ⊢
  have HP := Lib.hid (fun t W (hW : Below w.heap.size w W) => place_v vI vD t (hN.after hW) hs hlz)
  obtain ⟨Ai, ci, bi, oi, rfl, hAi, hci⟩ := hi
  obtain ⟨A2, n2, c2, rfl⟩ := hd
  obtain ⟨AN, cN, rfl⟩ := hN.slice
  obtain ⟨AI, nI, cI, rfl⟩ := hI
  obtain ⟨AD, nD, cD, rfl⟩ := hDs
  have HAI := Lib.hid hAi
  have HCI := Lib.hid hci
  have HIT := Lib.hid hit
  have HPW := Lib.hid hp
  have HS := Lib.hid hs
  have hmk := makeN zs.length hlz
  have LD := Lib.hid (((Lies.made w 118 #[.slice AI nI cI, .slice AN zs.length cN, .slice AD nD cD]).alloc (.cells #[.int .i64 dx, .int .i64 lx, .int .u8 kx, .slice Ai il.length ci, .slice A2 n2 c2] 45)).alloc (.cells (rowN (List.replicate zs.length 0)) 3))
  have LG0 : Hid (Lies (((w.alloc (.cells #[.slice AI nI cI, .slice AN zs.length cN, .slice AD nD cD] 118)).alloc (.cells #[.int .i64 dx, .int .i64 lx, .int .u8 kx, .slice Ai il.length ci, .slice A2 n2 c2] 45)).alloc (.cells (rowN (List.replicate zs.length 0)) 3)) (w.heap.size + 1 + 1) 3 (rowN (zs.map (putL (il.take 0) (fun _ => 0))))) := Lib.hid (by
    have e : zs.map (putL (il.take 0) (fun _ => 0)) = List.replicate zs.length 0 := by rw [List.take_zero]; show zs.map (fun _ => (0 : Int)) = _; rw [List.map_const']
    rw [e]; exact Lies.new (by simp))
  clear hAi hci hit hp hs hN
  go_enter Try.func88, Try.ntmps88
  go_wp2_with fail
  go_loopw [17] (fun i wr => ∃ j : Nat, j ≤ il.length ∧ i = .int .i64 j ∧ Hid (Lies wr (w.heap.size + 1 + 1) 3 (rowN (zs.map (putL (il.take j) (fun _ => 0))))) ∧ Hid (Lies wr w.heap.size 118 #[.slice AI nI cI, .slice AN zs.length cN, .slice AD nD cD]) ∧ Below w.heap.size w wr) (fun i _ => il.length - (intOf i).toNat)
  case atStart => exact ⟨0, by omega, rfl, LG0, LD, by (repeat' (first | (with_reducible first | exact Below.refl _ _ | assumption | refine Below.alloc ?_ ?_ _ | refine Below.setCell ?_ ?_ _ | refine below_row ?_ ?_ _ | refine Below.drew ?_ | refine below_drewN ?_ _ | refine Below.trans ?_ (Below.mono (by assumption) ?_)) | exact Nat.le_refl _ | omega | (simp; done) | (simp; omega) | exact Below.size (by assumption)))⟩
  case round =>
    obtain ⟨j, hj, rfl, HG, HD, hb⟩ := hrel
    have hz := hb.size
    have zg := HG.out.lt
    by_cases hlt : j < il.length
    · obtain rfl := HAI.out (by omega)
      have r0 := cell_keep hb (HCI.out j hlt).1
      have r1 := cell_keep hb (HCI.out j hlt).2
      have kl1 : (j : Int) < (il.length : Int) := by omega
      have hm := (HIT.out il[j] (List.getElem_mem hlt)).1
      have HST := Lib.hid (putL_step (S := fun _ => 0) hlt)
      have d0 := HD.out.cell 0
      have d1 := HD.out.cell 1
      have d2 := HD.out.cell 2
      have zd := HD.out.lt
      have HX : Hid (∃ it, il[j] = it) := Lib.hid ⟨_, rfl⟩
      obtain ⟨it, hit⟩ := HX.out
      rw [hit] at r0 r1 hm HST
      clear hit HX
      obtain ⟨d', c'⟩ := it
      simp only at r0 r1 hm
      have HST2 : Hid (putL (il.take (j + 1)) (fun _ => 0) = fun y => if y = d' then c' else putL (il.take j) (fun _ => 0) y) := Lib.hid HST.out
      have HM := Lib.hid hm
      have hdd : decide (d' ∈ zs) = true := decide_eq_true hm
      have HPD := Lib.hid (fun W hW => HP.out d' W hW)
      unfold PlaceAt at HPD
      rw [hdd] at HPD
      clear HST hm hdd
      go_wp2_with fail
      refine (HPD.out _ (by (repeat' (first | (with_reducible first | exact Below.refl _ _ | assumption | refine Below.alloc ?_ ?_ _ | refine Below.setCell ?_ ?_ _ | refine below_row ?_ ?_ _ | refine Below.drew ?_ | refine below_drewN ?_ _ | refine Below.trans ?_ (Below.mono (by assumption) ?_)) | exact Nat.le_refl _ | omega | (simp; done) | (simp; omega) | exact Below.size (by assumption))))).mono ?_
      rintro e w3 ⟨p, -, hp2, hp3, rfl, hb3⟩
      have HPZ := Lib.hid (place_at HS.out HM.out hp2 hp3)
      have s3 := hb3.size; try simp only [World.size_alloc, World.size_setCell, World.size_drew, setRow_size] at s3
      have HG3 := Lib.hid ((HG.out.alloc (.cells #[.int .i64 d', .int .i64 c'] 52)).after hb3)
      have HD3 := Lib.hid ((HD.out.alloc (.cells #[.int .i64 d', .int .i64 c'] 52)).after hb3)
      have HI3 := Lib.hid ((Lies.made wr 52 #[.int .i64 d', .int .i64 c']).after hb3)
      have i1 := HI3.out.cell 1
      have zi := HI3.out.lt
      have hb4 : Below w.heap.size w w3 := by (repeat' (first | (with_reducible first | exact Below.refl _ _ | assumption | refine Below.alloc ?_ ?_ _ | refine Below.setCell ?_ ?_ _ | refine below_row ?_ ?_ _ | refine Below.drew ?_ | refine below_drewN ?_ _ | refine Below.trans ?_ (Below.mono (by assumption) ?_)) | exact Nat.le_refl _ | omega | (simp; done) | (simp; omega) | exact Below.size (by assumption)))
      have hpl : p < zs.length := HPZ.out.1
      have kp1 : (p : Int) < (zs.length : Int) := by omega
      have q0 := HG3.out.cell p
      rw [rowN_at (by simpa using hpl)] at q0
      have f0 := HG3.out.free p
      have zg3 := HG3.out.lt
      have HPUT := Lib.hid (rowS_put (v := c') HPZ.out HS.out HG3.out)
      have n1 : ¬ w.heap.size = w.heap.size + 1 + 1 := by omega
      have HD4 := Lib.hid (HD3.out.other (p := ⟨w.heap.size + 1 + 1, p, none⟩) (by show w.heap.size ≠ w.heap.size + 1 + 1; omega) (.int .i64 c'))
      have hb5 : Below w.heap.size w (w3.setCell ⟨w.heap.size + 1 + 1, p, none⟩ (.int .i64 c')) := hb4.setCell (p := ⟨w.heap.size + 1 + 1, p, none⟩) (by show w.heap.size ≤ w.heap.size + 1 + 1; omega) _
      have HB5 := Lib.hid hb5
      clear hp2 hp3 hb3 d0 d1 d2 hb5
      generalize (zs.map (putL (il.take j) (fun _ => 0)))[p]'(by simpa using hpl) = old at *
      go_wp2_with fail
      go_roundw
      case rel => exact ⟨j + 1, by omega, by go_num, Lib.hid (by rw [HST2.out]; exact HPUT.out), HD4, HB5.out⟩
      case measure => simp [intOf]; omega
    · have hje : j = il.length := by omega
      have HR : Hid (Lies wr (w.heap.size + 1 + 1) 3 (rowN (zs.map (countI il)))) := Lib.hid (by
        have := HG.out
        rw [hje, List.take_length] at this
        rwa [show zs.map (putL il (fun _ => 0)) = zs.map (countI il) from by congr 1; funext y; exact putL_end HPW.out y] at this)
      clear HG
      subst hje
      have kl0 : ¬ (il.length : Int) < (il.length : Int) := by omega
      go_wp2_with fail
      go_ret
      exact ⟨_, rfl, HR.out, hb⟩
end Go.Proofs.Ytkjfceajakhlfaa
