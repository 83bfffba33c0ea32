/- The reference: depths. -/
import Derived.Test.YtngaepgepcnhkaaK12
import Derived.Test.YtngaepgepcnhkaaJE
import Derived.StillTailTactics
namespace Go.Proofs.Ytngaepgepcnhkaa
set_option linter.unusedVariables false
set_option linter.unusedSimpArgs false
open Go.RowKit

def bump (g : Int → Int) (d v : Int) : Int → Int := fun y => if y = d then max (g y) v else g y
def itemsG (f : Int → Int) (d : Int) (g : Int → Int) (l : List (Int × Int)) : Int → Int := l.foldl (fun g it => bump g d (1 + f it.1)) g
def issG (f g : Int → Int) (x : Iss) : Int → Int := itemsG f x.d (bump g x.d 1) x.items
def nextG (f : Int → Int) (xs : List Iss) : Int → Int := xs.foldl (issG f) (fun _ => 0)
def depF (xs : List Iss) : Nat → Int → Int
  | 0 => fun _ => 0
  | k + 1 => nextG (depF xs k) xs
theorem bump_bd {g : Int → Int} {d v : Int} {B : Int} (hg : ∀ y, 0 ≤ g y ∧ g y ≤ B) (hv : v ≤ B) (y : Int) : 0 ≤ bump g d v y ∧ bump g d v y ≤ B := by
  have := hg y
  unfold bump
  split
  · rw [Int.max_def]; split <;> omega
  · exact this
theorem itemsG_bd {f : Int → Int} {d : Int} {B : Int} (hf : ∀ y, 0 ≤ f y ∧ f y + 1 ≤ B) : ∀ (l : List (Int × Int)) (g : Int → Int), (∀ y, 0 ≤ g y ∧ g y ≤ B) → ∀ y, 0 ≤ itemsG f d g l y ∧ itemsG f d g l y ≤ B
  | [], g, hg, y => hg y
  | it :: r, g, hg, y => itemsG_bd hf r _ (bump_bd hg (by have := hf it.1; omega)) y
theorem issG_bd {f : Int → Int} {B : Int} (hB : 1 ≤ B) (hf : ∀ y, 0 ≤ f y ∧ f y + 1 ≤ B) {g : Int → Int} (hg : ∀ y, 0 ≤ g y ∧ g y ≤ B) (x : Iss) (y : Int) : 0 ≤ issG f g x y ∧ issG f g x y ≤ B :=
  itemsG_bd hf _ _ (bump_bd hg hB) y
theorem foldG_bd {f : Int → Int} {B : Int} (hB : 1 ≤ B) (hf : ∀ y, 0 ≤ f y ∧ f y + 1 ≤ B) : ∀ (xs : List Iss) (g : Int → Int), (∀ y, 0 ≤ g y ∧ g y ≤ B) → ∀ y, 0 ≤ xs.foldl (issG f) g y ∧ xs.foldl (issG f) g y ≤ B
  | [], g, hg, y => hg y
  | x :: r, g, hg, y => foldG_bd hB hf r _ (issG_bd hB hf hg x) y
theorem depF_bd (xs : List Iss) : ∀ k y, 0 ≤ depF xs k y ∧ depF xs k y ≤ k
  | 0, y => by simp [depF]
  | k + 1, y => by
    have ih := depF_bd xs k
    have := foldG_bd (f := depF xs k) (B := (k : Int) + 1) (by omega) (fun y => by have := ih y; omega) xs (fun _ => 0) (fun y => ⟨Int.le_refl _, by show (0 : Int) ≤ (k : Int) + 1; omega⟩) y
    exact ⟨this.1, by have := this.2; simp only [Int.natCast_add, Int.natCast_one]; exact this⟩
theorem idx_spec {zs : List Int} {d : Int} (h : d ∈ zs) : ∃ p : Nat, p < zs.length ∧ (∃ hp : p < zs.length, zs[p] = d) ∧ idxL zs d = p := by
  induction zs with
  | nil => cases h
  | cons z r ih =>
    rw [idxL]
    by_cases e : z = d
    · exact ⟨0, by simp, ⟨by simp, by simpa using e⟩, by simp [e]⟩
    · have hm : d ∈ r := by
        rcases List.mem_cons.1 h with h | h
        · exact absurd h.symm e
        · exact h
      obtain ⟨p, hp, ⟨hp2, hz⟩, hi⟩ := ih hm
      refine ⟨p + 1, by simpa using hp, ⟨by simpa using hp, by simpa using hz⟩, ?_⟩
      rw [if_neg e, hi, if_neg (by omega)]
      omega
theorem bump_row {w : World} {gn p : Nat} {zs : List Int} {g : Int → Int} {d u v : Int} (hp : ∃ hp : p < zs.length, zs[p] = d) (hn : zs.Pairwise (· < ·)) (hv : v = max (g d) u) (h : Lies w gn 3 (rowN (zs.map g))) : Lies (w.setCell ⟨gn, p, none⟩ (.int .i64 v)) gn 3 (rowN (zs.map (bump g d u))) := by
  have h1 := h.store p (.int .i64 v)
  rw [rowN_set] at h1
  obtain ⟨hpl, he⟩ := hp
  have h2 : (zs.map g).set p v = zs.map (bump g d u) := by
    apply List.ext_getElem
    · simp
    · intro i hi1 hi2
      have hil : i < zs.length := by simpa using hi2
      rw [List.getElem_set]
      simp only [List.getElem_map]
      unfold bump
      by_cases e : p = i
      · subst e
        rw [if_pos rfl, he, if_pos rfl, hv]
      · rw [if_neg e, if_neg]
        intro hz
        rcases Nat.lt_or_gt_of_ne e with h3 | h3
        · have := List.pairwise_iff_getElem.1 hn p i hpl hil h3; omega
        · have := List.pairwise_iff_getElem.1 hn i p hil hpl h3; omega
  rw [h2] at h1
  exact h1
theorem rowMap_at {w : World} {gn p : Nat} {zs : List Int} {g : Int → Int} {d : Int} (hp : ∃ hp : p < zs.length, zs[p] = d) (h : Lies w gn 3 (rowN (zs.map g))) : w.cell? ⟨gn, p, none⟩ = some (.int .i64 (g d)) := by
  obtain ⟨hpl, he⟩ := hp
  rw [h.cell, rowN_at (by simpa using hpl), List.getElem_map, he]
theorem made0 {w : World} {n : Nat} {l : List Int} (e : List.replicate n (0 : Int) = l) : Lies (w.alloc (.cells (rowN (List.replicate n 0)) 3)) w.heap.size 3 (rowN l) := by
  subst e; exact Lies.made w 3 _
theorem foldG_step {f : Int → Int} {xs : List Iss} {p : Nat} (h : p < xs.length) (g : Int → Int) : (xs.take (p + 1)).foldl (issG f) g = issG f ((xs.take p).foldl (issG f) g) xs[p] := by
  rw [List.take_succ_eq_append_getElem h, List.foldl_append]; rfl
theorem itemsG_step {f : Int → Int} {d : Int} {l : List (Int × Int)} {j : Nat} (h : j < l.length) (g : Int → Int) : itemsG f d g (l.take (j + 1)) = bump (itemsG f d g (l.take j)) d (1 + f l[j].1) := by
  unfold itemsG
  rw [List.take_succ_eq_append_getElem h, List.foldl_append]; rfl

set_option maxRecDepth 100000 in
set_option maxHeartbeats 16000000 in
theorem rDepths_any (A : Option Addr) (c b off : Nat) (xs : List Iss) (vi vd : Nat → Value) (w : World) (hl : xs.length ≤ 500) (hsm : ∀ x ∈ xs, x.items.length ≤ 1000) (hA : 0 < xs.length → A = some ⟨b, off, none⟩) (hc : IssRow w b off xs vi vd)
    (hst : (numbersR xs).Pairwise (· < ·)) (hxd : ∀ x ∈ xs, x.d ∈ numbersR xs) (hxi : ∀ x ∈ xs, ∀ it ∈ x.items, it.1 ∈ numbersR xs) :
    Calls Try.prog 68 #[.agg #[.slice A xs.length c]] w fun e w' => ∃ g, e = .returned (.slice (some ⟨g, 0, none⟩) (numbersR xs).length (numbersR xs).length) ∧ Lies w' g 3 (rowN ((numbersR xs).map (depF xs ((numbersR xs).length + 1)))) ∧ Below w.heap.size w w' := by
  have HNU := Lib.hid (fun W (hW : Below w.heap.size w W) => rNumbers_any A c b off xs vi vd W (by omega) hA (hc.after hW))
  have hnl : (numbersR xs).length ≤ 500 := Nat.le_trans (numK_le xs xs.length) hl
  have HA := Lib.hid hA
  have HC := Lib.hid hc
  have HSM := Lib.hid hsm
  have HST := Lib.hid hst
  have HXD := Lib.hid hxd
  have HXI := Lib.hid hxi
  obtain ⟨zs, hzs⟩ : ∃ zs, numbersR xs = zs := ⟨_, rfl⟩
  rw [hzs] at HNU HST HXD HXI hnl ⊢
  clear hA hc hsm hst hxd hxi hzs
  have hmk := makeN zs.length (by omega)
  have HD0 := Lib.hid (Lies.made w 24 #[.slice A xs.length c])
  go_enter Try.func68, Try.ntmps68
  go_wp2_with fail
  refine (HNU.out _ (by (repeat' (first | (with_reducible exact Below.refl _ _) | (with_reducible assumption) | (with_reducible refine Below.alloc ?_ ?_ _) | (with_reducible refine Below.setCell ?_ ?_ _) | (with_reducible refine below_row ?_ ?_ _) | (with_reducible refine Below.drew ?_) | (with_reducible refine below_drewN ?_ _) | (with_reducible refine Below.trans ?_ (Below.mono (by assumption) ?_)) | (first | exact Nat.le_refl _ | omega | (simp; done) | (simp; omega) | (exact Below.size (by assumption))))))).mono ?_
  rintro e w2 ⟨v, rfl, hown, hb2⟩
  have s2 := hb2.size; try simp only [World.size_alloc, World.size_setCell, World.size_drew, setRow_size] at s2
  have HD2 := Lib.hid (HD0.out.after hb2)
  have hbw2 : Below w.heap.size w w2 := by (repeat' (first | (with_reducible exact Below.refl _ _) | (with_reducible assumption) | (with_reducible refine Below.alloc ?_ ?_ _) | (with_reducible refine Below.setCell ?_ ?_ _) | (with_reducible refine below_row ?_ ?_ _) | (with_reducible refine Below.drew ?_) | (with_reducible refine below_drewN ?_ _) | (with_reducible refine Below.trans ?_ (Below.mono (by assumption) ?_)) | (first | exact Nat.le_refl _ | omega | (simp; done) | (simp; omega) | (exact Below.size (by assumption)))))
  obtain ⟨A6, c6, b6, o6, rfl, hA6, hc6⟩ := ints_of_own hown
  have HA6 := Lib.hid hA6
  have HC6 := Lib.hid hc6
  clear hA6 hc6 hown hb2 HNU HD0
  have HX0 : Hid (Lies (w2.alloc (.cells (rowN (List.replicate zs.length 0)) 3)) w2.heap.size 3 (rowN (zs.map (depF xs 0)))) := Lib.hid (by
    refine made0 ?_
    rw [eq_comm, List.map_eq_replicate_iff]; intro x _; rfl)
  go_wp2_with fail
  go_loopw [4, 5] (fun o i wr => ∃ (k g : Nat), k ≤ zs.length + 1 ∧ i = .int .i64 k ∧ o = .slice (some ⟨g, 0, none⟩) zs.length zs.length ∧ w2.heap.size ≤ g ∧ Hid (Lies wr g 3 (rowN (zs.map (depF xs k)))) ∧ Hid (Lies wr w.heap.size 24 #[.slice A xs.length c]) ∧ Below w.heap.size w wr ∧ Below w2.heap.size w2 wr) (fun _ i _ => zs.length + 1 - (intOf i).toNat)
  case atStart => exact ⟨0, w2.heap.size, by omega, rfl, rfl, Nat.le_refl _, HX0, Lib.hid (HD2.out.alloc _), by (repeat' (first | (with_reducible exact Below.refl _ _) | (with_reducible assumption) | (with_reducible refine Below.alloc ?_ ?_ _) | (with_reducible refine Below.setCell ?_ ?_ _) | (with_reducible refine below_row ?_ ?_ _) | (with_reducible refine Below.drew ?_) | (with_reducible refine below_drewN ?_ _) | (with_reducible refine Below.trans ?_ (Below.mono (by assumption) ?_)) | (first | exact Nat.le_refl _ | omega | (simp; done) | (simp; omega) | (exact Below.size (by assumption))))), by (repeat' (first | (with_reducible exact Below.refl _ _) | (with_reducible assumption) | (with_reducible refine Below.alloc ?_ ?_ _) | (with_reducible refine Below.setCell ?_ ?_ _) | (with_reducible refine below_row ?_ ?_ _) | (with_reducible refine Below.drew ?_) | (with_reducible refine below_drewN ?_ _) | (with_reducible refine Below.trans ?_ (Below.mono (by assumption) ?_)) | (first | exact Nat.le_refl _ | omega | (simp; done) | (simp; omega) | (exact Below.size (by assumption)))))⟩
  case round =>
    obtain ⟨k, g, hk, rfl, rfl, hg, HG, HD, hb, hb2⟩ := hrel
    have hz := hb.size
    have hz2 := hb2.size
    by_cases hlt : k < zs.length + 1
    · have kl1 : (k : Int) ≤ (zs.length : Int) := by omega
      have HFB := Lib.hid (fun y => depF_bd xs k y)
      obtain ⟨wo, rfl⟩ : ∃ wo : World, wo = wr := ⟨_, rfl⟩
      have zgo := HG.out.lt
      have HN0 : Hid (Lies (wo.alloc (.cells (rowN (List.replicate zs.length 0)) 3)) wo.heap.size 3 (rowN (zs.map ((xs.take 0).foldl (issG (depF xs k)) (fun _ => 0))))) := Lib.hid (by
        refine made0 ?_
        rw [eq_comm, List.map_eq_replicate_iff]; intro x _; rfl)
      have HDF : Hid (depF xs (k + 1) = (xs.take xs.length).foldl (issG (depF xs k)) (fun _ => 0)) := Lib.hid (by rw [List.take_length]; rfl)
      generalize depF xs k = f at *
      go_wp2_with fail
      go_loopw [7] (fun i wr => ∃ (p : Nat), p ≤ xs.length ∧ i = .int .i64 p ∧ Hid (Lies wr wo.heap.size 3 (rowN (zs.map ((xs.take p).foldl (issG f) (fun _ => 0))))) ∧ Hid (Lies wr g 3 (rowN (zs.map f))) ∧ Hid (Lies wr w.heap.size 24 #[.slice A xs.length c]) ∧ Below w.heap.size w wr ∧ Below w2.heap.size w2 wr) (fun i _ => xs.length - (intOf i).toNat)
      case atStart => exact ⟨0, by omega, rfl, HN0, Lib.hid (HG.out.alloc _), Lib.hid (HD.out.alloc _), by (repeat' (first | (with_reducible exact Below.refl _ _) | (with_reducible assumption) | (with_reducible refine Below.alloc ?_ ?_ _) | (with_reducible refine Below.setCell ?_ ?_ _) | (with_reducible refine below_row ?_ ?_ _) | (with_reducible refine Below.drew ?_) | (with_reducible refine below_drewN ?_ _) | (with_reducible refine Below.trans ?_ (Below.mono (by assumption) ?_)) | (first | exact Nat.le_refl _ | omega | (simp; done) | (simp; omega) | (exact Below.size (by assumption))))), by (repeat' (first | (with_reducible exact Below.refl _ _) | (with_reducible assumption) | (with_reducible refine Below.alloc ?_ ?_ _) | (with_reducible refine Below.setCell ?_ ?_ _) | (with_reducible refine below_row ?_ ?_ _) | (with_reducible refine Below.drew ?_) | (with_reducible refine below_drewN ?_ _) | (with_reducible refine Below.trans ?_ (Below.mono (by assumption) ?_)) | (first | exact Nat.le_refl _ | omega | (simp; done) | (simp; omega) | (exact Below.size (by assumption)))))⟩
      case round =>
        obtain ⟨p, hp, rfl, HN, HG2, HD3, hb3, hb4⟩ := hrel
        have d0 := HD3.out.cell 0
        have zd := HD3.out.lt
        by_cases hpt : p < xs.length
        · obtain rfl := HA.out (by omega)
          obtain ⟨q0, q1, q2, q3, q4, -, hit, -⟩ := (HC.out.after hb3) p hpt
          have hit0 := (HC.out p hpt).2.2.2.2.2.2.1
          obtain ⟨-, e4⟩ := HC.out.slices hpt
          obtain ⟨Ai, ci, bi, oi, hvi, hAi, hci⟩ := hit0
          have hli := HSM.out xs[p] (List.getElem_mem hpt)
          rw [hvi] at q3
          generalize vd p = v4 at *
          obtain ⟨A4, n4, c4, rfl⟩ := e4
          have HAI := Lib.hid hAi
          have HCI := Lib.hid hci
          have HFS := Lib.hid (foldG_step (f := f) hpt (fun _ => 0))
          have HDM := Lib.hid (HXD.out xs[p] (List.getElem_mem hpt))
          have HIM := Lib.hid (HXI.out xs[p] (List.getElem_mem hpt))
          have kl2 : (p : Int) < (xs.length : Int) := by omega
          have HBG : Hid (∀ y, 0 ≤ ((xs.take p).foldl (issG f) (fun _ => 0)) y ∧ ((xs.take p).foldl (issG f) (fun _ => 0)) y ≤ k + 1) := Lib.hid (foldG_bd (f := f) (B := (k : Int) + 1) (by omega) (fun y => by have := HFB.out y; omega) _ _ (fun y => ⟨Int.le_refl _, by show (0 : Int) ≤ (k : Int) + 1; omega⟩))
          clear hAi hci hvi hit
          generalize (xs.take p).foldl (issG f) (fun _ => 0) = G at *
          generalize xs[p] = x at *
          obtain ⟨d, l, kk, il, di⟩ := x
          simp only at q0 q1 q2 q3 HAI HCI hli
          obtain ⟨pa, hpa, hpz, hpi⟩ := idx_spec HDM.out
          have HPZ := Lib.hid hpz
          have HIX := Lib.hid (fun W (hW : Below w2.heap.size w2 W) => rIndex_any A6 c6 b6 o6 zs d W HA6.out (by omega) (fun i h => cell_keep hW (HC6.out i h)))
          simp only at hpi
          rw [hpi] at HIX
          have pl1 : (pa : Int) < (zs.length : Int) := by omega
          have hold := rowMap_at hpz HN.out
          have hfre := HN.out.free pa
          have zn := HN.out.lt
          clear hpz hpi hpa
          have LX := Lib.hid (Lies.made wr 45 #[.int .i64 d, .int .i64 l, .int .u8 kk, .slice Ai il.length ci, .slice A4 n4 c4])
          have hgw := HG2.out.lt
          obtain ⟨wp, rfl⟩ : ∃ wp : World, wp = wr := ⟨_, rfl⟩
          have HGD : Hid (∃ gd, G d = gd) := Lib.hid ⟨_, rfl⟩
          obtain ⟨gd, hgd⟩ := HGD.out
          have HGE := Lib.hid hgd
          rw [hgd] at hold
          clear hgd HGD
          have HBI := Lib.hid (fun l => itemsG_bd (d := d) (f := f) (B := (k : Int) + 1) (fun y => by have := HFB.out y; omega) l _ (bump_bd (d := d) HBG.out (show (1 : Int) ≤ (k : Int) + 1 by omega)))
          have gd0 : 0 ≤ gd ∧ gd ≤ (k : Int) + 1 := by rw [← HGE.out]; exact HBG.out d
          by_cases hgs : gd < 1
          · have hmx1 : (1 : Int) = max (G d) 1 := by rw [HGE.out, Int.max_def]; split <;> omega
            have HV := Lib.hid (fun W (hW : Lies W wo.heap.size 3 (rowN (zs.map G))) => bump_row HPZ.out HST.out hmx1 hW)
            clear hmx1
            go_wp2_with fail
            refine (HIX.out _ (by (repeat' (first | (with_reducible exact Below.refl _ _) | (with_reducible assumption) | (with_reducible refine Below.alloc ?_ ?_ _) | (with_reducible refine Below.setCell ?_ ?_ _) | (with_reducible refine below_row ?_ ?_ _) | (with_reducible refine Below.drew ?_) | (with_reducible refine below_drewN ?_ _) | (with_reducible refine Below.trans ?_ (Below.mono (by assumption) ?_)) | (first | exact Nat.le_refl _ | omega | (simp; done) | (simp; omega) | (exact Below.size (by assumption))))))).mono ?_
            rintro e w9 ⟨rfl, rfl⟩
            have x0 := LX.out.cell 0
            have x3 := LX.out.cell 3
            have zx := LX.out.lt
            go_wp2_with fail
            go_loopw [10] (fun i wr => ∃ (j : Nat), j ≤ il.length ∧ i = .int .i64 j ∧ Hid (Lies wr wo.heap.size 3 (rowN (zs.map (itemsG f d (bump G d 1) (il.take j))))) ∧ Hid (Lies wr g 3 (rowN (zs.map f))) ∧ Hid (Lies wr w.heap.size 24 #[.slice (some ⟨b, off, none⟩) xs.length c]) ∧ Hid (Lies wr wp.heap.size 45 #[.int .i64 d, .int .i64 l, .int .u8 kk, .slice Ai il.length ci, .slice A4 n4 c4]) ∧ Below w.heap.size w wr ∧ Below w2.heap.size w2 wr) (fun i _ => il.length - (intOf i).toNat)
            case atStart =>
              refine ⟨0, by omega, rfl, ?_, ?_, ?_, ?_, by (repeat' (first | (with_reducible exact Below.refl _ _) | (with_reducible assumption) | (with_reducible refine Below.alloc ?_ ?_ _) | (with_reducible refine Below.setCell ?_ ?_ _) | (with_reducible refine below_row ?_ ?_ _) | (with_reducible refine Below.drew ?_) | (with_reducible refine below_drewN ?_ _) | (with_reducible refine Below.trans ?_ (Below.mono (by assumption) ?_)) | (first | exact Nat.le_refl _ | omega | (simp; done) | (simp; omega) | (exact Below.size (by assumption))))), by (repeat' (first | (with_reducible exact Below.refl _ _) | (with_reducible assumption) | (with_reducible refine Below.alloc ?_ ?_ _) | (with_reducible refine Below.setCell ?_ ?_ _) | (with_reducible refine below_row ?_ ?_ _) | (with_reducible refine Below.drew ?_) | (with_reducible refine below_drewN ?_ _) | (with_reducible refine Below.trans ?_ (Below.mono (by assumption) ?_)) | (first | exact Nat.le_refl _ | omega | (simp; done) | (simp; omega) | (exact Below.size (by assumption)))))⟩
              · exact Lib.hid ((HV.out _ HN.out).alloc _)
              · exact Lib.hid ((HG2.out.other (p := ⟨wo.heap.size, pa, none⟩) (by simp only; omega) _).alloc _)
              · exact Lib.hid ((HD3.out.other (p := ⟨wo.heap.size, pa, none⟩) (by simp only; omega) _).alloc _)
              · have := Lies.made (wp.setCell ⟨wo.heap.size, pa, none⟩ (.int .i64 1)) 45 #[.int .i64 d, .int .i64 l, .int .u8 kk, .slice Ai il.length ci, .slice A4 n4 c4]
                rw [World.size_setCell] at this
                exact Lib.hid this
            case round =>
              obtain ⟨j, hj, rfl, HN4, HG4, HD4, HL4, hb5, hb6⟩ := hrel
              have y3 := HL4.out.cell 3
              have zl := HL4.out.lt
              by_cases hjt : j < il.length
              · obtain rfl := HAI.out (by omega)
                have kl3 : (j : Int) < (il.length : Int) := by omega
                have i0 := cell_keep hb5 (HCI.out j hjt).1
                have HIS := Lib.hid (itemsG_step (f := f) (d := d) hjt (bump G d 1))
                obtain ⟨pb, hpb, hpz, hpi⟩ := idx_spec (HIM.out il[j] (List.getElem_mem hjt))
                have HIY := Lib.hid (fun W (hW : Below w2.heap.size w2 W) => rIndex_any A6 c6 b6 o6 zs il[j].1 W HA6.out (by omega) (fun i h => cell_keep hW (HC6.out i h)))
                try dsimp only at hpi
                rw [hpi] at HIY
                have pl2 : (pb : Int) < (zs.length : Int) := by omega
                have u0 := rowMap_at hpz HG4.out
                have hF0 := HFB.out il[j].1
                clear hpz hpi hpb
                have hI0 := HBI.out (il.take j) d
                have v0 := rowMap_at HPZ.out HN4.out
                have HX5 : Hid (∀ vv : Int, vv = max (itemsG f d (bump G d 1) (il.take j) d) (1 + f il[j].1) → ∀ W, Lies W wo.heap.size 3 (rowN (zs.map (itemsG f d (bump G d 1) (il.take j)))) → Lies (W.setCell ⟨wo.heap.size, pa, none⟩ (.int .i64 vv)) wo.heap.size 3 (rowN (zs.map (itemsG f d (bump G d 1) (il.take (j + 1)))))) := Lib.hid (fun vv hv W hW => by rw [HIS.out]; exact bump_row HPZ.out HST.out hv hW)
                have fr := HN4.out.free pa
                have zn4 := HN4.out.lt
                have zg4 := HG4.out.lt
                clear HIS
                generalize itemsG f d (bump G d 1) (il.take j) = G2 at *
                generalize hff : f il[j].1 = fv at *
                generalize hgg : G2 d = gv at *
                have HGV := Lib.hid hgg
                have HFV := Lib.hid hff
                clear hgg hff
                generalize il[j] = it at *
                obtain ⟨ia, ic⟩ := it
                try dsimp only at i0 u0 HIY HX5 hF0
                have kx1 : IntKind.i64.wrap (1 + fv) = 1 + fv := IntWalk.i64_in _ (by omega)
                obtain ⟨wq, rfl⟩ : ∃ wq : World, wq = wr := ⟨_, rfl⟩
                by_cases hlt2 : gv < 1 + fv
                · have HX6 := Lib.hid (HX5.out (1 + fv) (by rw [Int.max_def]; split <;> omega))
                  clear HX5
                  go_wp2_with fail
                  refine wp_region_still_tail 20 (by kernel_rfl) (by kernel_rfl) ?_
                  simp only [List.take_succ_cons, List.take_zero, List.drop_succ_cons, List.drop_zero]
                  repeat still_step
                  have HIZ := HIY.out wq.drew (by (repeat' (first | (with_reducible exact Below.refl _ _) | (with_reducible assumption) | (with_reducible refine Below.alloc ?_ ?_ _) | (with_reducible refine Below.setCell ?_ ?_ _) | (with_reducible refine below_row ?_ ?_ _) | (with_reducible refine Below.drew ?_) | (with_reducible refine below_drewN ?_ _) | (with_reducible refine Below.trans ?_ (Below.mono (by assumption) ?_)) | (first | exact Nat.le_refl _ | omega | (simp; done) | (simp; omega) | (exact Below.size (by assumption))))))
                  still_call (HIZ.mono (fun e w9 h => (⟨h.1, h.2.symm⟩ : _ ∧ _)))
                  repeat still_step
                  refine wpStill_nil ?_
                  go_wp2_with fail
                  go_roundw
                  case rel =>
                    refine ⟨j + 1, by omega, by go_num, Lib.hid (HX6.out _ HN4.out.drew), Lib.hid (HG4.out.drew.other (p := ⟨wo.heap.size, pa, none⟩) (by simp only; omega) _), Lib.hid (HD4.out.drew.other (p := ⟨wo.heap.size, pa, none⟩) (by simp only; omega) _), Lib.hid (HL4.out.drew.other (p := ⟨wo.heap.size, pa, none⟩) (by simp only; omega) _), by (repeat' (first | (with_reducible exact Below.refl _ _) | (with_reducible assumption) | (with_reducible refine Below.alloc ?_ ?_ _) | (with_reducible refine Below.setCell ?_ ?_ _) | (with_reducible refine below_row ?_ ?_ _) | (with_reducible refine Below.drew ?_) | (with_reducible refine below_drewN ?_ _) | (with_reducible refine Below.trans ?_ (Below.mono (by assumption) ?_)) | (first | exact Nat.le_refl _ | omega | (simp; done) | (simp; omega) | (exact Below.size (by assumption))))), by (repeat' (first | (with_reducible exact Below.refl _ _) | (with_reducible assumption) | (with_reducible refine Below.alloc ?_ ?_ _) | (with_reducible refine Below.setCell ?_ ?_ _) | (with_reducible refine below_row ?_ ?_ _) | (with_reducible refine Below.drew ?_) | (with_reducible refine below_drewN ?_ _) | (with_reducible refine Below.trans ?_ (Below.mono (by assumption) ?_)) | (first | exact Nat.le_refl _ | omega | (simp; done) | (simp; omega) | (exact Below.size (by assumption)))))⟩
                  case measure => simp [intOf]; omega
                · have HX6 := Lib.hid (HX5.out gv (by rw [Int.max_def]; split <;> omega))
                  clear HX5
                  go_wp2_with fail
                  refine wp_region_still_tail 20 (by kernel_rfl) (by kernel_rfl) ?_
                  simp only [List.take_succ_cons, List.take_zero, List.drop_succ_cons, List.drop_zero]
                  repeat still_step
                  have HIZ := HIY.out wq.drew (by (repeat' (first | (with_reducible exact Below.refl _ _) | (with_reducible assumption) | (with_reducible refine Below.alloc ?_ ?_ _) | (with_reducible refine Below.setCell ?_ ?_ _) | (with_reducible refine below_row ?_ ?_ _) | (with_reducible refine Below.drew ?_) | (with_reducible refine below_drewN ?_ _) | (with_reducible refine Below.trans ?_ (Below.mono (by assumption) ?_)) | (first | exact Nat.le_refl _ | omega | (simp; done) | (simp; omega) | (exact Below.size (by assumption))))))
                  still_call (HIZ.mono (fun e w9 h => (⟨h.1, h.2.symm⟩ : _ ∧ _)))
                  repeat still_step
                  refine wpStill_nil ?_
                  go_wp2_with fail
                  go_roundw
                  case rel =>
                    refine ⟨j + 1, by omega, by go_num, Lib.hid (HX6.out _ HN4.out.drew), Lib.hid (HG4.out.drew.other (p := ⟨wo.heap.size, pa, none⟩) (by simp only; omega) _), Lib.hid (HD4.out.drew.other (p := ⟨wo.heap.size, pa, none⟩) (by simp only; omega) _), Lib.hid (HL4.out.drew.other (p := ⟨wo.heap.size, pa, none⟩) (by simp only; omega) _), by (repeat' (first | (with_reducible exact Below.refl _ _) | (with_reducible assumption) | (with_reducible refine Below.alloc ?_ ?_ _) | (with_reducible refine Below.setCell ?_ ?_ _) | (with_reducible refine below_row ?_ ?_ _) | (with_reducible refine Below.drew ?_) | (with_reducible refine below_drewN ?_ _) | (with_reducible refine Below.trans ?_ (Below.mono (by assumption) ?_)) | (first | exact Nat.le_refl _ | omega | (simp; done) | (simp; omega) | (exact Below.size (by assumption))))), by (repeat' (first | (with_reducible exact Below.refl _ _) | (with_reducible assumption) | (with_reducible refine Below.alloc ?_ ?_ _) | (with_reducible refine Below.setCell ?_ ?_ _) | (with_reducible refine below_row ?_ ?_ _) | (with_reducible refine Below.drew ?_) | (with_reducible refine below_drewN ?_ _) | (with_reducible refine Below.trans ?_ (Below.mono (by assumption) ?_)) | (first | exact Nat.le_refl _ | omega | (simp; done) | (simp; omega) | (exact Below.size (by assumption)))))⟩
                  case measure => simp [intOf]; omega
              · have hje : j = il.length := by omega
                subst hje
                have HN5 := HN4.out
                rw [List.take_length] at HN5
                have HN6 : Hid (Lies wr wo.heap.size 3 (rowN (zs.map ((xs.take (p + 1)).foldl (issG f) (fun _ => 0))))) := Lib.hid (by rw [HFS.out]; exact HN5)
                clear HN5 HFS
                go_wp2_with fail
                go_roundw
                case rel => exact ⟨p + 1, by omega, by go_num, HN6, HG4, HD4, by (repeat' (first | (with_reducible exact Below.refl _ _) | (with_reducible assumption) | (with_reducible refine Below.alloc ?_ ?_ _) | (with_reducible refine Below.setCell ?_ ?_ _) | (with_reducible refine below_row ?_ ?_ _) | (with_reducible refine Below.drew ?_) | (with_reducible refine below_drewN ?_ _) | (with_reducible refine Below.trans ?_ (Below.mono (by assumption) ?_)) | (first | exact Nat.le_refl _ | omega | (simp; done) | (simp; omega) | (exact Below.size (by assumption))))), by (repeat' (first | (with_reducible exact Below.refl _ _) | (with_reducible assumption) | (with_reducible refine Below.alloc ?_ ?_ _) | (with_reducible refine Below.setCell ?_ ?_ _) | (with_reducible refine below_row ?_ ?_ _) | (with_reducible refine Below.drew ?_) | (with_reducible refine below_drewN ?_ _) | (with_reducible refine Below.trans ?_ (Below.mono (by assumption) ?_)) | (first | exact Nat.le_refl _ | omega | (simp; done) | (simp; omega) | (exact Below.size (by assumption)))))⟩
                case measure => simp [intOf]; omega
          · have hmx1 : gd = max (G d) 1 := by rw [HGE.out, Int.max_def]; split <;> omega
            have HV := Lib.hid (fun W (hW : Lies W wo.heap.size 3 (rowN (zs.map G))) => bump_row HPZ.out HST.out hmx1 hW)
            clear hmx1
            go_wp2_with fail
            refine (HIX.out _ (by (repeat' (first | (with_reducible exact Below.refl _ _) | (with_reducible assumption) | (with_reducible refine Below.alloc ?_ ?_ _) | (with_reducible refine Below.setCell ?_ ?_ _) | (with_reducible refine below_row ?_ ?_ _) | (with_reducible refine Below.drew ?_) | (with_reducible refine below_drewN ?_ _) | (with_reducible refine Below.trans ?_ (Below.mono (by assumption) ?_)) | (first | exact Nat.le_refl _ | omega | (simp; done) | (simp; omega) | (exact Below.size (by assumption))))))).mono ?_
            rintro e w9 ⟨rfl, rfl⟩
            have x0 := LX.out.cell 0
            have x3 := LX.out.cell 3
            have zx := LX.out.lt
            go_wp2_with fail
            go_loopw [10] (fun i wr => ∃ (j : Nat), j ≤ il.length ∧ i = .int .i64 j ∧ Hid (Lies wr wo.heap.size 3 (rowN (zs.map (itemsG f d (bump G d 1) (il.take j))))) ∧ Hid (Lies wr g 3 (rowN (zs.map f))) ∧ Hid (Lies wr w.heap.size 24 #[.slice (some ⟨b, off, none⟩) xs.length c]) ∧ Hid (Lies wr wp.heap.size 45 #[.int .i64 d, .int .i64 l, .int .u8 kk, .slice Ai il.length ci, .slice A4 n4 c4]) ∧ Below w.heap.size w wr ∧ Below w2.heap.size w2 wr) (fun i _ => il.length - (intOf i).toNat)
            case atStart =>
              refine ⟨0, by omega, rfl, ?_, ?_, ?_, ?_, by (repeat' (first | (with_reducible exact Below.refl _ _) | (with_reducible assumption) | (with_reducible refine Below.alloc ?_ ?_ _) | (with_reducible refine Below.setCell ?_ ?_ _) | (with_reducible refine below_row ?_ ?_ _) | (with_reducible refine Below.drew ?_) | (with_reducible refine below_drewN ?_ _) | (with_reducible refine Below.trans ?_ (Below.mono (by assumption) ?_)) | (first | exact Nat.le_refl _ | omega | (simp; done) | (simp; omega) | (exact Below.size (by assumption))))), by (repeat' (first | (with_reducible exact Below.refl _ _) | (with_reducible assumption) | (with_reducible refine Below.alloc ?_ ?_ _) | (with_reducible refine Below.setCell ?_ ?_ _) | (with_reducible refine below_row ?_ ?_ _) | (with_reducible refine Below.drew ?_) | (with_reducible refine below_drewN ?_ _) | (with_reducible refine Below.trans ?_ (Below.mono (by assumption) ?_)) | (first | exact Nat.le_refl _ | omega | (simp; done) | (simp; omega) | (exact Below.size (by assumption)))))⟩
              · exact Lib.hid ((HV.out _ HN.out).alloc _)
              · exact Lib.hid ((HG2.out.other (p := ⟨wo.heap.size, pa, none⟩) (by simp only; omega) _).alloc _)
              · exact Lib.hid ((HD3.out.other (p := ⟨wo.heap.size, pa, none⟩) (by simp only; omega) _).alloc _)
              · have := Lies.made (wp.setCell ⟨wo.heap.size, pa, none⟩ (.int .i64 gd)) 45 #[.int .i64 d, .int .i64 l, .int .u8 kk, .slice Ai il.length ci, .slice A4 n4 c4]
                rw [World.size_setCell] at this
                exact Lib.hid this
            case round =>
              obtain ⟨j, hj, rfl, HN4, HG4, HD4, HL4, hb5, hb6⟩ := hrel
              have y3 := HL4.out.cell 3
              have zl := HL4.out.lt
              by_cases hjt : j < il.length
              · obtain rfl := HAI.out (by omega)
                have kl3 : (j : Int) < (il.length : Int) := by omega
                have i0 := cell_keep hb5 (HCI.out j hjt).1
                have HIS := Lib.hid (itemsG_step (f := f) (d := d) hjt (bump G d 1))
                obtain ⟨pb, hpb, hpz, hpi⟩ := idx_spec (HIM.out il[j] (List.getElem_mem hjt))
                have HIY := Lib.hid (fun W (hW : Below w2.heap.size w2 W) => rIndex_any A6 c6 b6 o6 zs il[j].1 W HA6.out (by omega) (fun i h => cell_keep hW (HC6.out i h)))
                try dsimp only at hpi
                rw [hpi] at HIY
                have pl2 : (pb : Int) < (zs.length : Int) := by omega
                have u0 := rowMap_at hpz HG4.out
                have hF0 := HFB.out il[j].1
                clear hpz hpi hpb
                have hI0 := HBI.out (il.take j) d
                have v0 := rowMap_at HPZ.out HN4.out
                have HX5 : Hid (∀ vv : Int, vv = max (itemsG f d (bump G d 1) (il.take j) d) (1 + f il[j].1) → ∀ W, Lies W wo.heap.size 3 (rowN (zs.map (itemsG f d (bump G d 1) (il.take j)))) → Lies (W.setCell ⟨wo.heap.size, pa, none⟩ (.int .i64 vv)) wo.heap.size 3 (rowN (zs.map (itemsG f d (bump G d 1) (il.take (j + 1)))))) := Lib.hid (fun vv hv W hW => by rw [HIS.out]; exact bump_row HPZ.out HST.out hv hW)
                have fr := HN4.out.free pa
                have zn4 := HN4.out.lt
                have zg4 := HG4.out.lt
                clear HIS
                generalize itemsG f d (bump G d 1) (il.take j) = G2 at *
                generalize hff : f il[j].1 = fv at *
                generalize hgg : G2 d = gv at *
                have HGV := Lib.hid hgg
                have HFV := Lib.hid hff
                clear hgg hff
                generalize il[j] = it at *
                obtain ⟨ia, ic⟩ := it
                try dsimp only at i0 u0 HIY HX5 hF0
                have kx1 : IntKind.i64.wrap (1 + fv) = 1 + fv := IntWalk.i64_in _ (by omega)
                obtain ⟨wq, rfl⟩ : ∃ wq : World, wq = wr := ⟨_, rfl⟩
                by_cases hlt2 : gv < 1 + fv
                · have HX6 := Lib.hid (HX5.out (1 + fv) (by rw [Int.max_def]; split <;> omega))
                  clear HX5
                  go_wp2_with fail
                  refine wp_region_still_tail 20 (by kernel_rfl) (by kernel_rfl) ?_
                  simp only [List.take_succ_cons, List.take_zero, List.drop_succ_cons, List.drop_zero]
                  repeat still_step
                  have HIZ := HIY.out wq.drew (by (repeat' (first | (with_reducible exact Below.refl _ _) | (with_reducible assumption) | (with_reducible refine Below.alloc ?_ ?_ _) | (with_reducible refine Below.setCell ?_ ?_ _) | (with_reducible refine below_row ?_ ?_ _) | (with_reducible refine Below.drew ?_) | (with_reducible refine below_drewN ?_ _) | (with_reducible refine Below.trans ?_ (Below.mono (by assumption) ?_)) | (first | exact Nat.le_refl _ | omega | (simp; done) | (simp; omega) | (exact Below.size (by assumption))))))
                  still_call (HIZ.mono (fun e w9 h => (⟨h.1, h.2.symm⟩ : _ ∧ _)))
                  repeat still_step
                  refine wpStill_nil ?_
                  go_wp2_with fail
                  go_roundw
                  case rel =>
                    refine ⟨j + 1, by omega, by go_num, Lib.hid (HX6.out _ HN4.out.drew), Lib.hid (HG4.out.drew.other (p := ⟨wo.heap.size, pa, none⟩) (by simp only; omega) _), Lib.hid (HD4.out.drew.other (p := ⟨wo.heap.size, pa, none⟩) (by simp only; omega) _), Lib.hid (HL4.out.drew.other (p := ⟨wo.heap.size, pa, none⟩) (by simp only; omega) _), by (repeat' (first | (with_reducible exact Below.refl _ _) | (with_reducible assumption) | (with_reducible refine Below.alloc ?_ ?_ _) | (with_reducible refine Below.setCell ?_ ?_ _) | (with_reducible refine below_row ?_ ?_ _) | (with_reducible refine Below.drew ?_) | (with_reducible refine below_drewN ?_ _) | (with_reducible refine Below.trans ?_ (Below.mono (by assumption) ?_)) | (first | exact Nat.le_refl _ | omega | (simp; done) | (simp; omega) | (exact Below.size (by assumption))))), by (repeat' (first | (with_reducible exact Below.refl _ _) | (with_reducible assumption) | (with_reducible refine Below.alloc ?_ ?_ _) | (with_reducible refine Below.setCell ?_ ?_ _) | (with_reducible refine below_row ?_ ?_ _) | (with_reducible refine Below.drew ?_) | (with_reducible refine below_drewN ?_ _) | (with_reducible refine Below.trans ?_ (Below.mono (by assumption) ?_)) | (first | exact Nat.le_refl _ | omega | (simp; done) | (simp; omega) | (exact Below.size (by assumption)))))⟩
                  case measure => simp [intOf]; omega
                · have HX6 := Lib.hid (HX5.out gv (by rw [Int.max_def]; split <;> omega))
                  clear HX5
                  go_wp2_with fail
                  refine wp_region_still_tail 20 (by kernel_rfl) (by kernel_rfl) ?_
                  simp only [List.take_succ_cons, List.take_zero, List.drop_succ_cons, List.drop_zero]
                  repeat still_step
                  have HIZ := HIY.out wq.drew (by (repeat' (first | (with_reducible exact Below.refl _ _) | (with_reducible assumption) | (with_reducible refine Below.alloc ?_ ?_ _) | (with_reducible refine Below.setCell ?_ ?_ _) | (with_reducible refine below_row ?_ ?_ _) | (with_reducible refine Below.drew ?_) | (with_reducible refine below_drewN ?_ _) | (with_reducible refine Below.trans ?_ (Below.mono (by assumption) ?_)) | (first | exact Nat.le_refl _ | omega | (simp; done) | (simp; omega) | (exact Below.size (by assumption))))))
                  still_call (HIZ.mono (fun e w9 h => (⟨h.1, h.2.symm⟩ : _ ∧ _)))
                  repeat still_step
                  refine wpStill_nil ?_
                  go_wp2_with fail
                  go_roundw
                  case rel =>
                    refine ⟨j + 1, by omega, by go_num, Lib.hid (HX6.out _ HN4.out.drew), Lib.hid (HG4.out.drew.other (p := ⟨wo.heap.size, pa, none⟩) (by simp only; omega) _), Lib.hid (HD4.out.drew.other (p := ⟨wo.heap.size, pa, none⟩) (by simp only; omega) _), Lib.hid (HL4.out.drew.other (p := ⟨wo.heap.size, pa, none⟩) (by simp only; omega) _), by (repeat' (first | (with_reducible exact Below.refl _ _) | (with_reducible assumption) | (with_reducible refine Below.alloc ?_ ?_ _) | (with_reducible refine Below.setCell ?_ ?_ _) | (with_reducible refine below_row ?_ ?_ _) | (with_reducible refine Below.drew ?_) | (with_reducible refine below_drewN ?_ _) | (with_reducible refine Below.trans ?_ (Below.mono (by assumption) ?_)) | (first | exact Nat.le_refl _ | omega | (simp; done) | (simp; omega) | (exact Below.size (by assumption))))), by (repeat' (first | (with_reducible exact Below.refl _ _) | (with_reducible assumption) | (with_reducible refine Below.alloc ?_ ?_ _) | (with_reducible refine Below.setCell ?_ ?_ _) | (with_reducible refine below_row ?_ ?_ _) | (with_reducible refine Below.drew ?_) | (with_reducible refine below_drewN ?_ _) | (with_reducible refine Below.trans ?_ (Below.mono (by assumption) ?_)) | (first | exact Nat.le_refl _ | omega | (simp; done) | (simp; omega) | (exact Below.size (by assumption)))))⟩
                  case measure => simp [intOf]; omega
              · have hje : j = il.length := by omega
                subst hje
                have HN5 := HN4.out
                rw [List.take_length] at HN5
                have HN6 : Hid (Lies wr wo.heap.size 3 (rowN (zs.map ((xs.take (p + 1)).foldl (issG f) (fun _ => 0))))) := Lib.hid (by rw [HFS.out]; exact HN5)
                clear HN5 HFS
                go_wp2_with fail
                go_roundw
                case rel => exact ⟨p + 1, by omega, by go_num, HN6, HG4, HD4, by (repeat' (first | (with_reducible exact Below.refl _ _) | (with_reducible assumption) | (with_reducible refine Below.alloc ?_ ?_ _) | (with_reducible refine Below.setCell ?_ ?_ _) | (with_reducible refine below_row ?_ ?_ _) | (with_reducible refine Below.drew ?_) | (with_reducible refine below_drewN ?_ _) | (with_reducible refine Below.trans ?_ (Below.mono (by assumption) ?_)) | (first | exact Nat.le_refl _ | omega | (simp; done) | (simp; omega) | (exact Below.size (by assumption))))), by (repeat' (first | (with_reducible exact Below.refl _ _) | (with_reducible assumption) | (with_reducible refine Below.alloc ?_ ?_ _) | (with_reducible refine Below.setCell ?_ ?_ _) | (with_reducible refine below_row ?_ ?_ _) | (with_reducible refine Below.drew ?_) | (with_reducible refine below_drewN ?_ _) | (with_reducible refine Below.trans ?_ (Below.mono (by assumption) ?_)) | (first | exact Nat.le_refl _ | omega | (simp; done) | (simp; omega) | (exact Below.size (by assumption)))))⟩
                case measure => simp [intOf]; omega
        · have hpe : p = xs.length := by omega
          subst hpe
          have HN9 := Lib.hid HN.out
          rw [← HDF.out] at HN9
          go_wp2_with fail
          go_roundw
          case rel => exact ⟨k + 1, wo.heap.size, by omega, by go_num, rfl, by omega, HN9, HD3, hb3, hb4⟩
          case measure => simp [intOf]; omega
    · have hke : k = zs.length + 1 := by omega
      subst hke
      go_wp2_with fail
      go_ret
      exact ⟨g, rfl, HG.out, hb⟩
end Go.Proofs.Ytngaepgepcnhkaa
